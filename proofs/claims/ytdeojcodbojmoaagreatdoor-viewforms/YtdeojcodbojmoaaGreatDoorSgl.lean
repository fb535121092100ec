/- pars.reader: what binds ahead of & and |. -/
import Derived.Test.YtdeojcodbojmoaaGreatDoorAtr
import Derived.Deep.RegionWith
import Derived.BigRegion
namespace Go.Proofs.YtdeojcodbojmoaaGreatDoor
open Go.RowKit
set_option maxRecDepth 100000
set_option linter.unusedVariables false

theorem At.alloc {w W : World} {rb : Nat} (h : At w rb W) (o : Obj) : At w rb (W.alloc o) :=
  ⟨fun i => by rw [World.cell?_alloc_past _ _ _ (hn := h.s)]; exact h.z i, fun i => by rw [World.frozen?_alloc_past _ _ _ (hn := h.s)]; exact h.f i, by have := h.s; simp; omega, h.k.alloc _⟩

theorem Rdr.alloc {w : World} {rb : Nat} {ws : List Wd.Word} {i : Nat} {e : Int} (h : Rdr w rb ws i e) (o : Obj) : Rdr (w.alloc o) rb ws i e := h.below ((Below.refl _ w).alloc h.lt _)

set_option maxHeartbeats 4000000 in
theorem single_star83 (rb : Nat) (ws : List Wd.Word) (p : Nat) (e : Int) (w : World) (hg : Ps.Goods ws) (h : Rdr w rb ws p e) (e42 : Ps.isMark ws p 42 = true)  : Calls Tryz.prog 83 #[.pointer (some ⟨rb, 0, none⟩)] w (PR rb ws e (some (.leaf 1 0 0 0 ⟨#[]⟩, p + 1)) w) := by
  have hlt := h.lt
  have h0 : Rdr (w.alloc (.cells #[.int .i64 0, .int .i64 0, .int .i64 0, .int .i64 0, .string ⟨#[]⟩, .slice none 0 0] 53)) rb ws p e := h.alloc _
  have HA0 : Hid (At w rb (w.alloc (.cells #[.int .i64 0, .int .i64 0, .int .i64 0, .int .i64 0, .string ⟨#[]⟩, .slice none 0 0] 53))) := At.start w rb
  have c42 := fun w' (h' : Rdr w' rb ws p e) => has82 rb ws p e 42 ⟨#[42]⟩ rfl w' h'
  rw [isM_eq, e42] at c42
  simp only [if_true] at c42
  clear e42
  unfold PR
  go_enter Tryz.func83, Tryz.ntmps83
  go_wp2_with fail
  refine (c42 _ h0).mono ?_
  rintro r w42 ⟨rfl, hr42, hk42⟩
  have HA42 : Hid (At w rb w42) := HA0.out.step hlt hk42
  clear hk42 HA0 c42 h0
  have HA := HA42
  have HR : Hid (Rdr w42 rb ws (p + 1) e) := hr42
  clear HA42 hr42
  have z1 := HA.out.z
  have f1 := HA.out.f
  have s1 := HA.out.s
  go_wp2
  refine bodyPost_ret (v := .tuple #[.agg #[.int .i64 1, .int .i64 0, .int .i64 0, .int .i64 0, .string ⟨#[]⟩, .slice none 0 0], .nilIface]) (by simp [results, Tryz.results83, go_sem, z1]) rfl ⟨1, 0, 0, 0, ⟨#[]⟩, none, 0, rfl, ⟨rfl, rfl, rfl, rfl, rfl, rfl, rfl⟩, HR.out.below (below_six hlt), kept_six HA.out.k⟩

set_option maxHeartbeats 4000000 in
theorem single_none83 (rb : Nat) (ws : List Wd.Word) (p : Nat) (e : Int) (w : World) (hg : Ps.Goods ws) (h : Rdr w rb ws p e) (e42 : Ps.isMark ws p 42 = false) (e64 : Ps.isMark ws p 64 = false) (e94 : Ps.isMark ws p 94 = false) (e33 : Ps.isMark ws p 33 = false) (e40 : Ps.isMark ws p 40 = false)  : Calls Tryz.prog 83 #[.pointer (some ⟨rb, 0, none⟩)] w (PR rb ws e (none) w) := by
  have hlt := h.lt
  have h0 : Rdr (w.alloc (.cells #[.int .i64 0, .int .i64 0, .int .i64 0, .int .i64 0, .string ⟨#[]⟩, .slice none 0 0] 53)) rb ws p e := h.alloc _
  have HA0 : Hid (At w rb (w.alloc (.cells #[.int .i64 0, .int .i64 0, .int .i64 0, .int .i64 0, .string ⟨#[]⟩, .slice none 0 0] 53))) := At.start w rb
  have c42 := fun w' (h' : Rdr w' rb ws p e) => has82 rb ws p e 42 ⟨#[42]⟩ rfl w' h'
  rw [isM_eq, e42] at c42
  simp only [Bool.false_eq_true, if_false] at c42
  have c64 := fun w' (h' : Rdr w' rb ws p e) => has82 rb ws p e 64 ⟨#[64]⟩ rfl w' h'
  rw [isM_eq, e64] at c64
  simp only [Bool.false_eq_true, if_false] at c64
  have c94 := fun w' (h' : Rdr w' rb ws p e) => has82 rb ws p e 94 ⟨#[94]⟩ rfl w' h'
  rw [isM_eq, e94] at c94
  simp only [Bool.false_eq_true, if_false] at c94
  have c33 := fun w' (h' : Rdr w' rb ws p e) => has82 rb ws p e 33 ⟨#[33]⟩ rfl w' h'
  rw [isM_eq, e33] at c33
  simp only [Bool.false_eq_true, if_false] at c33
  have c40 := fun w' (h' : Rdr w' rb ws p e) => has82 rb ws p e 40 ⟨#[40]⟩ rfl w' h'
  rw [isM_eq, e40] at c40
  simp only [Bool.false_eq_true, if_false] at c40
  clear e42 e64 e94 e33 e40
  unfold PR
  go_enter Tryz.func83, Tryz.ntmps83
  go_wp2_with fail
  refine (c42 _ h0).mono ?_
  rintro r w42 ⟨rfl, hr42, hk42⟩
  have HA42 : Hid (At w rb w42) := HA0.out.step hlt hk42
  clear hk42 HA0 c42 h0
  go_wp2_with fail
  refine (c64 _ hr42).mono ?_
  rintro r w64 ⟨rfl, hr64, hk64⟩
  have HA64 : Hid (At w rb w64) := HA42.out.step hlt hk64
  clear hk64 HA42 c64 hr42
  go_wp2_with fail
  refine (c94 _ hr64).mono ?_
  rintro r w94 ⟨rfl, hr94, hk94⟩
  have HA94 : Hid (At w rb w94) := HA64.out.step hlt hk94
  clear hk94 HA64 c94 hr64
  go_wp2_with fail
  refine (c33 _ hr94).mono ?_
  rintro r w33 ⟨rfl, hr33, hk33⟩
  have HA33 : Hid (At w rb w33) := HA94.out.step hlt hk33
  clear hk33 HA94 c33 hr94
  go_wp2_with fail
  refine (c40 _ hr33).mono ?_
  rintro r w40 ⟨rfl, hr40, hk40⟩
  have HA40 : Hid (At w rb w40) := HA33.out.step hlt hk40
  clear hk40 HA33 c40 hr33
  have c := misfit53 rb ws p e w40 hr40
  have HA1 := HA40
  clear HA40 hr40
  go_wp2_with fail
  refine c.mono ?_
  rintro r w1 ⟨y, rfl, hb1⟩
  clear c
  have HA : Hid (At w rb w1) := HA1.out.step hlt (Kept.of_below hb1)
  clear hb1 HA1
  have z1 := HA.out.z
  have f1 := HA.out.f
  have s1 := HA.out.s
  go_wp2
  refine bodyPost_ret (v := .tuple #[.agg #[.int .i64 0, .int .i64 0, .int .i64 0, .int .i64 0, .string ⟨#[]⟩, .slice none 0 0], _]) (by simp [results, Tryz.results83, go_sem, z1] <;> rfl) rfl ⟨0, 0, 0, 0, ⟨#[]⟩, none, 0, _, _, _, rfl, mis_zero y, kept_six HA.out.k⟩

set_option maxHeartbeats 4000000 in
theorem single_tag83 (rb : Nat) (ws : List Wd.Word) (p : Nat) (e : Int) (w : World) (hg : Ps.Goods ws) (h : Rdr w rb ws p e) (e42 : Ps.isMark ws p 42 = false) (e64 : Ps.isMark ws p 64 = false) (e94 : Ps.isMark ws p 94 = true) (tx : List UInt8) (hn : Ps.name ws (p + 1) = some tx) : Calls Tryz.prog 83 #[.pointer (some ⟨rb, 0, none⟩)] w (PR rb ws e (some (.leaf 4 0 0 0 ⟨tx.toArray⟩, p + 1 + 1)) w) := by
  have hlt := h.lt
  have h0 : Rdr (w.alloc (.cells #[.int .i64 0, .int .i64 0, .int .i64 0, .int .i64 0, .string ⟨#[]⟩, .slice none 0 0] 53)) rb ws p e := h.alloc _
  have HA0 : Hid (At w rb (w.alloc (.cells #[.int .i64 0, .int .i64 0, .int .i64 0, .int .i64 0, .string ⟨#[]⟩, .slice none 0 0] 53))) := At.start w rb
  have c42 := fun w' (h' : Rdr w' rb ws p e) => has82 rb ws p e 42 ⟨#[42]⟩ rfl w' h'
  rw [isM_eq, e42] at c42
  simp only [Bool.false_eq_true, if_false] at c42
  have c64 := fun w' (h' : Rdr w' rb ws p e) => has82 rb ws p e 64 ⟨#[64]⟩ rfl w' h'
  rw [isM_eq, e64] at c64
  simp only [Bool.false_eq_true, if_false] at c64
  have c94 := fun w' (h' : Rdr w' rb ws p e) => has82 rb ws p e 94 ⟨#[94]⟩ rfl w' h'
  rw [isM_eq, e94] at c94
  simp only [if_true] at c94
  clear e42 e64 e94
  unfold PR
  go_enter Tryz.func83, Tryz.ntmps83
  go_wp2_with fail
  refine (c42 _ h0).mono ?_
  rintro r w42 ⟨rfl, hr42, hk42⟩
  have HA42 : Hid (At w rb w42) := HA0.out.step hlt hk42
  clear hk42 HA0 c42 h0
  go_wp2_with fail
  refine (c64 _ hr42).mono ?_
  rintro r w64 ⟨rfl, hr64, hk64⟩
  have HA64 : Hid (At w rb w64) := HA42.out.step hlt hk64
  clear hk64 HA42 c64 hr42
  go_wp2_with fail
  refine (c94 _ hr64).mono ?_
  rintro r w94 ⟨rfl, hr94, hk94⟩
  have HA94 : Hid (At w rb w94) := HA64.out.step hlt hk94
  clear hk94 HA64 c94 hr64
  have c := name_yes rb ws (p + 1) e tx w94 hr94 hn
  have HA1 := HA94
  clear HA94 hr94 hn
  go_wp2_with fail
  refine c.mono ?_
  rintro r w1 ⟨rfl, hr1, hk1⟩
  clear c
  have HA : Hid (At w rb w1) := HA1.out.step hlt hk1
  have HR : Hid (Rdr w1 rb ws (p + 1 + 1) e) := hr1
  clear hk1 HA1 hr1
  go_wp2_with fail
  refine (within_none _ _).mono ?_
  rintro r w2 ⟨rfl, rfl⟩
  have z1 := HA.out.z
  have f1 := HA.out.f
  have s1 := HA.out.s
  go_wp2
  refine bodyPost_ret (v := .tuple #[.agg #[.int .i64 4, .int .i64 0, .int .i64 0, .int .i64 0, .string ⟨tx.toArray⟩, .slice none 0 0], .nilIface]) (by simp [results, Tryz.results83, go_sem, z1]) rfl ⟨4, 0, 0, 0, ⟨tx.toArray⟩, none, 0, rfl, ⟨rfl, rfl, rfl, rfl, rfl, rfl, rfl⟩, HR.out.below (below_six hlt), kept_six HA.out.k⟩

set_option maxHeartbeats 4000000 in
theorem single_tag_no83 (rb : Nat) (ws : List Wd.Word) (p : Nat) (e : Int) (w : World) (hg : Ps.Goods ws) (h : Rdr w rb ws p e) (e42 : Ps.isMark ws p 42 = false) (e64 : Ps.isMark ws p 64 = false) (e94 : Ps.isMark ws p 94 = true) (hn : Ps.name ws (p + 1) = none) : Calls Tryz.prog 83 #[.pointer (some ⟨rb, 0, none⟩)] w (PR rb ws e (none) w) := by
  have hlt := h.lt
  have h0 : Rdr (w.alloc (.cells #[.int .i64 0, .int .i64 0, .int .i64 0, .int .i64 0, .string ⟨#[]⟩, .slice none 0 0] 53)) rb ws p e := h.alloc _
  have HA0 : Hid (At w rb (w.alloc (.cells #[.int .i64 0, .int .i64 0, .int .i64 0, .int .i64 0, .string ⟨#[]⟩, .slice none 0 0] 53))) := At.start w rb
  have c42 := fun w' (h' : Rdr w' rb ws p e) => has82 rb ws p e 42 ⟨#[42]⟩ rfl w' h'
  rw [isM_eq, e42] at c42
  simp only [Bool.false_eq_true, if_false] at c42
  have c64 := fun w' (h' : Rdr w' rb ws p e) => has82 rb ws p e 64 ⟨#[64]⟩ rfl w' h'
  rw [isM_eq, e64] at c64
  simp only [Bool.false_eq_true, if_false] at c64
  have c94 := fun w' (h' : Rdr w' rb ws p e) => has82 rb ws p e 94 ⟨#[94]⟩ rfl w' h'
  rw [isM_eq, e94] at c94
  simp only [if_true] at c94
  clear e42 e64 e94
  unfold PR
  go_enter Tryz.func83, Tryz.ntmps83
  go_wp2_with fail
  refine (c42 _ h0).mono ?_
  rintro r w42 ⟨rfl, hr42, hk42⟩
  have HA42 : Hid (At w rb w42) := HA0.out.step hlt hk42
  clear hk42 HA0 c42 h0
  go_wp2_with fail
  refine (c64 _ hr42).mono ?_
  rintro r w64 ⟨rfl, hr64, hk64⟩
  have HA64 : Hid (At w rb w64) := HA42.out.step hlt hk64
  clear hk64 HA42 c64 hr42
  go_wp2_with fail
  refine (c94 _ hr64).mono ?_
  rintro r w94 ⟨rfl, hr94, hk94⟩
  have HA94 : Hid (At w rb w94) := HA64.out.step hlt hk94
  clear hk94 HA64 c94 hr64
  have c := name_no rb ws (p + 1) e w94 hr94 hn
  have HA1 := HA94
  clear HA94 hr94 hn
  go_wp2_with fail
  refine c.mono ?_
  rintro r w1 ⟨y, rfl, hb1⟩
  clear c
  have HA : Hid (At w rb w1) := HA1.out.step hlt (Kept.of_below hb1)
  clear hb1 HA1
  go_wp2_with fail
  refine (within_one _ _ _ _).mono ?_
  rintro r w2 ⟨rfl, rfl⟩
  have z1 := HA.out.z
  have f1 := HA.out.f
  have s1 := HA.out.s
  go_wp2
  refine bodyPost_ret (v := .tuple #[.agg #[.int .i64 4, .int .i64 0, .int .i64 0, .int .i64 0, .string ⟨#[]⟩, .slice none 0 0], _]) (by simp [results, Tryz.results83, go_sem, z1] <;> rfl) rfl ⟨4, 0, 0, 0, ⟨#[]⟩, none, 0, _, _, _, rfl, (mis_zero y).one _, kept_six HA.out.k⟩

theorem kept_six_drew {P : Nat → Prop} {w w' : World} (h : Kept P w w') {u0 u1 u2 u3 u4 u5 : Value} : Kept P w (((((((w'.setCell ⟨w.heap.size, 0, none⟩ u0).setCell ⟨w.heap.size, 1, none⟩ u1).setCell ⟨w.heap.size, 2, none⟩ u2).setCell ⟨w.heap.size, 3, none⟩ u3).setCell ⟨w.heap.size, 4, none⟩ u4).setCell ⟨w.heap.size, 5, none⟩ u5).drew) := (kept_six h).drew
theorem below_six_drew {w W : World} {rb : Nat} (hlt : rb < w.heap.size) {u0 u1 u2 u3 u4 u5 : Value} : Below (rb + 1) W (((((((W.setCell ⟨w.heap.size, 0, none⟩ u0).setCell ⟨w.heap.size, 1, none⟩ u1).setCell ⟨w.heap.size, 2, none⟩ u2).setCell ⟨w.heap.size, 3, none⟩ u3).setCell ⟨w.heap.size, 4, none⟩ u4).setCell ⟨w.heap.size, 5, none⟩ u5).drew) := (below_six hlt).drew
theorem past_six_drew {w W : World} {m : Nat} (hm : w.heap.size < m) {u0 u1 u2 u3 u4 u5 : Value} : Kept (Past m) W (((((((W.setCell ⟨w.heap.size, 0, none⟩ u0).setCell ⟨w.heap.size, 1, none⟩ u1).setCell ⟨w.heap.size, 2, none⟩ u2).setCell ⟨w.heap.size, 3, none⟩ u3).setCell ⟨w.heap.size, 4, none⟩ u4).setCell ⟨w.heap.size, 5, none⟩ u5).drew) := by
  have f : ∀ o : Nat, ∀ k, k < W.heap.size → Past m k → k ≠ (⟨w.heap.size, o, none⟩ : Addr).block := fun o k _ hp => by show k ≠ w.heap.size; unfold Past at hp; omega
  exact (((((((Kept.refl (Past m) W).setCell (f 0) u0).setCell (f 1) u1).setCell (f 2) u2).setCell (f 3) u3).setCell (f 4) u4).setCell (f 5) u5).drew
theorem Six.kept {P : Nat → Prop} {w w' : World} {b j : Nat} {o k l h : Int} {t : ByteArray} {x : Option Addr} {n : Nat} (s : Six w b j o k l h t x n) (hp : P b) (hk : Kept P w w') : Six w' b j o k l h t x n := s.of (fun i => hk.cell s.lt hp)

set_option maxHeartbeats 4000000 in
theorem single_at83 (rb : Nat) (ws : List Wd.Word) (p : Nat) (e : Int) (w : World) (hg : Ps.Goods ws) (h : Rdr w rb ws p e) (e42 : Ps.isMark ws p 42 = false) (e64 : Ps.isMark ws p 64 = true) (f : Ps.Ft) (q : Nat) (hn : Ps.key ws (p + 1) = some (f, q)) : Calls Tryz.prog 83 #[.pointer (some ⟨rb, 0, none⟩)] w (PR rb ws e (some (f, q)) w) := by
  have hlt := h.lt
  have h0 : Rdr (w.alloc (.cells #[.int .i64 0, .int .i64 0, .int .i64 0, .int .i64 0, .string ⟨#[]⟩, .slice none 0 0] 53)) rb ws p e := h.alloc _
  have HA0 : Hid (At w rb (w.alloc (.cells #[.int .i64 0, .int .i64 0, .int .i64 0, .int .i64 0, .string ⟨#[]⟩, .slice none 0 0] 53))) := At.start w rb
  have c42 := fun w' (h' : Rdr w' rb ws p e) => has82 rb ws p e 42 ⟨#[42]⟩ rfl w' h'
  rw [isM_eq, e42] at c42
  simp only [Bool.false_eq_true, if_false] at c42
  have c64 := fun w' (h' : Rdr w' rb ws p e) => has82 rb ws p e 64 ⟨#[64]⟩ rfl w' h'
  rw [isM_eq, e64] at c64
  simp only [if_true] at c64
  clear e42 e64
  unfold PR
  go_enter Tryz.func83, Tryz.ntmps83
  go_wp2_with fail
  refine (c42 _ h0).mono ?_
  rintro r w42 ⟨rfl, hr42, hk42⟩
  have HA42 : Hid (At w rb w42) := HA0.out.step hlt hk42
  clear hk42 HA0 c42 h0
  go_wp2_with fail
  refine (c64 _ hr42).mono ?_
  rintro r w64 ⟨rfl, hr64, hk64⟩
  have HA64 : Hid (At w rb w64) := HA42.out.step hlt hk64
  clear hk64 HA42 c64 hr42
  have c := attribute90 rb ws (p + 1) e w64 hg hr64
  rw [hn] at c
  clear hn
  unfold PR at c
  have HA1 := HA64
  have sW := HA64.out.s
  clear HA64 hr64
  go_wp2_with fail
  refine c.mono ?_
  rintro r w1 ⟨o1, k1, l1, h1, t1, x1, n1, rfl, hl1, hr1, hk1⟩
  clear c
  have s12 : w64.heap.size ≤ w1.heap.size := hk1.size
  replace HA1 : Hid (At w rb w1) := HA1.out.step hlt hk1
  obtain ⟨U, hU⟩ : ∃ U, U = w1.alloc (.cells #[.int .i64 o1, .int .i64 k1, .int .i64 l1, .int .i64 h1, .string t1, .slice x1 n1 n1] 53) := ⟨_, rfl⟩
  have HA : Hid (At w rb U) := by rw [hU]; exact HA1.out.alloc _
  have y0 : U.cell? ⟨w1.heap.size, 0, none⟩ = some (.int .i64 o1) := by rw [hU]; simp
  have y1 : U.cell? ⟨w1.heap.size, 1, none⟩ = some (.int .i64 k1) := by rw [hU]; simp
  have y2 : U.cell? ⟨w1.heap.size, 2, none⟩ = some (.int .i64 l1) := by rw [hU]; simp
  have y3 : U.cell? ⟨w1.heap.size, 3, none⟩ = some (.int .i64 h1) := by rw [hU]; simp
  have y4 : U.cell? ⟨w1.heap.size, 4, none⟩ = some (.string t1) := by rw [hU]; simp
  have y5 : U.cell? ⟨w1.heap.size, 5, none⟩ = some (.slice x1 n1 n1) := by rw [hU]; simp
  have HU : Hid (U = w1.alloc (.cells #[.int .i64 o1, .int .i64 k1, .int .i64 l1, .int .i64 h1, .string t1, .slice x1 n1 n1] 53)) := hU
  have s2 : w1.heap.size < U.heap.size := by rw [hU]; simp
  have s3 : w.heap.size < w1.heap.size := HA1.out.s
  have ne1 : w.heap.size ≠ w1.heap.size := by omega
  have ne2 : w1.heap.size ≠ w.heap.size := by omega
  have ne3 : w.heap.size ≠ U.heap.size := by omega
  have ne4 : U.heap.size ≠ w.heap.size := by omega
  have ne5 : w1.heap.size ≠ U.heap.size := by omega
  have ne6 : U.heap.size ≠ w1.heap.size := by omega
  have HR : Hid (Rdr U rb ws q e) := by rw [hU]; exact hr1.alloc _
  have HL : Hid (Lies (Past w64.heap.size) U f o1 k1 l1 h1 t1 x1 n1) := Lies.kept (by rw [hU]; exact (Kept.refl _ w1).alloc _) f hl1
  clear hU hk1 HA1 hr1 hl1
  go_wp2_with fail
  rw [← HU.out]
  have z1 := HA.out.z
  have f1 := HA.out.f
  have s1 := HA.out.s
  clear HU
  go_region_with (first | (go_at_call 51; refine (within_none _ _).mono ?_; rintro r w2 ⟨rfl, rfl⟩))
  all_goals (try go_wp2)
  all_goals (
    refine bodyPost_ret (v := .tuple #[.agg #[.int .i64 o1, .int .i64 k1, .int .i64 l1, .int .i64 h1, .string t1, .slice x1 n1 n1], .nilIface]) (by simp [results, Tryz.results83, go_sem, z1]) rfl ⟨o1, k1, l1, h1, t1, x1, n1, rfl, Lies.mono (P := Past w64.heap.size) (fun b _ hb => by unfold Past at *; omega) f (Lies.kept (past_six_drew sW) f HL.out), HR.out.below (below_six_drew hlt), kept_six_drew HA.out.k⟩)

set_option maxHeartbeats 4000000 in
theorem single_at_no83 (rb : Nat) (ws : List Wd.Word) (p : Nat) (e : Int) (w : World) (hg : Ps.Goods ws) (h : Rdr w rb ws p e) (e42 : Ps.isMark ws p 42 = false) (e64 : Ps.isMark ws p 64 = true) (hn : Ps.key ws (p + 1) = none) : Calls Tryz.prog 83 #[.pointer (some ⟨rb, 0, none⟩)] w (PR rb ws e (none) w) := by
  have hlt := h.lt
  have h0 : Rdr (w.alloc (.cells #[.int .i64 0, .int .i64 0, .int .i64 0, .int .i64 0, .string ⟨#[]⟩, .slice none 0 0] 53)) rb ws p e := h.alloc _
  have HA0 : Hid (At w rb (w.alloc (.cells #[.int .i64 0, .int .i64 0, .int .i64 0, .int .i64 0, .string ⟨#[]⟩, .slice none 0 0] 53))) := At.start w rb
  have c42 := fun w' (h' : Rdr w' rb ws p e) => has82 rb ws p e 42 ⟨#[42]⟩ rfl w' h'
  rw [isM_eq, e42] at c42
  simp only [Bool.false_eq_true, if_false] at c42
  have c64 := fun w' (h' : Rdr w' rb ws p e) => has82 rb ws p e 64 ⟨#[64]⟩ rfl w' h'
  rw [isM_eq, e64] at c64
  simp only [if_true] at c64
  clear e42 e64
  unfold PR
  go_enter Tryz.func83, Tryz.ntmps83
  go_wp2_with fail
  refine (c42 _ h0).mono ?_
  rintro r w42 ⟨rfl, hr42, hk42⟩
  have HA42 : Hid (At w rb w42) := HA0.out.step hlt hk42
  clear hk42 HA0 c42 h0
  go_wp2_with fail
  refine (c64 _ hr42).mono ?_
  rintro r w64 ⟨rfl, hr64, hk64⟩
  have HA64 : Hid (At w rb w64) := HA42.out.step hlt hk64
  clear hk64 HA42 c64 hr42
  have c := attribute90 rb ws (p + 1) e w64 hg hr64
  rw [hn] at c
  clear hn
  unfold PR at c
  have HA1 := HA64
  have sW := HA64.out.s
  clear HA64 hr64
  go_wp2_with fail
  refine c.mono ?_
  rintro r w1 ⟨o1, k1, l1, h1, t1, x1, n1, m, T, v, rfl, hm, hk1⟩
  clear c
  have s12 : w64.heap.size ≤ w1.heap.size := hk1.size
  replace HA1 : Hid (At w rb w1) := HA1.out.step hlt hk1
  obtain ⟨U, hU⟩ : ∃ U, U = w1.alloc (.cells #[.int .i64 o1, .int .i64 k1, .int .i64 l1, .int .i64 h1, .string t1, .slice x1 n1 n1] 53) := ⟨_, rfl⟩
  have HA : Hid (At w rb U) := by rw [hU]; exact HA1.out.alloc _
  have y0 : U.cell? ⟨w1.heap.size, 0, none⟩ = some (.int .i64 o1) := by rw [hU]; simp
  have y1 : U.cell? ⟨w1.heap.size, 1, none⟩ = some (.int .i64 k1) := by rw [hU]; simp
  have y2 : U.cell? ⟨w1.heap.size, 2, none⟩ = some (.int .i64 l1) := by rw [hU]; simp
  have y3 : U.cell? ⟨w1.heap.size, 3, none⟩ = some (.int .i64 h1) := by rw [hU]; simp
  have y4 : U.cell? ⟨w1.heap.size, 4, none⟩ = some (.string t1) := by rw [hU]; simp
  have y5 : U.cell? ⟨w1.heap.size, 5, none⟩ = some (.slice x1 n1 n1) := by rw [hU]; simp
  have HU : Hid (U = w1.alloc (.cells #[.int .i64 o1, .int .i64 k1, .int .i64 l1, .int .i64 h1, .string t1, .slice x1 n1 n1] 53)) := hU
  have s2 : w1.heap.size < U.heap.size := by rw [hU]; simp
  have s3 : w.heap.size < w1.heap.size := HA1.out.s
  have ne1 : w.heap.size ≠ w1.heap.size := by omega
  have ne2 : w1.heap.size ≠ w.heap.size := by omega
  have ne3 : w.heap.size ≠ U.heap.size := by omega
  have ne4 : U.heap.size ≠ w.heap.size := by omega
  have ne5 : w1.heap.size ≠ U.heap.size := by omega
  have ne6 : U.heap.size ≠ w1.heap.size := by omega
  have HM : Hid (Mis m (.iface T v)) := hm
  clear hU hk1 HA1 hm
  go_wp2_with fail
  rw [← HU.out]
  have z1 := HA.out.z
  have f1 := HA.out.f
  have s1 := HA.out.s
  clear HU
  go_region_with (first | (go_at_call 51; refine (within_one _ _ _ _).mono ?_; rintro r w2 ⟨rfl, rfl⟩))
  all_goals (try go_wp2)
  all_goals (
    refine bodyPost_ret (v := .tuple #[.agg #[.int .i64 o1, .int .i64 k1, .int .i64 l1, .int .i64 h1, .string t1, .slice x1 n1 n1], _]) (by simp [results, Tryz.results83, go_sem, z1] <;> rfl) rfl ⟨o1, k1, l1, h1, t1, x1, n1, _, _, _, rfl, HM.out.one _, kept_six_drew HA.out.k⟩)

end Go.Proofs.YtdeojcodbojmoaaGreatDoor
