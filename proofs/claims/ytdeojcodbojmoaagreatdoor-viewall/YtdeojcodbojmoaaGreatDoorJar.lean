/- pars.reader: what binds ahead of & and |. -/
/- pars.reader: what binds ahead of & and |, with !. -/
/- pars.reader: a row of parts with a mark between them. -/
/- pars.reader: rows of |, and the reader whole. -/
import Derived.Test.YtdeojcodbojmoaaGreatDoorJal
import Derived.Test.YtdeojcodbojmoaaGreatDoorJaa
import Derived.Deep.RegionWith
import Derived.BigRegion
import Derived.Deep.RegionHeld3
namespace Go.Proofs.YtdeojcodbojmoaaGreatDoor
open Go.RowKit
set_option maxRecDepth 100000
set_option linter.unusedVariables false

theorem At.alloc {w W : World} {rb : Nat} (h : At w rb W) (o : Obj) : At w rb (W.alloc o) :=
  ⟨fun i => by rw [World.cell?_alloc_past _ _ _ (hn := h.s)]; exact h.z i, fun i => by rw [World.frozen?_alloc_past _ _ _ (hn := h.s)]; exact h.f i, by have := h.s; simp; omega, h.k.alloc _⟩

theorem Rdr.alloc {w : World} {rb : Nat} {ws : List Wd.Word} {i : Nat} {e : Int} (h : Rdr w rb ws i e) (o : Obj) : Rdr (w.alloc o) rb ws i e := h.below ((Below.refl _ w).alloc h.lt _)

set_option maxHeartbeats 4000000 in
theorem single_star83 (rb : Nat) (ws : List Wd.Word) (p : Nat) (e : Int) (w : World) (hg : Ps.Goods ws) (h : Rdr w rb ws p e) (e42 : Ps.isMark ws p 42 = true)  : Calls Tryz.prog 83 #[.pointer (some ⟨rb, 0, none⟩)] w (PR rb ws e (some (.leaf 1 0 0 0 ⟨#[]⟩, p + 1)) w) := by
  have hlt := h.lt
  have h0 : Rdr (w.alloc (.cells #[.int .i64 0, .int .i64 0, .int .i64 0, .int .i64 0, .string ⟨#[]⟩, .slice none 0 0] 53)) rb ws p e := h.alloc _
  have HA0 : Hid (At w rb (w.alloc (.cells #[.int .i64 0, .int .i64 0, .int .i64 0, .int .i64 0, .string ⟨#[]⟩, .slice none 0 0] 53))) := At.start w rb
  have c42 := fun w' (h' : Rdr w' rb ws p e) => has82 rb ws p e 42 ⟨#[42]⟩ rfl w' h'
  rw [isM_eq, e42] at c42
  simp only [if_true] at c42
  clear e42
  unfold PR
  go_enter Tryz.func83, Tryz.ntmps83
  go_wp2_with fail
  refine (c42 _ h0).mono ?_
  rintro r w42 ⟨rfl, hr42, hk42⟩
  have HA42 : Hid (At w rb w42) := HA0.out.step hlt hk42
  clear hk42 HA0 c42 h0
  have HA := HA42
  have HR : Hid (Rdr w42 rb ws (p + 1) e) := hr42
  clear HA42 hr42
  have z1 := HA.out.z
  have f1 := HA.out.f
  have s1 := HA.out.s
  go_wp2
  refine bodyPost_ret (v := .tuple #[.agg #[.int .i64 1, .int .i64 0, .int .i64 0, .int .i64 0, .string ⟨#[]⟩, .slice none 0 0], .nilIface]) (by simp [results, Tryz.results83, go_sem, z1]) rfl ⟨1, 0, 0, 0, ⟨#[]⟩, none, 0, rfl, ⟨rfl, rfl, rfl, rfl, rfl, rfl, rfl⟩, HR.out.below (below_six hlt), kept_six HA.out.k⟩

set_option maxHeartbeats 4000000 in
theorem single_none83 (rb : Nat) (ws : List Wd.Word) (p : Nat) (e : Int) (w : World) (hg : Ps.Goods ws) (h : Rdr w rb ws p e) (e42 : Ps.isMark ws p 42 = false) (e64 : Ps.isMark ws p 64 = false) (e94 : Ps.isMark ws p 94 = false) (e33 : Ps.isMark ws p 33 = false) (e40 : Ps.isMark ws p 40 = false)  : Calls Tryz.prog 83 #[.pointer (some ⟨rb, 0, none⟩)] w (PR rb ws e (none) w) := by
  have hlt := h.lt
  have h0 : Rdr (w.alloc (.cells #[.int .i64 0, .int .i64 0, .int .i64 0, .int .i64 0, .string ⟨#[]⟩, .slice none 0 0] 53)) rb ws p e := h.alloc _
  have HA0 : Hid (At w rb (w.alloc (.cells #[.int .i64 0, .int .i64 0, .int .i64 0, .int .i64 0, .string ⟨#[]⟩, .slice none 0 0] 53))) := At.start w rb
  have c42 := fun w' (h' : Rdr w' rb ws p e) => has82 rb ws p e 42 ⟨#[42]⟩ rfl w' h'
  rw [isM_eq, e42] at c42
  simp only [Bool.false_eq_true, if_false] at c42
  have c64 := fun w' (h' : Rdr w' rb ws p e) => has82 rb ws p e 64 ⟨#[64]⟩ rfl w' h'
  rw [isM_eq, e64] at c64
  simp only [Bool.false_eq_true, if_false] at c64
  have c94 := fun w' (h' : Rdr w' rb ws p e) => has82 rb ws p e 94 ⟨#[94]⟩ rfl w' h'
  rw [isM_eq, e94] at c94
  simp only [Bool.false_eq_true, if_false] at c94
  have c33 := fun w' (h' : Rdr w' rb ws p e) => has82 rb ws p e 33 ⟨#[33]⟩ rfl w' h'
  rw [isM_eq, e33] at c33
  simp only [Bool.false_eq_true, if_false] at c33
  have c40 := fun w' (h' : Rdr w' rb ws p e) => has82 rb ws p e 40 ⟨#[40]⟩ rfl w' h'
  rw [isM_eq, e40] at c40
  simp only [Bool.false_eq_true, if_false] at c40
  clear e42 e64 e94 e33 e40
  unfold PR
  go_enter Tryz.func83, Tryz.ntmps83
  go_wp2_with fail
  refine (c42 _ h0).mono ?_
  rintro r w42 ⟨rfl, hr42, hk42⟩
  have HA42 : Hid (At w rb w42) := HA0.out.step hlt hk42
  clear hk42 HA0 c42 h0
  go_wp2_with fail
  refine (c64 _ hr42).mono ?_
  rintro r w64 ⟨rfl, hr64, hk64⟩
  have HA64 : Hid (At w rb w64) := HA42.out.step hlt hk64
  clear hk64 HA42 c64 hr42
  go_wp2_with fail
  refine (c94 _ hr64).mono ?_
  rintro r w94 ⟨rfl, hr94, hk94⟩
  have HA94 : Hid (At w rb w94) := HA64.out.step hlt hk94
  clear hk94 HA64 c94 hr64
  go_wp2_with fail
  refine (c33 _ hr94).mono ?_
  rintro r w33 ⟨rfl, hr33, hk33⟩
  have HA33 : Hid (At w rb w33) := HA94.out.step hlt hk33
  clear hk33 HA94 c33 hr94
  go_wp2_with fail
  refine (c40 _ hr33).mono ?_
  rintro r w40 ⟨rfl, hr40, hk40⟩
  have HA40 : Hid (At w rb w40) := HA33.out.step hlt hk40
  clear hk40 HA33 c40 hr33
  have c := misfit53 rb ws p e w40 hr40
  have HA1 := HA40
  clear HA40 hr40
  go_wp2_with fail
  refine c.mono ?_
  rintro r w1 ⟨y, rfl, hb1⟩
  clear c
  have HA : Hid (At w rb w1) := HA1.out.step hlt (Kept.of_below hb1)
  clear hb1 HA1
  have z1 := HA.out.z
  have f1 := HA.out.f
  have s1 := HA.out.s
  go_wp2
  refine bodyPost_ret (v := .tuple #[.agg #[.int .i64 0, .int .i64 0, .int .i64 0, .int .i64 0, .string ⟨#[]⟩, .slice none 0 0], _]) (by simp [results, Tryz.results83, go_sem, z1] <;> rfl) rfl ⟨0, 0, 0, 0, ⟨#[]⟩, none, 0, _, _, _, rfl, mis_zero y, kept_six HA.out.k⟩

set_option maxHeartbeats 4000000 in
theorem single_tag83 (rb : Nat) (ws : List Wd.Word) (p : Nat) (e : Int) (w : World) (hg : Ps.Goods ws) (h : Rdr w rb ws p e) (e42 : Ps.isMark ws p 42 = false) (e64 : Ps.isMark ws p 64 = false) (e94 : Ps.isMark ws p 94 = true) (tx : List UInt8) (hn : Ps.name ws (p + 1) = some tx) : Calls Tryz.prog 83 #[.pointer (some ⟨rb, 0, none⟩)] w (PR rb ws e (some (.leaf 4 0 0 0 ⟨tx.toArray⟩, p + 1 + 1)) w) := by
  have hlt := h.lt
  have h0 : Rdr (w.alloc (.cells #[.int .i64 0, .int .i64 0, .int .i64 0, .int .i64 0, .string ⟨#[]⟩, .slice none 0 0] 53)) rb ws p e := h.alloc _
  have HA0 : Hid (At w rb (w.alloc (.cells #[.int .i64 0, .int .i64 0, .int .i64 0, .int .i64 0, .string ⟨#[]⟩, .slice none 0 0] 53))) := At.start w rb
  have c42 := fun w' (h' : Rdr w' rb ws p e) => has82 rb ws p e 42 ⟨#[42]⟩ rfl w' h'
  rw [isM_eq, e42] at c42
  simp only [Bool.false_eq_true, if_false] at c42
  have c64 := fun w' (h' : Rdr w' rb ws p e) => has82 rb ws p e 64 ⟨#[64]⟩ rfl w' h'
  rw [isM_eq, e64] at c64
  simp only [Bool.false_eq_true, if_false] at c64
  have c94 := fun w' (h' : Rdr w' rb ws p e) => has82 rb ws p e 94 ⟨#[94]⟩ rfl w' h'
  rw [isM_eq, e94] at c94
  simp only [if_true] at c94
  clear e42 e64 e94
  unfold PR
  go_enter Tryz.func83, Tryz.ntmps83
  go_wp2_with fail
  refine (c42 _ h0).mono ?_
  rintro r w42 ⟨rfl, hr42, hk42⟩
  have HA42 : Hid (At w rb w42) := HA0.out.step hlt hk42
  clear hk42 HA0 c42 h0
  go_wp2_with fail
  refine (c64 _ hr42).mono ?_
  rintro r w64 ⟨rfl, hr64, hk64⟩
  have HA64 : Hid (At w rb w64) := HA42.out.step hlt hk64
  clear hk64 HA42 c64 hr42
  go_wp2_with fail
  refine (c94 _ hr64).mono ?_
  rintro r w94 ⟨rfl, hr94, hk94⟩
  have HA94 : Hid (At w rb w94) := HA64.out.step hlt hk94
  clear hk94 HA64 c94 hr64
  have c := name_yes rb ws (p + 1) e tx w94 hr94 hn
  have HA1 := HA94
  clear HA94 hr94 hn
  go_wp2_with fail
  refine c.mono ?_
  rintro r w1 ⟨rfl, hr1, hk1⟩
  clear c
  have HA : Hid (At w rb w1) := HA1.out.step hlt hk1
  have HR : Hid (Rdr w1 rb ws (p + 1 + 1) e) := hr1
  clear hk1 HA1 hr1
  go_wp2_with fail
  refine (within_none _ _).mono ?_
  rintro r w2 ⟨rfl, rfl⟩
  have z1 := HA.out.z
  have f1 := HA.out.f
  have s1 := HA.out.s
  go_wp2
  refine bodyPost_ret (v := .tuple #[.agg #[.int .i64 4, .int .i64 0, .int .i64 0, .int .i64 0, .string ⟨tx.toArray⟩, .slice none 0 0], .nilIface]) (by simp [results, Tryz.results83, go_sem, z1]) rfl ⟨4, 0, 0, 0, ⟨tx.toArray⟩, none, 0, rfl, ⟨rfl, rfl, rfl, rfl, rfl, rfl, rfl⟩, HR.out.below (below_six hlt), kept_six HA.out.k⟩

set_option maxHeartbeats 4000000 in
theorem single_tag_no83 (rb : Nat) (ws : List Wd.Word) (p : Nat) (e : Int) (w : World) (hg : Ps.Goods ws) (h : Rdr w rb ws p e) (e42 : Ps.isMark ws p 42 = false) (e64 : Ps.isMark ws p 64 = false) (e94 : Ps.isMark ws p 94 = true) (hn : Ps.name ws (p + 1) = none) : Calls Tryz.prog 83 #[.pointer (some ⟨rb, 0, none⟩)] w (PR rb ws e (none) w) := by
  have hlt := h.lt
  have h0 : Rdr (w.alloc (.cells #[.int .i64 0, .int .i64 0, .int .i64 0, .int .i64 0, .string ⟨#[]⟩, .slice none 0 0] 53)) rb ws p e := h.alloc _
  have HA0 : Hid (At w rb (w.alloc (.cells #[.int .i64 0, .int .i64 0, .int .i64 0, .int .i64 0, .string ⟨#[]⟩, .slice none 0 0] 53))) := At.start w rb
  have c42 := fun w' (h' : Rdr w' rb ws p e) => has82 rb ws p e 42 ⟨#[42]⟩ rfl w' h'
  rw [isM_eq, e42] at c42
  simp only [Bool.false_eq_true, if_false] at c42
  have c64 := fun w' (h' : Rdr w' rb ws p e) => has82 rb ws p e 64 ⟨#[64]⟩ rfl w' h'
  rw [isM_eq, e64] at c64
  simp only [Bool.false_eq_true, if_false] at c64
  have c94 := fun w' (h' : Rdr w' rb ws p e) => has82 rb ws p e 94 ⟨#[94]⟩ rfl w' h'
  rw [isM_eq, e94] at c94
  simp only [if_true] at c94
  clear e42 e64 e94
  unfold PR
  go_enter Tryz.func83, Tryz.ntmps83
  go_wp2_with fail
  refine (c42 _ h0).mono ?_
  rintro r w42 ⟨rfl, hr42, hk42⟩
  have HA42 : Hid (At w rb w42) := HA0.out.step hlt hk42
  clear hk42 HA0 c42 h0
  go_wp2_with fail
  refine (c64 _ hr42).mono ?_
  rintro r w64 ⟨rfl, hr64, hk64⟩
  have HA64 : Hid (At w rb w64) := HA42.out.step hlt hk64
  clear hk64 HA42 c64 hr42
  go_wp2_with fail
  refine (c94 _ hr64).mono ?_
  rintro r w94 ⟨rfl, hr94, hk94⟩
  have HA94 : Hid (At w rb w94) := HA64.out.step hlt hk94
  clear hk94 HA64 c94 hr64
  have c := name_no rb ws (p + 1) e w94 hr94 hn
  have HA1 := HA94
  clear HA94 hr94 hn
  go_wp2_with fail
  refine c.mono ?_
  rintro r w1 ⟨y, rfl, hb1⟩
  clear c
  have HA : Hid (At w rb w1) := HA1.out.step hlt (Kept.of_below hb1)
  clear hb1 HA1
  go_wp2_with fail
  refine (within_one _ _ _ _).mono ?_
  rintro r w2 ⟨rfl, rfl⟩
  have z1 := HA.out.z
  have f1 := HA.out.f
  have s1 := HA.out.s
  go_wp2
  refine bodyPost_ret (v := .tuple #[.agg #[.int .i64 4, .int .i64 0, .int .i64 0, .int .i64 0, .string ⟨#[]⟩, .slice none 0 0], _]) (by simp [results, Tryz.results83, go_sem, z1] <;> rfl) rfl ⟨4, 0, 0, 0, ⟨#[]⟩, none, 0, _, _, _, rfl, (mis_zero y).one _, kept_six HA.out.k⟩

theorem kept_six_drew {P : Nat → Prop} {w w' : World} (h : Kept P w w') {u0 u1 u2 u3 u4 u5 : Value} : Kept P w (((((((w'.setCell ⟨w.heap.size, 0, none⟩ u0).setCell ⟨w.heap.size, 1, none⟩ u1).setCell ⟨w.heap.size, 2, none⟩ u2).setCell ⟨w.heap.size, 3, none⟩ u3).setCell ⟨w.heap.size, 4, none⟩ u4).setCell ⟨w.heap.size, 5, none⟩ u5).drew) := (kept_six h).drew
theorem below_six_drew {w W : World} {rb : Nat} (hlt : rb < w.heap.size) {u0 u1 u2 u3 u4 u5 : Value} : Below (rb + 1) W (((((((W.setCell ⟨w.heap.size, 0, none⟩ u0).setCell ⟨w.heap.size, 1, none⟩ u1).setCell ⟨w.heap.size, 2, none⟩ u2).setCell ⟨w.heap.size, 3, none⟩ u3).setCell ⟨w.heap.size, 4, none⟩ u4).setCell ⟨w.heap.size, 5, none⟩ u5).drew) := (below_six hlt).drew
theorem past_six_drew {w W : World} {m : Nat} (hm : w.heap.size < m) {u0 u1 u2 u3 u4 u5 : Value} : Kept (Past m) W (((((((W.setCell ⟨w.heap.size, 0, none⟩ u0).setCell ⟨w.heap.size, 1, none⟩ u1).setCell ⟨w.heap.size, 2, none⟩ u2).setCell ⟨w.heap.size, 3, none⟩ u3).setCell ⟨w.heap.size, 4, none⟩ u4).setCell ⟨w.heap.size, 5, none⟩ u5).drew) := by
  have f : ∀ o : Nat, ∀ k, k < W.heap.size → Past m k → k ≠ (⟨w.heap.size, o, none⟩ : Addr).block := fun o k _ hp => by show k ≠ w.heap.size; unfold Past at hp; omega
  exact (((((((Kept.refl (Past m) W).setCell (f 0) u0).setCell (f 1) u1).setCell (f 2) u2).setCell (f 3) u3).setCell (f 4) u4).setCell (f 5) u5).drew
theorem Six.kept {P : Nat → Prop} {w w' : World} {b j : Nat} {o k l h : Int} {t : ByteArray} {x : Option Addr} {n : Nat} (s : Six w b j o k l h t x n) (hp : P b) (hk : Kept P w w') : Six w' b j o k l h t x n := s.of (fun i => hk.cell s.lt hp)

set_option maxHeartbeats 4000000 in
theorem single_at83 (rb : Nat) (ws : List Wd.Word) (p : Nat) (e : Int) (w : World) (hg : Ps.Goods ws) (h : Rdr w rb ws p e) (e42 : Ps.isMark ws p 42 = false) (e64 : Ps.isMark ws p 64 = true) (f : Ps.Ft) (q : Nat) (hn : Ps.key ws (p + 1) = some (f, q)) : Calls Tryz.prog 83 #[.pointer (some ⟨rb, 0, none⟩)] w (PR rb ws e (some (f, q)) w) := by
  have hlt := h.lt
  have h0 : Rdr (w.alloc (.cells #[.int .i64 0, .int .i64 0, .int .i64 0, .int .i64 0, .string ⟨#[]⟩, .slice none 0 0] 53)) rb ws p e := h.alloc _
  have HA0 : Hid (At w rb (w.alloc (.cells #[.int .i64 0, .int .i64 0, .int .i64 0, .int .i64 0, .string ⟨#[]⟩, .slice none 0 0] 53))) := At.start w rb
  have c42 := fun w' (h' : Rdr w' rb ws p e) => has82 rb ws p e 42 ⟨#[42]⟩ rfl w' h'
  rw [isM_eq, e42] at c42
  simp only [Bool.false_eq_true, if_false] at c42
  have c64 := fun w' (h' : Rdr w' rb ws p e) => has82 rb ws p e 64 ⟨#[64]⟩ rfl w' h'
  rw [isM_eq, e64] at c64
  simp only [if_true] at c64
  clear e42 e64
  unfold PR
  go_enter Tryz.func83, Tryz.ntmps83
  go_wp2_with fail
  refine (c42 _ h0).mono ?_
  rintro r w42 ⟨rfl, hr42, hk42⟩
  have HA42 : Hid (At w rb w42) := HA0.out.step hlt hk42
  clear hk42 HA0 c42 h0
  go_wp2_with fail
  refine (c64 _ hr42).mono ?_
  rintro r w64 ⟨rfl, hr64, hk64⟩
  have HA64 : Hid (At w rb w64) := HA42.out.step hlt hk64
  clear hk64 HA42 c64 hr42
  have c := attribute90 rb ws (p + 1) e w64 hg hr64
  rw [hn] at c
  clear hn
  unfold PR at c
  have HA1 := HA64
  have sW := HA64.out.s
  clear HA64 hr64
  go_wp2_with fail
  refine c.mono ?_
  rintro r w1 ⟨o1, k1, l1, h1, t1, x1, n1, rfl, hl1, hr1, hk1⟩
  clear c
  have s12 : w64.heap.size ≤ w1.heap.size := hk1.size
  replace HA1 : Hid (At w rb w1) := HA1.out.step hlt hk1
  obtain ⟨U, hU⟩ : ∃ U, U = w1.alloc (.cells #[.int .i64 o1, .int .i64 k1, .int .i64 l1, .int .i64 h1, .string t1, .slice x1 n1 n1] 53) := ⟨_, rfl⟩
  have HA : Hid (At w rb U) := by rw [hU]; exact HA1.out.alloc _
  have y0 : U.cell? ⟨w1.heap.size, 0, none⟩ = some (.int .i64 o1) := by rw [hU]; simp
  have y1 : U.cell? ⟨w1.heap.size, 1, none⟩ = some (.int .i64 k1) := by rw [hU]; simp
  have y2 : U.cell? ⟨w1.heap.size, 2, none⟩ = some (.int .i64 l1) := by rw [hU]; simp
  have y3 : U.cell? ⟨w1.heap.size, 3, none⟩ = some (.int .i64 h1) := by rw [hU]; simp
  have y4 : U.cell? ⟨w1.heap.size, 4, none⟩ = some (.string t1) := by rw [hU]; simp
  have y5 : U.cell? ⟨w1.heap.size, 5, none⟩ = some (.slice x1 n1 n1) := by rw [hU]; simp
  have HU : Hid (U = w1.alloc (.cells #[.int .i64 o1, .int .i64 k1, .int .i64 l1, .int .i64 h1, .string t1, .slice x1 n1 n1] 53)) := hU
  have s2 : w1.heap.size < U.heap.size := by rw [hU]; simp
  have s3 : w.heap.size < w1.heap.size := HA1.out.s
  have ne1 : w.heap.size ≠ w1.heap.size := by omega
  have ne2 : w1.heap.size ≠ w.heap.size := by omega
  have ne3 : w.heap.size ≠ U.heap.size := by omega
  have ne4 : U.heap.size ≠ w.heap.size := by omega
  have ne5 : w1.heap.size ≠ U.heap.size := by omega
  have ne6 : U.heap.size ≠ w1.heap.size := by omega
  have HR : Hid (Rdr U rb ws q e) := by rw [hU]; exact hr1.alloc _
  have HL : Hid (Lies (Past w64.heap.size) U f o1 k1 l1 h1 t1 x1 n1) := Lies.kept (by rw [hU]; exact (Kept.refl _ w1).alloc _) f hl1
  clear hU hk1 HA1 hr1 hl1
  go_wp2_with fail
  rw [← HU.out]
  have z1 := HA.out.z
  have f1 := HA.out.f
  have s1 := HA.out.s
  clear HU
  go_region_with (first | (go_at_call 51; refine (within_none _ _).mono ?_; rintro r w2 ⟨rfl, rfl⟩))
  all_goals (try go_wp2)
  all_goals (
    refine bodyPost_ret (v := .tuple #[.agg #[.int .i64 o1, .int .i64 k1, .int .i64 l1, .int .i64 h1, .string t1, .slice x1 n1 n1], .nilIface]) (by simp [results, Tryz.results83, go_sem, z1]) rfl ⟨o1, k1, l1, h1, t1, x1, n1, rfl, Lies.mono (P := Past w64.heap.size) (fun b _ hb => by unfold Past at *; omega) f (Lies.kept (past_six_drew sW) f HL.out), HR.out.below (below_six_drew hlt), kept_six_drew HA.out.k⟩)

set_option maxHeartbeats 4000000 in
theorem single_at_no83 (rb : Nat) (ws : List Wd.Word) (p : Nat) (e : Int) (w : World) (hg : Ps.Goods ws) (h : Rdr w rb ws p e) (e42 : Ps.isMark ws p 42 = false) (e64 : Ps.isMark ws p 64 = true) (hn : Ps.key ws (p + 1) = none) : Calls Tryz.prog 83 #[.pointer (some ⟨rb, 0, none⟩)] w (PR rb ws e (none) w) := by
  have hlt := h.lt
  have h0 : Rdr (w.alloc (.cells #[.int .i64 0, .int .i64 0, .int .i64 0, .int .i64 0, .string ⟨#[]⟩, .slice none 0 0] 53)) rb ws p e := h.alloc _
  have HA0 : Hid (At w rb (w.alloc (.cells #[.int .i64 0, .int .i64 0, .int .i64 0, .int .i64 0, .string ⟨#[]⟩, .slice none 0 0] 53))) := At.start w rb
  have c42 := fun w' (h' : Rdr w' rb ws p e) => has82 rb ws p e 42 ⟨#[42]⟩ rfl w' h'
  rw [isM_eq, e42] at c42
  simp only [Bool.false_eq_true, if_false] at c42
  have c64 := fun w' (h' : Rdr w' rb ws p e) => has82 rb ws p e 64 ⟨#[64]⟩ rfl w' h'
  rw [isM_eq, e64] at c64
  simp only [if_true] at c64
  clear e42 e64
  unfold PR
  go_enter Tryz.func83, Tryz.ntmps83
  go_wp2_with fail
  refine (c42 _ h0).mono ?_
  rintro r w42 ⟨rfl, hr42, hk42⟩
  have HA42 : Hid (At w rb w42) := HA0.out.step hlt hk42
  clear hk42 HA0 c42 h0
  go_wp2_with fail
  refine (c64 _ hr42).mono ?_
  rintro r w64 ⟨rfl, hr64, hk64⟩
  have HA64 : Hid (At w rb w64) := HA42.out.step hlt hk64
  clear hk64 HA42 c64 hr42
  have c := attribute90 rb ws (p + 1) e w64 hg hr64
  rw [hn] at c
  clear hn
  unfold PR at c
  have HA1 := HA64
  have sW := HA64.out.s
  clear HA64 hr64
  go_wp2_with fail
  refine c.mono ?_
  rintro r w1 ⟨o1, k1, l1, h1, t1, x1, n1, m, T, v, rfl, hm, hk1⟩
  clear c
  have s12 : w64.heap.size ≤ w1.heap.size := hk1.size
  replace HA1 : Hid (At w rb w1) := HA1.out.step hlt hk1
  obtain ⟨U, hU⟩ : ∃ U, U = w1.alloc (.cells #[.int .i64 o1, .int .i64 k1, .int .i64 l1, .int .i64 h1, .string t1, .slice x1 n1 n1] 53) := ⟨_, rfl⟩
  have HA : Hid (At w rb U) := by rw [hU]; exact HA1.out.alloc _
  have y0 : U.cell? ⟨w1.heap.size, 0, none⟩ = some (.int .i64 o1) := by rw [hU]; simp
  have y1 : U.cell? ⟨w1.heap.size, 1, none⟩ = some (.int .i64 k1) := by rw [hU]; simp
  have y2 : U.cell? ⟨w1.heap.size, 2, none⟩ = some (.int .i64 l1) := by rw [hU]; simp
  have y3 : U.cell? ⟨w1.heap.size, 3, none⟩ = some (.int .i64 h1) := by rw [hU]; simp
  have y4 : U.cell? ⟨w1.heap.size, 4, none⟩ = some (.string t1) := by rw [hU]; simp
  have y5 : U.cell? ⟨w1.heap.size, 5, none⟩ = some (.slice x1 n1 n1) := by rw [hU]; simp
  have HU : Hid (U = w1.alloc (.cells #[.int .i64 o1, .int .i64 k1, .int .i64 l1, .int .i64 h1, .string t1, .slice x1 n1 n1] 53)) := hU
  have s2 : w1.heap.size < U.heap.size := by rw [hU]; simp
  have s3 : w.heap.size < w1.heap.size := HA1.out.s
  have ne1 : w.heap.size ≠ w1.heap.size := by omega
  have ne2 : w1.heap.size ≠ w.heap.size := by omega
  have ne3 : w.heap.size ≠ U.heap.size := by omega
  have ne4 : U.heap.size ≠ w.heap.size := by omega
  have ne5 : w1.heap.size ≠ U.heap.size := by omega
  have ne6 : U.heap.size ≠ w1.heap.size := by omega
  have HM : Hid (Mis m (.iface T v)) := hm
  clear hU hk1 HA1 hm
  go_wp2_with fail
  rw [← HU.out]
  have z1 := HA.out.z
  have f1 := HA.out.f
  have s1 := HA.out.s
  clear HU
  go_region_with (first | (go_at_call 51; refine (within_one _ _ _ _).mono ?_; rintro r w2 ⟨rfl, rfl⟩))
  all_goals (try go_wp2)
  all_goals (
    refine bodyPost_ret (v := .tuple #[.agg #[.int .i64 o1, .int .i64 k1, .int .i64 l1, .int .i64 h1, .string t1, .slice x1 n1 n1], _]) (by simp [results, Tryz.results83, go_sem, z1] <;> rfl) rfl ⟨o1, k1, l1, h1, t1, x1, n1, _, _, _, rfl, HM.out.one _, kept_six_drew HA.out.k⟩)

end Go.Proofs.YtdeojcodbojmoaaGreatDoor
namespace Go.Proofs.YtdeojcodbojmoaaGreatDoor
open Go.RowKit
set_option maxRecDepth 100000
set_option linter.unusedVariables false

theorem past_six {w W : World} {m : Nat} (hm : w.heap.size < m) {u0 u1 u2 u3 u4 u5 : Value} : Kept (Past m) W ((((((W.setCell ⟨w.heap.size, 0, none⟩ u0).setCell ⟨w.heap.size, 1, none⟩ u1).setCell ⟨w.heap.size, 2, none⟩ u2).setCell ⟨w.heap.size, 3, none⟩ u3).setCell ⟨w.heap.size, 4, none⟩ u4).setCell ⟨w.heap.size, 5, none⟩ u5) := by
  have f : ∀ o : Nat, ∀ k, k < W.heap.size → Past m k → k ≠ (⟨w.heap.size, o, none⟩ : Addr).block := fun o k _ hp => by show k ≠ w.heap.size; unfold Past at hp; omega
  exact ((((((Kept.refl (Past m) W).setCell (f 0) u0).setCell (f 1) u1).setCell (f 2) u2).setCell (f 3) u3).setCell (f 4) u4).setCell (f 5) u5

set_option maxHeartbeats 4000000 in
theorem single_not83 (rb : Nat) (ws : List Wd.Word) (p : Nat) (e : Int) (w : World) (hg : Ps.Goods ws) (h : Rdr w rb ws p e) (e42 : Ps.isMark ws p 42 = false) (e64 : Ps.isMark ws p 64 = false) (e94 : Ps.isMark ws p 94 = false) (e33 : Ps.isMark ws p 33 = true) (f : Ps.Ft) (q : Nat) (c : ∀ w, Rdr w rb ws (p + 1) e → Calls Tryz.prog 83 #[.pointer (some ⟨rb, 0, none⟩)] w (PR rb ws e (some (f, q)) w)) : Calls Tryz.prog 83 #[.pointer (some ⟨rb, 0, none⟩)] w (PR rb ws e (some (.non f, q)) w) := by
  have hlt := h.lt
  have h0 : Rdr (w.alloc (.cells #[.int .i64 0, .int .i64 0, .int .i64 0, .int .i64 0, .string ⟨#[]⟩, .slice none 0 0] 53)) rb ws p e := h.alloc _
  have HA0 : Hid (At w rb (w.alloc (.cells #[.int .i64 0, .int .i64 0, .int .i64 0, .int .i64 0, .string ⟨#[]⟩, .slice none 0 0] 53))) := At.start w rb
  have c42 := fun w' (h' : Rdr w' rb ws p e) => has82 rb ws p e 42 ⟨#[42]⟩ rfl w' h'
  rw [isM_eq, e42] at c42
  simp only [Bool.false_eq_true, if_false] at c42
  have c64 := fun w' (h' : Rdr w' rb ws p e) => has82 rb ws p e 64 ⟨#[64]⟩ rfl w' h'
  rw [isM_eq, e64] at c64
  simp only [Bool.false_eq_true, if_false] at c64
  have c94 := fun w' (h' : Rdr w' rb ws p e) => has82 rb ws p e 94 ⟨#[94]⟩ rfl w' h'
  rw [isM_eq, e94] at c94
  simp only [Bool.false_eq_true, if_false] at c94
  have c33 := fun w' (h' : Rdr w' rb ws p e) => has82 rb ws p e 33 ⟨#[33]⟩ rfl w' h'
  rw [isM_eq, e33] at c33
  simp only [if_true] at c33
  clear e42 e64 e94 e33
  unfold PR
  go_enter Tryz.func83, Tryz.ntmps83
  go_wp2_with fail
  refine (c42 _ h0).mono ?_
  rintro r w42 ⟨rfl, hr42, hk42⟩
  have HA42 : Hid (At w rb w42) := HA0.out.step hlt hk42
  clear hk42 HA0 c42 h0
  go_wp2_with fail
  refine (c64 _ hr42).mono ?_
  rintro r w64 ⟨rfl, hr64, hk64⟩
  have HA64 : Hid (At w rb w64) := HA42.out.step hlt hk64
  clear hk64 HA42 c64 hr42
  go_wp2_with fail
  refine (c94 _ hr64).mono ?_
  rintro r w94 ⟨rfl, hr94, hk94⟩
  have HA94 : Hid (At w rb w94) := HA64.out.step hlt hk94
  clear hk94 HA64 c94 hr64
  go_wp2_with fail
  refine (c33 _ hr94).mono ?_
  rintro r w33 ⟨rfl, hr33, hk33⟩
  have HA33 : Hid (At w rb w33) := HA94.out.step hlt hk33
  clear hk33 HA94 c33 hr94
  replace c := c w33 hr33
  unfold PR at c
  have HA1 := HA33
  have sW := HA33.out.s
  clear HA33 hr33
  go_wp2_with fail
  refine c.mono ?_
  rintro r w1 ⟨o1, k1, l1, h1, t1, x1, n1, rfl, hl1, hr1, hk1⟩
  clear c
  have s12 : w33.heap.size ≤ w1.heap.size := hk1.size
  replace HA1 : Hid (At w rb w1) := HA1.out.step hlt hk1
  obtain ⟨U, hU⟩ : ∃ U, U = w1.alloc (.cells #[.int .i64 o1, .int .i64 k1, .int .i64 l1, .int .i64 h1, .string t1, .slice x1 n1 n1] 53) := ⟨_, rfl⟩
  have HA : Hid (At w rb U) := by rw [hU]; exact HA1.out.alloc _
  have y0 : U.cell? ⟨w1.heap.size, 0, none⟩ = some (.int .i64 o1) := by rw [hU]; simp
  have y1 : U.cell? ⟨w1.heap.size, 1, none⟩ = some (.int .i64 k1) := by rw [hU]; simp
  have y2 : U.cell? ⟨w1.heap.size, 2, none⟩ = some (.int .i64 l1) := by rw [hU]; simp
  have y3 : U.cell? ⟨w1.heap.size, 3, none⟩ = some (.int .i64 h1) := by rw [hU]; simp
  have y4 : U.cell? ⟨w1.heap.size, 4, none⟩ = some (.string t1) := by rw [hU]; simp
  have y5 : U.cell? ⟨w1.heap.size, 5, none⟩ = some (.slice x1 n1 n1) := by rw [hU]; simp
  have HU : Hid (U = w1.alloc (.cells #[.int .i64 o1, .int .i64 k1, .int .i64 l1, .int .i64 h1, .string t1, .slice x1 n1 n1] 53)) := hU
  have s2 : w1.heap.size < U.heap.size := by rw [hU]; simp
  have s3 : w.heap.size < w1.heap.size := HA1.out.s
  have ne1 : w.heap.size ≠ w1.heap.size := by omega
  have ne2 : w1.heap.size ≠ w.heap.size := by omega
  have ne3 : w.heap.size ≠ U.heap.size := by omega
  have ne4 : U.heap.size ≠ w.heap.size := by omega
  have ne5 : w1.heap.size ≠ U.heap.size := by omega
  have ne6 : U.heap.size ≠ w1.heap.size := by omega
  have HR : Hid (Rdr U rb ws q e) := by rw [hU]; exact hr1.alloc _
  have HL : Hid (Lies (Past w33.heap.size) U f o1 k1 l1 h1 t1 x1 n1) := Lies.kept (by rw [hU]; exact (Kept.refl _ w1).alloc _) f hl1
  clear hU hk1 HA1 hr1 hl1
  go_wp2_with fail
  rw [← HU.out]
  have z1 := HA.out.z
  have f1 := HA.out.f
  have s1 := HA.out.s
  clear HU
  refine wp_region_held_drew (S := fun w' => w'.cell? ⟨w1.heap.size, 0, none⟩ = some (.int .i64 o1) ∧ w'.cell? ⟨w1.heap.size, 1, none⟩ = some (.int .i64 k1) ∧ w'.cell? ⟨w1.heap.size, 2, none⟩ = some (.int .i64 l1) ∧ w'.cell? ⟨w1.heap.size, 3, none⟩ = some (.int .i64 h1) ∧ w'.cell? ⟨w1.heap.size, 4, none⟩ = some (.string t1) ∧ w'.cell? ⟨w1.heap.size, 5, none⟩ = some (.slice x1 n1 n1)) (by kernel_rfl) ?_ (fun hHeld => ?_)
  · (try dsimp only)
    go_keep
  refine wpAnyH_take (i := 0) (oi := { dst := some 47, op := Op.load 53 (Operand.tmp 8), type := 53, pos := "read.go:80", after := #[], guard := none }) (v := ?_) rfl (by kernel_rfl) (by kernel_rfl) (by kernel_rfl) (fun _ _ _ h => h) (Or.inl ⟨by rfl, ?_⟩) (by assumption) ?_
  rotate_left
  · intro w hSw
    (try dsimp only at hSw)
    go_simp
    try with_reducible rfl
  simp only [Act.put, List.setIfInBounds_toArray, List.set_cons_zero, List.set_cons_succ]
  refine wpAnyH_take (i := 3) (oi := { dst := some 50, op := Op.move (Operand.tmp 9), type := 65, pos := "read.go:80", after := #[], guard := none }) (v := ?_) rfl (by kernel_rfl) (by kernel_rfl) (by kernel_rfl) (fun _ _ _ h => h) (Or.inl ⟨by rfl, ?_⟩) (by assumption) ?_
  rotate_left
  · intro w hSw
    (try dsimp only at hSw)
    go_simp
    try with_reducible rfl
  simp only [Act.put, List.setIfInBounds_toArray, List.set_cons_zero, List.set_cons_succ]
  obtain ⟨V, hV⟩ : ∃ V, V = (U.alloc (.cells #[.int .i64 o1, .int .i64 k1, .int .i64 l1, .int .i64 h1, .string t1, .slice x1 n1 n1] 53)).drew := ⟨_, rfl⟩
  have sV : U.heap.size < V.heap.size := by rw [hV]; simp
  have KV : Kept Any U V := by rw [hV]; exact ((Kept.refl Any U).alloc _).drew
  have six0 : Six V U.heap.size 0 o1 k1 l1 h1 t1 x1 n1 := by rw [hV]; unfold Six; simp
  have HSV : Hid (Six V U.heap.size 0 o1 k1 l1 h1 t1 x1 n1) := six0
  have HKV : Hid (Kept Any U V) := KV
  have HAV : Hid (At w rb V) := HA.out.step hlt (KV.mono (fun _ _ _ => trivial))
  have v0 : V.cell? ⟨w.heap.size, 0, none⟩ = some (.int .i64 0) := HAV.out.z 0
  have v1 : V.cell? ⟨w.heap.size, 1, none⟩ = some (.int .i64 0) := HAV.out.z 1
  have v2 : V.cell? ⟨w.heap.size, 2, none⟩ = some (.int .i64 0) := HAV.out.z 2
  have v3 : V.cell? ⟨w.heap.size, 3, none⟩ = some (.int .i64 0) := HAV.out.z 3
  have v4 : V.cell? ⟨w.heap.size, 4, none⟩ = some (.string ⟨#[]⟩) := HAV.out.z 4
  have v5 : V.cell? ⟨w.heap.size, 5, none⟩ = some (.slice none 0 0) := HAV.out.z 5
  have vf := HAV.out.f
  have vs := HAV.out.s
  have hSV : (fun w' => w'.cell? ⟨w1.heap.size, 0, none⟩ = some (.int .i64 o1) ∧ w'.cell? ⟨w1.heap.size, 1, none⟩ = some (.int .i64 k1) ∧ w'.cell? ⟨w1.heap.size, 2, none⟩ = some (.int .i64 l1) ∧ w'.cell? ⟨w1.heap.size, 3, none⟩ = some (.int .i64 h1) ∧ w'.cell? ⟨w1.heap.size, 4, none⟩ = some (.string t1) ∧ w'.cell? ⟨w1.heap.size, 5, none⟩ = some (.slice x1 n1 n1)) V := ⟨(KV.cell s2 trivial).trans y0, (KV.cell s2 trivial).trans y1, (KV.cell s2 trivial).trans y2, (KV.cell s2 trivial).trans y3, (KV.cell s2 trivial).trans y4, (KV.cell s2 trivial).trans y5⟩
  dsimp only at hSV
  have HEV : Hid (V = (U.alloc (.cells #[.int .i64 o1, .int .i64 k1, .int .i64 l1, .int .i64 h1, .string t1, .slice x1 n1 n1] 53)).drew) := hV
  clear hV KV six0
  refine wpAnyH_ready (rs := [1, 4]) (by kernel_rfl) (by simp) ?_
  refine AllReadyH.cons (o := { dst := some 48, op := Op.buildSlice 51 1 #[(0, Operand.tmp 47)], type := 51, pos := "read.go:80", after := #[{ on := 0, ground := Ground.data }], guard := none }) rfl (fun K hK => ?_) (AllReadyH.cons (o := { dst := some 51, op := Op.call { callee := Callee.value (Operand.func 51), args := #[Operand.const (Value.string { data := #[33] }), Operand.tmp 50], argTypes := #[9, 65] }, type := 65, pos := "read.go:80", after := #[{ on := 3, ground := Ground.data }], guard := none }) rfl (fun K hK => ?_) AllReadyH.nil)
  · go_simp
    rw [← HEV.out]
    refine hK.out _ _ hSV (fun hHeld => ?_)
    clear hK K
    try simp only [Act.put, List.setIfInBounds_toArray, List.set_cons_zero, List.set_cons_succ]
    refine wpAnyH_take (i := 2) (oi := { dst := some 49, op := Op.build 53 #[(0, Operand.const (Value.int IntKind.i64 7)), (5, Operand.tmp 48)], type := 53, pos := "read.go:80", after := #[{ on := 1, ground := Ground.data }], guard := none }) (v := ?_) rfl (by kernel_rfl) (by kernel_rfl) (by kernel_rfl) (fun _ _ _ h => h) (Or.inl ⟨by rfl, ?_⟩) (by assumption) ?_
    rotate_left
    · intro w hSw
      (try dsimp only at hSw)
      go_simp
      try with_reducible rfl
    simp only [Act.put, List.setIfInBounds_toArray, List.set_cons_zero, List.set_cons_succ]
    refine wpAnyH_ready (rs := [4]) (by kernel_rfl) (by simp) ?_
    refine AllReadyH.cons (o := { dst := some 51, op := Op.call { callee := Callee.value (Operand.func 51), args := #[Operand.const (Value.string { data := #[33] }), Operand.tmp 50], argTypes := #[9, 65] }, type := 65, pos := "read.go:80", after := #[{ on := 3, ground := Ground.data }], guard := none }) rfl (fun K hK => ?_) AllReadyH.nil
    go_simp
    go_at_call 51
    refine (within_none _ _).mono ?_
    rintro r w2 ⟨rfl, rfl⟩
    refine hK.out _ _ hSV (fun hHeld => ?_)
    clear hK K
    try simp only [Act.put, List.setIfInBounds_toArray, List.set_cons_zero, List.set_cons_succ]
    refine wpAnyH_ready (rs := [5]) (by kernel_rfl) (by simp) ?_
    refine AllReadyH.cons (o := { dst := none, op := Op.store 53 (Operand.tmp 2) (Operand.tmp 49), type := 0, pos := "read.go:80", after := #[{ on := 2, ground := Ground.data }, { on := 4, ground := Ground.chain }, { on := 0, ground := Ground.phase }, { on := 1, ground := Ground.phase }, { on := 2, ground := Ground.phase }, { on := 3, ground := Ground.textOnly Departure.lateStores }, { on := 4, ground := Ground.textOnly Departure.lateStoresUnsure }], guard := none }) rfl (fun K hK => ?_) AllReadyH.nil
    go_simp
    refine hK.out _ _ ?_ (fun hHeld => ?_)
    · (try dsimp only)
      go_keep
    clear hK K
    try simp only [Act.put, List.setIfInBounds_toArray, List.set_cons_zero, List.set_cons_succ]
    refine wpAnyH_take (i := 6) (oi := { dst := some 3, op := Op.assign (Operand.tmp 51), type := 65, pos := "read.go:80", after := #[{ on := 4, ground := Ground.data }, { on := 5, ground := Ground.chain }, { on := 0, ground := Ground.phase }, { on := 1, ground := Ground.phase }, { on := 2, ground := Ground.phase }, { on := 3, ground := Ground.phase }, { on := 4, ground := Ground.phase }, { on := 5, ground := Ground.phase }], guard := none }) (v := ?_) rfl (by kernel_rfl) (by kernel_rfl) (by kernel_rfl) (fun _ _ _ h => h) (Or.inl ⟨by rfl, ?_⟩) (by assumption) ?_
    rotate_left
    · intro w hSw
      (try dsimp only at hSw)
      go_simp
      try with_reducible rfl
    simp only [Act.put, List.setIfInBounds_toArray, List.set_cons_zero, List.set_cons_succ]
    refine wpAnyH_done (by kernel_rfl) ?_ _
    go_wp2
    refine bodyPost_ret (v := .tuple #[.agg #[.int .i64 7, .int .i64 0, .int .i64 0, .int .i64 0, .string ⟨#[]⟩, .slice (some ⟨U.heap.size, 0, none⟩) 1 1], .nilIface]) (by simp [results, Tryz.results83, go_sem, v0, v1, v2, v3, v4, v5]) rfl ⟨7, 0, 0, 0, ⟨#[]⟩, some ⟨U.heap.size, 0, none⟩, 1, rfl, ⟨rfl, rfl, rfl, rfl, rfl, U.heap.size, o1, k1, l1, h1, t1, x1, n1, rfl, rfl, by unfold Past; omega, HSV.out.kept (P := Past w33.heap.size) (by unfold Past; omega) (past_six sW), Lies.mono (P := Past w33.heap.size) (fun b _ hb => by unfold Past at *; omega) f (Lies.kept (past_six sW) f (Lies.kept (HKV.out.mono (fun _ _ _ => trivial)) f HL.out))⟩, (HR.out.below (HKV.out.below (by have := HR.out.lt; omega) (fun _ _ => trivial))).below (below_six hlt), kept_six HAV.out.k⟩
  · go_simp
    go_at_call 51
    refine (within_none _ _).mono ?_
    rintro r w2 ⟨rfl, rfl⟩
    refine hK.out _ _ hHeld (fun hHeld => ?_)
    clear hK K
    try simp only [Act.put, List.setIfInBounds_toArray, List.set_cons_zero, List.set_cons_succ]
    refine wpAnyH_ready (rs := [1]) (by kernel_rfl) (by simp) ?_
    refine AllReadyH.cons (o := { dst := some 48, op := Op.buildSlice 51 1 #[(0, Operand.tmp 47)], type := 51, pos := "read.go:80", after := #[{ on := 0, ground := Ground.data }], guard := none }) rfl (fun K hK => ?_) AllReadyH.nil
    go_simp
    rw [← HEV.out]
    refine hK.out _ _ hSV (fun hHeld => ?_)
    clear hK K
    try simp only [Act.put, List.setIfInBounds_toArray, List.set_cons_zero, List.set_cons_succ]
    refine wpAnyH_take (i := 2) (oi := { dst := some 49, op := Op.build 53 #[(0, Operand.const (Value.int IntKind.i64 7)), (5, Operand.tmp 48)], type := 53, pos := "read.go:80", after := #[{ on := 1, ground := Ground.data }], guard := none }) (v := ?_) rfl (by kernel_rfl) (by kernel_rfl) (by kernel_rfl) (fun _ _ _ h => h) (Or.inl ⟨by rfl, ?_⟩) (by assumption) ?_
    rotate_left
    · intro w hSw
      (try dsimp only at hSw)
      go_simp
      try with_reducible rfl
    simp only [Act.put, List.setIfInBounds_toArray, List.set_cons_zero, List.set_cons_succ]
    refine wpAnyH_ready (rs := [5]) (by kernel_rfl) (by simp) ?_
    refine AllReadyH.cons (o := { dst := none, op := Op.store 53 (Operand.tmp 2) (Operand.tmp 49), type := 0, pos := "read.go:80", after := #[{ on := 2, ground := Ground.data }, { on := 4, ground := Ground.chain }, { on := 0, ground := Ground.phase }, { on := 1, ground := Ground.phase }, { on := 2, ground := Ground.phase }, { on := 3, ground := Ground.textOnly Departure.lateStores }, { on := 4, ground := Ground.textOnly Departure.lateStoresUnsure }], guard := none }) rfl (fun K hK => ?_) AllReadyH.nil
    go_simp
    refine hK.out _ _ ?_ (fun hHeld => ?_)
    · (try dsimp only)
      go_keep
    clear hK K
    try simp only [Act.put, List.setIfInBounds_toArray, List.set_cons_zero, List.set_cons_succ]
    refine wpAnyH_take (i := 6) (oi := { dst := some 3, op := Op.assign (Operand.tmp 51), type := 65, pos := "read.go:80", after := #[{ on := 4, ground := Ground.data }, { on := 5, ground := Ground.chain }, { on := 0, ground := Ground.phase }, { on := 1, ground := Ground.phase }, { on := 2, ground := Ground.phase }, { on := 3, ground := Ground.phase }, { on := 4, ground := Ground.phase }, { on := 5, ground := Ground.phase }], guard := none }) (v := ?_) rfl (by kernel_rfl) (by kernel_rfl) (by kernel_rfl) (fun _ _ _ h => h) (Or.inl ⟨by rfl, ?_⟩) (by assumption) ?_
    rotate_left
    · intro w hSw
      (try dsimp only at hSw)
      go_simp
      try with_reducible rfl
    simp only [Act.put, List.setIfInBounds_toArray, List.set_cons_zero, List.set_cons_succ]
    refine wpAnyH_done (by kernel_rfl) ?_ _
    go_wp2
    refine bodyPost_ret (v := .tuple #[.agg #[.int .i64 7, .int .i64 0, .int .i64 0, .int .i64 0, .string ⟨#[]⟩, .slice (some ⟨U.heap.size, 0, none⟩) 1 1], .nilIface]) (by simp [results, Tryz.results83, go_sem, v0, v1, v2, v3, v4, v5]) rfl ⟨7, 0, 0, 0, ⟨#[]⟩, some ⟨U.heap.size, 0, none⟩, 1, rfl, ⟨rfl, rfl, rfl, rfl, rfl, U.heap.size, o1, k1, l1, h1, t1, x1, n1, rfl, rfl, by unfold Past; omega, HSV.out.kept (P := Past w33.heap.size) (by unfold Past; omega) (past_six sW), Lies.mono (P := Past w33.heap.size) (fun b _ hb => by unfold Past at *; omega) f (Lies.kept (past_six sW) f (Lies.kept (HKV.out.mono (fun _ _ _ => trivial)) f HL.out))⟩, (HR.out.below (HKV.out.below (by have := HR.out.lt; omega) (fun _ _ => trivial))).below (below_six hlt), kept_six HAV.out.k⟩

set_option maxHeartbeats 4000000 in
theorem single_not_no83 (rb : Nat) (ws : List Wd.Word) (p : Nat) (e : Int) (w : World) (hg : Ps.Goods ws) (h : Rdr w rb ws p e) (e42 : Ps.isMark ws p 42 = false) (e64 : Ps.isMark ws p 64 = false) (e94 : Ps.isMark ws p 94 = false) (e33 : Ps.isMark ws p 33 = true) (c : ∀ w, Rdr w rb ws (p + 1) e → Calls Tryz.prog 83 #[.pointer (some ⟨rb, 0, none⟩)] w (PR rb ws e (none) w)) : Calls Tryz.prog 83 #[.pointer (some ⟨rb, 0, none⟩)] w (PR rb ws e (none) w) := by
  have hlt := h.lt
  have h0 : Rdr (w.alloc (.cells #[.int .i64 0, .int .i64 0, .int .i64 0, .int .i64 0, .string ⟨#[]⟩, .slice none 0 0] 53)) rb ws p e := h.alloc _
  have HA0 : Hid (At w rb (w.alloc (.cells #[.int .i64 0, .int .i64 0, .int .i64 0, .int .i64 0, .string ⟨#[]⟩, .slice none 0 0] 53))) := At.start w rb
  have c42 := fun w' (h' : Rdr w' rb ws p e) => has82 rb ws p e 42 ⟨#[42]⟩ rfl w' h'
  rw [isM_eq, e42] at c42
  simp only [Bool.false_eq_true, if_false] at c42
  have c64 := fun w' (h' : Rdr w' rb ws p e) => has82 rb ws p e 64 ⟨#[64]⟩ rfl w' h'
  rw [isM_eq, e64] at c64
  simp only [Bool.false_eq_true, if_false] at c64
  have c94 := fun w' (h' : Rdr w' rb ws p e) => has82 rb ws p e 94 ⟨#[94]⟩ rfl w' h'
  rw [isM_eq, e94] at c94
  simp only [Bool.false_eq_true, if_false] at c94
  have c33 := fun w' (h' : Rdr w' rb ws p e) => has82 rb ws p e 33 ⟨#[33]⟩ rfl w' h'
  rw [isM_eq, e33] at c33
  simp only [if_true] at c33
  clear e42 e64 e94 e33
  unfold PR
  go_enter Tryz.func83, Tryz.ntmps83
  go_wp2_with fail
  refine (c42 _ h0).mono ?_
  rintro r w42 ⟨rfl, hr42, hk42⟩
  have HA42 : Hid (At w rb w42) := HA0.out.step hlt hk42
  clear hk42 HA0 c42 h0
  go_wp2_with fail
  refine (c64 _ hr42).mono ?_
  rintro r w64 ⟨rfl, hr64, hk64⟩
  have HA64 : Hid (At w rb w64) := HA42.out.step hlt hk64
  clear hk64 HA42 c64 hr42
  go_wp2_with fail
  refine (c94 _ hr64).mono ?_
  rintro r w94 ⟨rfl, hr94, hk94⟩
  have HA94 : Hid (At w rb w94) := HA64.out.step hlt hk94
  clear hk94 HA64 c94 hr64
  go_wp2_with fail
  refine (c33 _ hr94).mono ?_
  rintro r w33 ⟨rfl, hr33, hk33⟩
  have HA33 : Hid (At w rb w33) := HA94.out.step hlt hk33
  clear hk33 HA94 c33 hr94
  replace c := c w33 hr33
  unfold PR at c
  have HA1 := HA33
  have sW := HA33.out.s
  clear HA33 hr33
  go_wp2_with fail
  refine c.mono ?_
  rintro r w1 ⟨o1, k1, l1, h1, t1, x1, n1, m, T, v, rfl, hm, hk1⟩
  clear c
  have s12 : w33.heap.size ≤ w1.heap.size := hk1.size
  replace HA1 : Hid (At w rb w1) := HA1.out.step hlt hk1
  obtain ⟨U, hU⟩ : ∃ U, U = w1.alloc (.cells #[.int .i64 o1, .int .i64 k1, .int .i64 l1, .int .i64 h1, .string t1, .slice x1 n1 n1] 53) := ⟨_, rfl⟩
  have HA : Hid (At w rb U) := by rw [hU]; exact HA1.out.alloc _
  have y0 : U.cell? ⟨w1.heap.size, 0, none⟩ = some (.int .i64 o1) := by rw [hU]; simp
  have y1 : U.cell? ⟨w1.heap.size, 1, none⟩ = some (.int .i64 k1) := by rw [hU]; simp
  have y2 : U.cell? ⟨w1.heap.size, 2, none⟩ = some (.int .i64 l1) := by rw [hU]; simp
  have y3 : U.cell? ⟨w1.heap.size, 3, none⟩ = some (.int .i64 h1) := by rw [hU]; simp
  have y4 : U.cell? ⟨w1.heap.size, 4, none⟩ = some (.string t1) := by rw [hU]; simp
  have y5 : U.cell? ⟨w1.heap.size, 5, none⟩ = some (.slice x1 n1 n1) := by rw [hU]; simp
  have HU : Hid (U = w1.alloc (.cells #[.int .i64 o1, .int .i64 k1, .int .i64 l1, .int .i64 h1, .string t1, .slice x1 n1 n1] 53)) := hU
  have s2 : w1.heap.size < U.heap.size := by rw [hU]; simp
  have s3 : w.heap.size < w1.heap.size := HA1.out.s
  have ne1 : w.heap.size ≠ w1.heap.size := by omega
  have ne2 : w1.heap.size ≠ w.heap.size := by omega
  have ne3 : w.heap.size ≠ U.heap.size := by omega
  have ne4 : U.heap.size ≠ w.heap.size := by omega
  have ne5 : w1.heap.size ≠ U.heap.size := by omega
  have ne6 : U.heap.size ≠ w1.heap.size := by omega
  have HM : Hid (Mis m (.iface T v)) := hm
  clear hU hk1 HA1 hm
  go_wp2_with fail
  rw [← HU.out]
  have z1 := HA.out.z
  have f1 := HA.out.f
  have s1 := HA.out.s
  clear HU
  refine wp_region_held_drew (S := fun w' => w'.cell? ⟨w1.heap.size, 0, none⟩ = some (.int .i64 o1) ∧ w'.cell? ⟨w1.heap.size, 1, none⟩ = some (.int .i64 k1) ∧ w'.cell? ⟨w1.heap.size, 2, none⟩ = some (.int .i64 l1) ∧ w'.cell? ⟨w1.heap.size, 3, none⟩ = some (.int .i64 h1) ∧ w'.cell? ⟨w1.heap.size, 4, none⟩ = some (.string t1) ∧ w'.cell? ⟨w1.heap.size, 5, none⟩ = some (.slice x1 n1 n1)) (by kernel_rfl) ?_ (fun hHeld => ?_)
  · (try dsimp only)
    go_keep
  refine wpAnyH_take (i := 0) (oi := { dst := some 47, op := Op.load 53 (Operand.tmp 8), type := 53, pos := "read.go:80", after := #[], guard := none }) (v := ?_) rfl (by kernel_rfl) (by kernel_rfl) (by kernel_rfl) (fun _ _ _ h => h) (Or.inl ⟨by rfl, ?_⟩) (by assumption) ?_
  rotate_left
  · intro w hSw
    (try dsimp only at hSw)
    go_simp
    try with_reducible rfl
  simp only [Act.put, List.setIfInBounds_toArray, List.set_cons_zero, List.set_cons_succ]
  refine wpAnyH_take (i := 3) (oi := { dst := some 50, op := Op.move (Operand.tmp 9), type := 65, pos := "read.go:80", after := #[], guard := none }) (v := ?_) rfl (by kernel_rfl) (by kernel_rfl) (by kernel_rfl) (fun _ _ _ h => h) (Or.inl ⟨by rfl, ?_⟩) (by assumption) ?_
  rotate_left
  · intro w hSw
    (try dsimp only at hSw)
    go_simp
    try with_reducible rfl
  simp only [Act.put, List.setIfInBounds_toArray, List.set_cons_zero, List.set_cons_succ]
  obtain ⟨V, hV⟩ : ∃ V, V = (U.alloc (.cells #[.int .i64 o1, .int .i64 k1, .int .i64 l1, .int .i64 h1, .string t1, .slice x1 n1 n1] 53)).drew := ⟨_, rfl⟩
  have sV : U.heap.size < V.heap.size := by rw [hV]; simp
  have KV : Kept Any U V := by rw [hV]; exact ((Kept.refl Any U).alloc _).drew
  have six0 : Six V U.heap.size 0 o1 k1 l1 h1 t1 x1 n1 := by rw [hV]; unfold Six; simp
  have HSV : Hid (Six V U.heap.size 0 o1 k1 l1 h1 t1 x1 n1) := six0
  have HKV : Hid (Kept Any U V) := KV
  have HAV : Hid (At w rb V) := HA.out.step hlt (KV.mono (fun _ _ _ => trivial))
  have v0 : V.cell? ⟨w.heap.size, 0, none⟩ = some (.int .i64 0) := HAV.out.z 0
  have v1 : V.cell? ⟨w.heap.size, 1, none⟩ = some (.int .i64 0) := HAV.out.z 1
  have v2 : V.cell? ⟨w.heap.size, 2, none⟩ = some (.int .i64 0) := HAV.out.z 2
  have v3 : V.cell? ⟨w.heap.size, 3, none⟩ = some (.int .i64 0) := HAV.out.z 3
  have v4 : V.cell? ⟨w.heap.size, 4, none⟩ = some (.string ⟨#[]⟩) := HAV.out.z 4
  have v5 : V.cell? ⟨w.heap.size, 5, none⟩ = some (.slice none 0 0) := HAV.out.z 5
  have vf := HAV.out.f
  have vs := HAV.out.s
  have hSV : (fun w' => w'.cell? ⟨w1.heap.size, 0, none⟩ = some (.int .i64 o1) ∧ w'.cell? ⟨w1.heap.size, 1, none⟩ = some (.int .i64 k1) ∧ w'.cell? ⟨w1.heap.size, 2, none⟩ = some (.int .i64 l1) ∧ w'.cell? ⟨w1.heap.size, 3, none⟩ = some (.int .i64 h1) ∧ w'.cell? ⟨w1.heap.size, 4, none⟩ = some (.string t1) ∧ w'.cell? ⟨w1.heap.size, 5, none⟩ = some (.slice x1 n1 n1)) V := ⟨(KV.cell s2 trivial).trans y0, (KV.cell s2 trivial).trans y1, (KV.cell s2 trivial).trans y2, (KV.cell s2 trivial).trans y3, (KV.cell s2 trivial).trans y4, (KV.cell s2 trivial).trans y5⟩
  dsimp only at hSV
  have HEV : Hid (V = (U.alloc (.cells #[.int .i64 o1, .int .i64 k1, .int .i64 l1, .int .i64 h1, .string t1, .slice x1 n1 n1] 53)).drew) := hV
  clear hV KV six0
  refine wpAnyH_ready (rs := [1, 4]) (by kernel_rfl) (by simp) ?_
  refine AllReadyH.cons (o := { dst := some 48, op := Op.buildSlice 51 1 #[(0, Operand.tmp 47)], type := 51, pos := "read.go:80", after := #[{ on := 0, ground := Ground.data }], guard := none }) rfl (fun K hK => ?_) (AllReadyH.cons (o := { dst := some 51, op := Op.call { callee := Callee.value (Operand.func 51), args := #[Operand.const (Value.string { data := #[33] }), Operand.tmp 50], argTypes := #[9, 65] }, type := 65, pos := "read.go:80", after := #[{ on := 3, ground := Ground.data }], guard := none }) rfl (fun K hK => ?_) AllReadyH.nil)
  · go_simp
    rw [← HEV.out]
    refine hK.out _ _ hSV (fun hHeld => ?_)
    clear hK K
    try simp only [Act.put, List.setIfInBounds_toArray, List.set_cons_zero, List.set_cons_succ]
    refine wpAnyH_take (i := 2) (oi := { dst := some 49, op := Op.build 53 #[(0, Operand.const (Value.int IntKind.i64 7)), (5, Operand.tmp 48)], type := 53, pos := "read.go:80", after := #[{ on := 1, ground := Ground.data }], guard := none }) (v := ?_) rfl (by kernel_rfl) (by kernel_rfl) (by kernel_rfl) (fun _ _ _ h => h) (Or.inl ⟨by rfl, ?_⟩) (by assumption) ?_
    rotate_left
    · intro w hSw
      (try dsimp only at hSw)
      go_simp
      try with_reducible rfl
    simp only [Act.put, List.setIfInBounds_toArray, List.set_cons_zero, List.set_cons_succ]
    refine wpAnyH_ready (rs := [4]) (by kernel_rfl) (by simp) ?_
    refine AllReadyH.cons (o := { dst := some 51, op := Op.call { callee := Callee.value (Operand.func 51), args := #[Operand.const (Value.string { data := #[33] }), Operand.tmp 50], argTypes := #[9, 65] }, type := 65, pos := "read.go:80", after := #[{ on := 3, ground := Ground.data }], guard := none }) rfl (fun K hK => ?_) AllReadyH.nil
    go_simp
    go_at_call 51
    refine (within_one _ _ _ _).mono ?_
    rintro r w2 ⟨rfl, rfl⟩
    refine hK.out _ _ hSV (fun hHeld => ?_)
    clear hK K
    try simp only [Act.put, List.setIfInBounds_toArray, List.set_cons_zero, List.set_cons_succ]
    refine wpAnyH_ready (rs := [5]) (by kernel_rfl) (by simp) ?_
    refine AllReadyH.cons (o := { dst := none, op := Op.store 53 (Operand.tmp 2) (Operand.tmp 49), type := 0, pos := "read.go:80", after := #[{ on := 2, ground := Ground.data }, { on := 4, ground := Ground.chain }, { on := 0, ground := Ground.phase }, { on := 1, ground := Ground.phase }, { on := 2, ground := Ground.phase }, { on := 3, ground := Ground.textOnly Departure.lateStores }, { on := 4, ground := Ground.textOnly Departure.lateStoresUnsure }], guard := none }) rfl (fun K hK => ?_) AllReadyH.nil
    go_simp
    refine hK.out _ _ ?_ (fun hHeld => ?_)
    · (try dsimp only)
      go_keep
    clear hK K
    try simp only [Act.put, List.setIfInBounds_toArray, List.set_cons_zero, List.set_cons_succ]
    refine wpAnyH_take (i := 6) (oi := { dst := some 3, op := Op.assign (Operand.tmp 51), type := 65, pos := "read.go:80", after := #[{ on := 4, ground := Ground.data }, { on := 5, ground := Ground.chain }, { on := 0, ground := Ground.phase }, { on := 1, ground := Ground.phase }, { on := 2, ground := Ground.phase }, { on := 3, ground := Ground.phase }, { on := 4, ground := Ground.phase }, { on := 5, ground := Ground.phase }], guard := none }) (v := ?_) rfl (by kernel_rfl) (by kernel_rfl) (by kernel_rfl) (fun _ _ _ h => h) (Or.inl ⟨by rfl, ?_⟩) (by assumption) ?_
    rotate_left
    · intro w hSw
      (try dsimp only at hSw)
      go_simp
      try with_reducible rfl
    simp only [Act.put, List.setIfInBounds_toArray, List.set_cons_zero, List.set_cons_succ]
    refine wpAnyH_done (by kernel_rfl) ?_ _
    go_wp2
    refine bodyPost_ret (v := .tuple #[.agg #[.int .i64 7, .int .i64 0, .int .i64 0, .int .i64 0, .string ⟨#[]⟩, .slice (some ⟨U.heap.size, 0, none⟩) 1 1], _]) (by simp [results, Tryz.results83, go_sem, v0, v1, v2, v3, v4, v5] <;> rfl) rfl ⟨7, 0, 0, 0, ⟨#[]⟩, some ⟨U.heap.size, 0, none⟩, 1, _, _, _, rfl, HM.out.one _, kept_six HAV.out.k⟩
  · go_simp
    go_at_call 51
    refine (within_one _ _ _ _).mono ?_
    rintro r w2 ⟨rfl, rfl⟩
    refine hK.out _ _ hHeld (fun hHeld => ?_)
    clear hK K
    try simp only [Act.put, List.setIfInBounds_toArray, List.set_cons_zero, List.set_cons_succ]
    refine wpAnyH_ready (rs := [1]) (by kernel_rfl) (by simp) ?_
    refine AllReadyH.cons (o := { dst := some 48, op := Op.buildSlice 51 1 #[(0, Operand.tmp 47)], type := 51, pos := "read.go:80", after := #[{ on := 0, ground := Ground.data }], guard := none }) rfl (fun K hK => ?_) AllReadyH.nil
    go_simp
    rw [← HEV.out]
    refine hK.out _ _ hSV (fun hHeld => ?_)
    clear hK K
    try simp only [Act.put, List.setIfInBounds_toArray, List.set_cons_zero, List.set_cons_succ]
    refine wpAnyH_take (i := 2) (oi := { dst := some 49, op := Op.build 53 #[(0, Operand.const (Value.int IntKind.i64 7)), (5, Operand.tmp 48)], type := 53, pos := "read.go:80", after := #[{ on := 1, ground := Ground.data }], guard := none }) (v := ?_) rfl (by kernel_rfl) (by kernel_rfl) (by kernel_rfl) (fun _ _ _ h => h) (Or.inl ⟨by rfl, ?_⟩) (by assumption) ?_
    rotate_left
    · intro w hSw
      (try dsimp only at hSw)
      go_simp
      try with_reducible rfl
    simp only [Act.put, List.setIfInBounds_toArray, List.set_cons_zero, List.set_cons_succ]
    refine wpAnyH_ready (rs := [5]) (by kernel_rfl) (by simp) ?_
    refine AllReadyH.cons (o := { dst := none, op := Op.store 53 (Operand.tmp 2) (Operand.tmp 49), type := 0, pos := "read.go:80", after := #[{ on := 2, ground := Ground.data }, { on := 4, ground := Ground.chain }, { on := 0, ground := Ground.phase }, { on := 1, ground := Ground.phase }, { on := 2, ground := Ground.phase }, { on := 3, ground := Ground.textOnly Departure.lateStores }, { on := 4, ground := Ground.textOnly Departure.lateStoresUnsure }], guard := none }) rfl (fun K hK => ?_) AllReadyH.nil
    go_simp
    refine hK.out _ _ ?_ (fun hHeld => ?_)
    · (try dsimp only)
      go_keep
    clear hK K
    try simp only [Act.put, List.setIfInBounds_toArray, List.set_cons_zero, List.set_cons_succ]
    refine wpAnyH_take (i := 6) (oi := { dst := some 3, op := Op.assign (Operand.tmp 51), type := 65, pos := "read.go:80", after := #[{ on := 4, ground := Ground.data }, { on := 5, ground := Ground.chain }, { on := 0, ground := Ground.phase }, { on := 1, ground := Ground.phase }, { on := 2, ground := Ground.phase }, { on := 3, ground := Ground.phase }, { on := 4, ground := Ground.phase }, { on := 5, ground := Ground.phase }], guard := none }) (v := ?_) rfl (by kernel_rfl) (by kernel_rfl) (by kernel_rfl) (fun _ _ _ h => h) (Or.inl ⟨by rfl, ?_⟩) (by assumption) ?_
    rotate_left
    · intro w hSw
      (try dsimp only at hSw)
      go_simp
      try with_reducible rfl
    simp only [Act.put, List.setIfInBounds_toArray, List.set_cons_zero, List.set_cons_succ]
    refine wpAnyH_done (by kernel_rfl) ?_ _
    go_wp2
    refine bodyPost_ret (v := .tuple #[.agg #[.int .i64 7, .int .i64 0, .int .i64 0, .int .i64 0, .string ⟨#[]⟩, .slice (some ⟨U.heap.size, 0, none⟩) 1 1], _]) (by simp [results, Tryz.results83, go_sem, v0, v1, v2, v3, v4, v5] <;> rfl) rfl ⟨7, 0, 0, 0, ⟨#[]⟩, some ⟨U.heap.size, 0, none⟩, 1, _, _, _, rfl, HM.out.one _, kept_six HAV.out.k⟩

set_option maxHeartbeats 4000000 in
theorem single_open_no83 (rb : Nat) (ws : List Wd.Word) (p : Nat) (e : Int) (w : World) (hg : Ps.Goods ws) (h : Rdr w rb ws p e) (e42 : Ps.isMark ws p 42 = false) (e64 : Ps.isMark ws p 64 = false) (e94 : Ps.isMark ws p 94 = false) (e33 : Ps.isMark ws p 33 = false) (e40 : Ps.isMark ws p 40 = true) (c : ∀ w, Rdr w rb ws (p + 1) e → Calls Tryz.prog 52 #[.pointer (some ⟨rb, 0, none⟩)] w (PR rb ws e (none) w)) : Calls Tryz.prog 83 #[.pointer (some ⟨rb, 0, none⟩)] w (PR rb ws e (none) w) := by
  have hlt := h.lt
  have h0 : Rdr (w.alloc (.cells #[.int .i64 0, .int .i64 0, .int .i64 0, .int .i64 0, .string ⟨#[]⟩, .slice none 0 0] 53)) rb ws p e := h.alloc _
  have HA0 : Hid (At w rb (w.alloc (.cells #[.int .i64 0, .int .i64 0, .int .i64 0, .int .i64 0, .string ⟨#[]⟩, .slice none 0 0] 53))) := At.start w rb
  have c42 := fun w' (h' : Rdr w' rb ws p e) => has82 rb ws p e 42 ⟨#[42]⟩ rfl w' h'
  rw [isM_eq, e42] at c42
  simp only [Bool.false_eq_true, if_false] at c42
  have c64 := fun w' (h' : Rdr w' rb ws p e) => has82 rb ws p e 64 ⟨#[64]⟩ rfl w' h'
  rw [isM_eq, e64] at c64
  simp only [Bool.false_eq_true, if_false] at c64
  have c94 := fun w' (h' : Rdr w' rb ws p e) => has82 rb ws p e 94 ⟨#[94]⟩ rfl w' h'
  rw [isM_eq, e94] at c94
  simp only [Bool.false_eq_true, if_false] at c94
  have c33 := fun w' (h' : Rdr w' rb ws p e) => has82 rb ws p e 33 ⟨#[33]⟩ rfl w' h'
  rw [isM_eq, e33] at c33
  simp only [Bool.false_eq_true, if_false] at c33
  have c40 := fun w' (h' : Rdr w' rb ws p e) => has82 rb ws p e 40 ⟨#[40]⟩ rfl w' h'
  rw [isM_eq, e40] at c40
  simp only [if_true] at c40
  clear e42 e64 e94 e33 e40
  unfold PR
  go_enter Tryz.func83, Tryz.ntmps83
  go_wp2_with fail
  refine (c42 _ h0).mono ?_
  rintro r w42 ⟨rfl, hr42, hk42⟩
  have HA42 : Hid (At w rb w42) := HA0.out.step hlt hk42
  clear hk42 HA0 c42 h0
  go_wp2_with fail
  refine (c64 _ hr42).mono ?_
  rintro r w64 ⟨rfl, hr64, hk64⟩
  have HA64 : Hid (At w rb w64) := HA42.out.step hlt hk64
  clear hk64 HA42 c64 hr42
  go_wp2_with fail
  refine (c94 _ hr64).mono ?_
  rintro r w94 ⟨rfl, hr94, hk94⟩
  have HA94 : Hid (At w rb w94) := HA64.out.step hlt hk94
  clear hk94 HA64 c94 hr64
  go_wp2_with fail
  refine (c33 _ hr94).mono ?_
  rintro r w33 ⟨rfl, hr33, hk33⟩
  have HA33 : Hid (At w rb w33) := HA94.out.step hlt hk33
  clear hk33 HA94 c33 hr94
  go_wp2_with fail
  refine (c40 _ hr33).mono ?_
  rintro r w40 ⟨rfl, hr40, hk40⟩
  have HA40 : Hid (At w rb w40) := HA33.out.step hlt hk40
  clear hk40 HA33 c40 hr33
  replace c := c w40 hr40
  unfold PR at c
  have HA1 := HA40
  have sW := HA40.out.s
  clear HA40 hr40
  go_wp2_with fail
  refine c.mono ?_
  rintro r w1 ⟨o1, k1, l1, h1, t1, x1, n1, m, T, v, rfl, hm, hk1⟩
  clear c
  have s12 : w40.heap.size ≤ w1.heap.size := hk1.size
  replace HA1 : Hid (At w rb w1) := HA1.out.step hlt hk1
  obtain ⟨U, hU⟩ : ∃ U, U = w1.alloc (.cells #[.int .i64 o1, .int .i64 k1, .int .i64 l1, .int .i64 h1, .string t1, .slice x1 n1 n1] 53) := ⟨_, rfl⟩
  have HA : Hid (At w rb U) := by rw [hU]; exact HA1.out.alloc _
  have y0 : U.cell? ⟨w1.heap.size, 0, none⟩ = some (.int .i64 o1) := by rw [hU]; simp
  have y1 : U.cell? ⟨w1.heap.size, 1, none⟩ = some (.int .i64 k1) := by rw [hU]; simp
  have y2 : U.cell? ⟨w1.heap.size, 2, none⟩ = some (.int .i64 l1) := by rw [hU]; simp
  have y3 : U.cell? ⟨w1.heap.size, 3, none⟩ = some (.int .i64 h1) := by rw [hU]; simp
  have y4 : U.cell? ⟨w1.heap.size, 4, none⟩ = some (.string t1) := by rw [hU]; simp
  have y5 : U.cell? ⟨w1.heap.size, 5, none⟩ = some (.slice x1 n1 n1) := by rw [hU]; simp
  have HU : Hid (U = w1.alloc (.cells #[.int .i64 o1, .int .i64 k1, .int .i64 l1, .int .i64 h1, .string t1, .slice x1 n1 n1] 53)) := hU
  have s2 : w1.heap.size < U.heap.size := by rw [hU]; simp
  have s3 : w.heap.size < w1.heap.size := HA1.out.s
  have ne1 : w.heap.size ≠ w1.heap.size := by omega
  have ne2 : w1.heap.size ≠ w.heap.size := by omega
  have ne3 : w.heap.size ≠ U.heap.size := by omega
  have ne4 : U.heap.size ≠ w.heap.size := by omega
  have ne5 : w1.heap.size ≠ U.heap.size := by omega
  have ne6 : U.heap.size ≠ w1.heap.size := by omega
  have HM : Hid (Mis m (.iface T v)) := hm
  clear hU hk1 HA1 hm
  go_wp2_with fail
  rw [← HU.out]
  have z1 := HA.out.z
  have f1 := HA.out.f
  have s1 := HA.out.s
  clear HU
  go_region_with (first | (go_at_call 51; refine (within_one _ _ _ _).mono ?_; rintro r w2 ⟨rfl, rfl⟩))
  all_goals (try go_wp2)
  all_goals (
    refine bodyPost_ret (v := .tuple #[.agg #[.int .i64 o1, .int .i64 k1, .int .i64 l1, .int .i64 h1, .string t1, .slice x1 n1 n1], _]) (by simp [results, Tryz.results83, go_sem, z1] <;> rfl) rfl ⟨o1, k1, l1, h1, t1, x1, n1, _, _, _, rfl, HM.out.one _, kept_six_drew HA.out.k⟩)

set_option maxHeartbeats 4000000 in
theorem single_open83 (rb : Nat) (ws : List Wd.Word) (p : Nat) (e : Int) (w : World) (hg : Ps.Goods ws) (h : Rdr w rb ws p e) (e42 : Ps.isMark ws p 42 = false) (e64 : Ps.isMark ws p 64 = false) (e94 : Ps.isMark ws p 94 = false) (e33 : Ps.isMark ws p 33 = false) (e40 : Ps.isMark ws p 40 = true) (f : Ps.Ft) (q : Nat) (e41 : Ps.isMark ws q 41 = true) (c : ∀ w, Rdr w rb ws (p + 1) e → Calls Tryz.prog 52 #[.pointer (some ⟨rb, 0, none⟩)] w (PR rb ws e (some (f, q)) w)) : Calls Tryz.prog 83 #[.pointer (some ⟨rb, 0, none⟩)] w (PR rb ws e (some (f, q + 1)) w) := by
  have hlt := h.lt
  have h0 : Rdr (w.alloc (.cells #[.int .i64 0, .int .i64 0, .int .i64 0, .int .i64 0, .string ⟨#[]⟩, .slice none 0 0] 53)) rb ws p e := h.alloc _
  have HA0 : Hid (At w rb (w.alloc (.cells #[.int .i64 0, .int .i64 0, .int .i64 0, .int .i64 0, .string ⟨#[]⟩, .slice none 0 0] 53))) := At.start w rb
  have c42 := fun w' (h' : Rdr w' rb ws p e) => has82 rb ws p e 42 ⟨#[42]⟩ rfl w' h'
  rw [isM_eq, e42] at c42
  simp only [Bool.false_eq_true, if_false] at c42
  have c64 := fun w' (h' : Rdr w' rb ws p e) => has82 rb ws p e 64 ⟨#[64]⟩ rfl w' h'
  rw [isM_eq, e64] at c64
  simp only [Bool.false_eq_true, if_false] at c64
  have c94 := fun w' (h' : Rdr w' rb ws p e) => has82 rb ws p e 94 ⟨#[94]⟩ rfl w' h'
  rw [isM_eq, e94] at c94
  simp only [Bool.false_eq_true, if_false] at c94
  have c33 := fun w' (h' : Rdr w' rb ws p e) => has82 rb ws p e 33 ⟨#[33]⟩ rfl w' h'
  rw [isM_eq, e33] at c33
  simp only [Bool.false_eq_true, if_false] at c33
  have c40 := fun w' (h' : Rdr w' rb ws p e) => has82 rb ws p e 40 ⟨#[40]⟩ rfl w' h'
  rw [isM_eq, e40] at c40
  simp only [if_true] at c40
  clear e42 e64 e94 e33 e40
  unfold PR
  go_enter Tryz.func83, Tryz.ntmps83
  go_wp2_with fail
  refine (c42 _ h0).mono ?_
  rintro r w42 ⟨rfl, hr42, hk42⟩
  have HA42 : Hid (At w rb w42) := HA0.out.step hlt hk42
  clear hk42 HA0 c42 h0
  go_wp2_with fail
  refine (c64 _ hr42).mono ?_
  rintro r w64 ⟨rfl, hr64, hk64⟩
  have HA64 : Hid (At w rb w64) := HA42.out.step hlt hk64
  clear hk64 HA42 c64 hr42
  go_wp2_with fail
  refine (c94 _ hr64).mono ?_
  rintro r w94 ⟨rfl, hr94, hk94⟩
  have HA94 : Hid (At w rb w94) := HA64.out.step hlt hk94
  clear hk94 HA64 c94 hr64
  go_wp2_with fail
  refine (c33 _ hr94).mono ?_
  rintro r w33 ⟨rfl, hr33, hk33⟩
  have HA33 : Hid (At w rb w33) := HA94.out.step hlt hk33
  clear hk33 HA94 c33 hr94
  go_wp2_with fail
  refine (c40 _ hr33).mono ?_
  rintro r w40 ⟨rfl, hr40, hk40⟩
  have HA40 : Hid (At w rb w40) := HA33.out.step hlt hk40
  clear hk40 HA33 c40 hr33
  replace c := c w40 hr40
  unfold PR at c
  have HA1 := HA40
  have sW := HA40.out.s
  clear HA40 hr40
  go_wp2_with fail
  refine c.mono ?_
  rintro r w1 ⟨o1, k1, l1, h1, t1, x1, n1, rfl, hl1, hr1, hk1⟩
  clear c
  have s12 : w40.heap.size ≤ w1.heap.size := hk1.size
  replace HA1 : Hid (At w rb w1) := HA1.out.step hlt hk1
  have HR1 : Hid (Rdr w1 rb ws q e) := hr1
  have HL1 : Hid (Lies (Past w40.heap.size) w1 f o1 k1 l1 h1 t1 x1 n1) := hl1
  obtain ⟨X, hX⟩ : ∃ X, X = w1.alloc (.cells #[.int .i64 o1, .int .i64 k1, .int .i64 l1, .int .i64 h1, .string t1, .slice x1 n1 n1] 53) := ⟨_, rfl⟩
  have c2 := wants_yes rb ws q e 41 ⟨#[41]⟩ rfl X (by rw [hX]; exact hr1.alloc _) e41
  have HX : Hid (X = w1.alloc (.cells #[.int .i64 o1, .int .i64 k1, .int .i64 l1, .int .i64 h1, .string t1, .slice x1 n1 n1] 53)) := hX
  clear e41 hr1 hl1 hk1
  go_wp2_with fail
  rw [← HX.out]
  refine c2.mono ?_
  rintro r U ⟨rfl, hr2, hk2⟩
  clear c2
  have s3 : w.heap.size < w1.heap.size := HA1.out.s
  have hxs : w1.heap.size < X.heap.size := by rw [hX]; simp
  have x0 : ∀ i, X.cell? ⟨w1.heap.size, i, none⟩ = (#[.int .i64 o1, .int .i64 k1, .int .i64 l1, .int .i64 h1, .string t1, .slice x1 n1 n1] : Array Value)[i]? := fun i => by rw [hX]; simp
  have HA : Hid (At w rb U) := (by rw [hX]; exact HA1.out.alloc _ : At w rb X).step hlt hk2
  have hrb : rb < w1.heap.size := by omega
  have y0 : U.cell? ⟨w1.heap.size, 0, none⟩ = some (.int .i64 o1) := (hk2.cell hxs (by unfold But; omega)).trans (x0 0)
  have y1 : U.cell? ⟨w1.heap.size, 1, none⟩ = some (.int .i64 k1) := (hk2.cell hxs (by unfold But; omega)).trans (x0 1)
  have y2 : U.cell? ⟨w1.heap.size, 2, none⟩ = some (.int .i64 l1) := (hk2.cell hxs (by unfold But; omega)).trans (x0 2)
  have y3 : U.cell? ⟨w1.heap.size, 3, none⟩ = some (.int .i64 h1) := (hk2.cell hxs (by unfold But; omega)).trans (x0 3)
  have y4 : U.cell? ⟨w1.heap.size, 4, none⟩ = some (.string t1) := (hk2.cell hxs (by unfold But; omega)).trans (x0 4)
  have y5 : U.cell? ⟨w1.heap.size, 5, none⟩ = some (.slice x1 n1 n1) := (hk2.cell hxs (by unfold But; omega)).trans (x0 5)
  have s2 : w1.heap.size < U.heap.size := Nat.lt_of_lt_of_le hxs hk2.size
  have ne1 : w.heap.size ≠ w1.heap.size := by omega
  have ne2 : w1.heap.size ≠ w.heap.size := by omega
  have HR : Hid (Rdr U rb ws (q + 1) e) := hr2
  have HL : Hid (Lies (Past w40.heap.size) U f o1 k1 l1 h1 t1 x1 n1) := Lies.kept ((by rw [hX]; exact (Kept.refl _ w1).alloc _ : Kept (Past w40.heap.size) w1 X).trans (hk2.mono (fun b _ hb => by unfold Past at hb; unfold But; omega))) f HL1.out
  clear x0 hX HX hk2 hr2 HL1 HR1 HA1
  have z1 := HA.out.z
  have f1 := HA.out.f
  have s1 := HA.out.s
  go_wp2_with fail
  go_region_with (first | (go_at_call 51; refine (within_none _ _).mono ?_; rintro r w2 ⟨rfl, rfl⟩))
  all_goals (try go_wp2)
  all_goals (
    refine bodyPost_ret (v := .tuple #[.agg #[.int .i64 o1, .int .i64 k1, .int .i64 l1, .int .i64 h1, .string t1, .slice x1 n1 n1], .nilIface]) (by simp [results, Tryz.results83, go_sem, z1]) rfl ⟨o1, k1, l1, h1, t1, x1, n1, rfl, Lies.mono (P := Past w40.heap.size) (fun b _ hb => by unfold Past at *; omega) f (Lies.kept (past_six_drew sW) f HL.out), HR.out.below (below_six_drew hlt), kept_six_drew HA.out.k⟩)

set_option maxHeartbeats 4000000 in
theorem single_open_no83b (rb : Nat) (ws : List Wd.Word) (p : Nat) (e : Int) (w : World) (hg : Ps.Goods ws) (h : Rdr w rb ws p e) (e42 : Ps.isMark ws p 42 = false) (e64 : Ps.isMark ws p 64 = false) (e94 : Ps.isMark ws p 94 = false) (e33 : Ps.isMark ws p 33 = false) (e40 : Ps.isMark ws p 40 = true) (f : Ps.Ft) (q : Nat) (e41 : Ps.isMark ws q 41 = false) (c : ∀ w, Rdr w rb ws (p + 1) e → Calls Tryz.prog 52 #[.pointer (some ⟨rb, 0, none⟩)] w (PR rb ws e (some (f, q)) w)) : Calls Tryz.prog 83 #[.pointer (some ⟨rb, 0, none⟩)] w (PR rb ws e (none) w) := by
  have hlt := h.lt
  have h0 : Rdr (w.alloc (.cells #[.int .i64 0, .int .i64 0, .int .i64 0, .int .i64 0, .string ⟨#[]⟩, .slice none 0 0] 53)) rb ws p e := h.alloc _
  have HA0 : Hid (At w rb (w.alloc (.cells #[.int .i64 0, .int .i64 0, .int .i64 0, .int .i64 0, .string ⟨#[]⟩, .slice none 0 0] 53))) := At.start w rb
  have c42 := fun w' (h' : Rdr w' rb ws p e) => has82 rb ws p e 42 ⟨#[42]⟩ rfl w' h'
  rw [isM_eq, e42] at c42
  simp only [Bool.false_eq_true, if_false] at c42
  have c64 := fun w' (h' : Rdr w' rb ws p e) => has82 rb ws p e 64 ⟨#[64]⟩ rfl w' h'
  rw [isM_eq, e64] at c64
  simp only [Bool.false_eq_true, if_false] at c64
  have c94 := fun w' (h' : Rdr w' rb ws p e) => has82 rb ws p e 94 ⟨#[94]⟩ rfl w' h'
  rw [isM_eq, e94] at c94
  simp only [Bool.false_eq_true, if_false] at c94
  have c33 := fun w' (h' : Rdr w' rb ws p e) => has82 rb ws p e 33 ⟨#[33]⟩ rfl w' h'
  rw [isM_eq, e33] at c33
  simp only [Bool.false_eq_true, if_false] at c33
  have c40 := fun w' (h' : Rdr w' rb ws p e) => has82 rb ws p e 40 ⟨#[40]⟩ rfl w' h'
  rw [isM_eq, e40] at c40
  simp only [if_true] at c40
  clear e42 e64 e94 e33 e40
  unfold PR
  go_enter Tryz.func83, Tryz.ntmps83
  go_wp2_with fail
  refine (c42 _ h0).mono ?_
  rintro r w42 ⟨rfl, hr42, hk42⟩
  have HA42 : Hid (At w rb w42) := HA0.out.step hlt hk42
  clear hk42 HA0 c42 h0
  go_wp2_with fail
  refine (c64 _ hr42).mono ?_
  rintro r w64 ⟨rfl, hr64, hk64⟩
  have HA64 : Hid (At w rb w64) := HA42.out.step hlt hk64
  clear hk64 HA42 c64 hr42
  go_wp2_with fail
  refine (c94 _ hr64).mono ?_
  rintro r w94 ⟨rfl, hr94, hk94⟩
  have HA94 : Hid (At w rb w94) := HA64.out.step hlt hk94
  clear hk94 HA64 c94 hr64
  go_wp2_with fail
  refine (c33 _ hr94).mono ?_
  rintro r w33 ⟨rfl, hr33, hk33⟩
  have HA33 : Hid (At w rb w33) := HA94.out.step hlt hk33
  clear hk33 HA94 c33 hr94
  go_wp2_with fail
  refine (c40 _ hr33).mono ?_
  rintro r w40 ⟨rfl, hr40, hk40⟩
  have HA40 : Hid (At w rb w40) := HA33.out.step hlt hk40
  clear hk40 HA33 c40 hr33
  replace c := c w40 hr40
  unfold PR at c
  have HA1 := HA40
  have sW := HA40.out.s
  clear HA40 hr40
  go_wp2_with fail
  refine c.mono ?_
  rintro r w1 ⟨o1, k1, l1, h1, t1, x1, n1, rfl, hl1, hr1, hk1⟩
  clear c
  have s12 : w40.heap.size ≤ w1.heap.size := hk1.size
  replace HA1 : Hid (At w rb w1) := HA1.out.step hlt hk1
  have HR1 : Hid (Rdr w1 rb ws q e) := hr1
  have HL1 : Hid (Lies (Past w40.heap.size) w1 f o1 k1 l1 h1 t1 x1 n1) := hl1
  obtain ⟨X, hX⟩ : ∃ X, X = w1.alloc (.cells #[.int .i64 o1, .int .i64 k1, .int .i64 l1, .int .i64 h1, .string t1, .slice x1 n1 n1] 53) := ⟨_, rfl⟩
  have c2 := wants_no rb ws q e 41 ⟨#[41]⟩ rfl X (by rw [hX]; exact hr1.alloc _) e41
  have HX : Hid (X = w1.alloc (.cells #[.int .i64 o1, .int .i64 k1, .int .i64 l1, .int .i64 h1, .string t1, .slice x1 n1 n1] 53)) := hX
  clear e41 hr1 hl1 hk1
  go_wp2_with fail
  rw [← HX.out]
  refine c2.mono ?_
  rintro r U ⟨y, rfl, hk2⟩
  clear c2
  have s3 : w.heap.size < w1.heap.size := HA1.out.s
  have hxs : w1.heap.size < X.heap.size := by rw [hX]; simp
  have x0 : ∀ i, X.cell? ⟨w1.heap.size, i, none⟩ = (#[.int .i64 o1, .int .i64 k1, .int .i64 l1, .int .i64 h1, .string t1, .slice x1 n1 n1] : Array Value)[i]? := fun i => by rw [hX]; simp
  have HA : Hid (At w rb U) := (by rw [hX]; exact HA1.out.alloc _ : At w rb X).step hlt hk2
  have hrb : rb < w1.heap.size := by omega
  have y0 : U.cell? ⟨w1.heap.size, 0, none⟩ = some (.int .i64 o1) := (hk2.cell hxs (by unfold But; omega)).trans (x0 0)
  have y1 : U.cell? ⟨w1.heap.size, 1, none⟩ = some (.int .i64 k1) := (hk2.cell hxs (by unfold But; omega)).trans (x0 1)
  have y2 : U.cell? ⟨w1.heap.size, 2, none⟩ = some (.int .i64 l1) := (hk2.cell hxs (by unfold But; omega)).trans (x0 2)
  have y3 : U.cell? ⟨w1.heap.size, 3, none⟩ = some (.int .i64 h1) := (hk2.cell hxs (by unfold But; omega)).trans (x0 3)
  have y4 : U.cell? ⟨w1.heap.size, 4, none⟩ = some (.string t1) := (hk2.cell hxs (by unfold But; omega)).trans (x0 4)
  have y5 : U.cell? ⟨w1.heap.size, 5, none⟩ = some (.slice x1 n1 n1) := (hk2.cell hxs (by unfold But; omega)).trans (x0 5)
  have s2 : w1.heap.size < U.heap.size := Nat.lt_of_lt_of_le hxs hk2.size
  have ne1 : w.heap.size ≠ w1.heap.size := by omega
  have ne2 : w1.heap.size ≠ w.heap.size := by omega
  have HM : Hid (Mis 0 (.iface 69 (.agg #[.int .i64 y]))) := mis_zero y
  clear x0 hX HX hk2 HL1 HR1 HA1
  have z1 := HA.out.z
  have f1 := HA.out.f
  have s1 := HA.out.s
  go_wp2_with fail
  go_region_with (first | (go_at_call 51; refine (within_one _ _ _ _).mono ?_; rintro r w2 ⟨rfl, rfl⟩))
  all_goals (try go_wp2)
  all_goals (
    refine bodyPost_ret (v := .tuple #[.agg #[.int .i64 o1, .int .i64 k1, .int .i64 l1, .int .i64 h1, .string t1, .slice x1 n1 n1], _]) (by simp [results, Tryz.results83, go_sem, z1] <;> rfl) rfl ⟨o1, k1, l1, h1, t1, x1, n1, _, _, _, rfl, HM.out.one _, kept_six_drew HA.out.k⟩)

end Go.Proofs.YtdeojcodbojmoaaGreatDoor
namespace Go.Proofs.YtdeojcodbojmoaaGreatDoor
open Go.RowKit
set_option maxRecDepth 100000
set_option linter.unusedVariables false

/-- Blocks made since w, but for one. -/
def Pf (w : World) (fb : Nat) : Nat → Prop := fun b => w.heap.size < b ∧ b ≠ fb

/-- How many words the reader has left. -/
def leftOf (wr : World) (rb : Nat) : Nat := match wr.cell? ⟨rb, 0, none⟩ with
  | some (.slice _ n _) => n
  | _ => 0
def rowM (rb : Nat) (ev : Value) (wr : World) : Nat := match ev with
  | .nilIface => leftOf wr rb + 1
  | _ => 0
theorem leftOf_eq {w : World} {rb : Nat} {ws : List Wd.Word} {i : Nat} {e : Int} (h : Rdr w rb ws i e) : leftOf w rb = ws.length - i := by
  obtain ⟨_, _, _, ao, cap, wb, q, _⟩ := h
  unfold leftOf
  rw [q]

/-- What stands at the head of the loop. -/
structure RowI (w : World) (rb fb : Nat) (ws : List Wd.Word) (p : Nat) (e : Int) (M : Ps.Ft → Ps.Job) (R : Option (Ps.Ft × Nat)) (ev : Value) (wr : World) : Prop where
  at_ : At w rb wr
  lo : w.heap.size < fb
  hi : fb < wr.heap.size
  fz : ∀ o, wr.frozen? ⟨fb, o, none⟩ = false
  is : ∃ o k l h t x n, Six wr fb 0 o k l h t x n ∧
    ((ev = .nilIface ∧ ∃ f q, f.wf ∧ q ≤ ws.length ∧ p ≤ q ∧ Ps.P ws (M f) q = R ∧ Rdr wr rb ws q e ∧ Lies (Pf w fb) wr f o k l h t x n) ∨ (R = none ∧ ∃ m T v, ev = .iface T v ∧ Mis m (.iface T v)))

theorem pr_no {rb : Nat} {ws : List Wd.Word} {e : Int} {w w' : World} {o k l h : Int} {t : ByteArray} {x : Option Addr} {n m : Nat} {T : TypeId} {v : Value} (hm : Mis m (.iface T v)) (hk : Kept (But rb) w w') : PR rb ws e none w (.returned (.tuple #[.agg #[.int .i64 o, .int .i64 k, .int .i64 l, .int .i64 h, .string t, .slice x n n], .iface T v])) w' := ⟨o, k, l, h, t, x, n, m, T, v, rfl, hm, hk⟩
theorem pr_yes {rb : Nat} {ws : List Wd.Word} {e : Int} {w w' : World} {f : Ps.Ft} {q : Nat} {o k l h : Int} {t : ByteArray} {x : Option Addr} {n : Nat} (hl : Lies (Past w.heap.size) w' f o k l h t x n) (hr : Rdr w' rb ws q e) (hk : Kept (But rb) w w') : PR rb ws e (some (f, q)) w (.returned (.tuple #[.agg #[.int .i64 o, .int .i64 k, .int .i64 l, .int .i64 h, .string t, .slice x n n], .nilIface])) w' := ⟨o, k, l, h, t, x, n, rfl, hl, hr, hk⟩

/-- What a part tells, of either kind. -/
theorem pr_cases {rb : Nat} {ws : List Wd.Word} {e : Int} {o : Option (Ps.Ft × Nat)} {w w' : World} {r : Ending} (h : PR rb ws e o w r w') : ∃ o1 k1 l1 h1 t1 x1 n1 ev, r = .returned (.tuple #[.agg #[.int .i64 o1, .int .i64 k1, .int .i64 l1, .int .i64 h1, .string t1, .slice x1 n1 n1], ev]) ∧ Kept (But rb) w w' ∧
    ((ev = .nilIface ∧ ∃ f q, o = some (f, q) ∧ Lies (Past w.heap.size) w' f o1 k1 l1 h1 t1 x1 n1 ∧ Rdr w' rb ws q e) ∨ (o = none ∧ ∃ m T v, ev = .iface T v ∧ Mis m (.iface T v))) := by
  cases o with
  | none =>
    obtain ⟨o, k, l, h, t, x, n, m, T, v, rfl, hm, hk⟩ := h
    exact ⟨o, k, l, h, t, x, n, _, rfl, hk, .inr ⟨rfl, m, T, v, rfl, hm⟩⟩
  | some y =>
    obtain ⟨f, q⟩ := y
    obtain ⟨o, k, l, h, t, x, n, rfl, hl, hr, hk⟩ := h
    exact ⟨o, k, l, h, t, x, n, _, rfl, hk, .inl ⟨rfl, f, q, rfl, hl, hr⟩⟩

theorem kept_six_at {P : Nat → Prop} {W : World} {b : Nat} (hb : ¬ P b) {u0 u1 u2 u3 u4 u5 : Value} : Kept P W ((((((W.setCell ⟨b, 0, none⟩ u0).setCell ⟨b, 1, none⟩ u1).setCell ⟨b, 2, none⟩ u2).setCell ⟨b, 3, none⟩ u3).setCell ⟨b, 4, none⟩ u4).setCell ⟨b, 5, none⟩ u5) := by
  have f : ∀ o : Nat, ∀ k, k < W.heap.size → P k → k ≠ (⟨b, o, none⟩ : Addr).block := fun o k _ hp he => hb ((show k = b from he) ▸ hp)
  exact ((((((Kept.refl P W).setCell (f 0) u0).setCell (f 1) u1).setCell (f 2) u2).setCell (f 3) u3).setCell (f 4) u4).setCell (f 5) u5

/-- The result's block, by what else may have turned. -/
theorem At.step' {w W W' : World} {rb : Nat} {P : Nat → Prop} (h : At w rb W) (h0 : P w.heap.size) (h1 : ∀ k, k < w.heap.size → k ≠ rb → P k) (k : Kept P W W') : At w rb W' :=
  ⟨fun o => (k.cell h.s h0).trans (h.z o), fun o => (k.frozen h.s h0).trans (h.f o), Nat.lt_of_lt_of_le h.s k.size, ⟨k.os.trans h.k.os, k.tape.trans h.k.tape, k.output.trans h.k.output, Nat.le_trans h.k.size k.size, fun i hi hp => (k.block i (Nat.lt_of_lt_of_le hi h.k.size) (h1 i hi hp)).trans (h.k.block i hi hp)⟩⟩

theorem frozen_six (W : World) (b : Nat) (a : Addr) (u0 u1 u2 u3 u4 u5 : Value) : ((((((W.setCell ⟨b, 0, none⟩ u0).setCell ⟨b, 1, none⟩ u1).setCell ⟨b, 2, none⟩ u2).setCell ⟨b, 3, none⟩ u3).setCell ⟨b, 4, none⟩ u4).setCell ⟨b, 5, none⟩ u5).frozen? a = W.frozen? a := by simp

theorem six_of_set (W : World) (b : Nat) (o k l h : Int) (t : ByteArray) (x : Option Addr) (n : Nat) {v0 v1 v2 v3 v4 v5 : Value} (h0 : W.cell? ⟨b, 0, none⟩ = some v0) (h1 : W.cell? ⟨b, 1, none⟩ = some v1) (h2 : W.cell? ⟨b, 2, none⟩ = some v2) (h3 : W.cell? ⟨b, 3, none⟩ = some v3) (h4 : W.cell? ⟨b, 4, none⟩ = some v4) (h5 : W.cell? ⟨b, 5, none⟩ = some v5) :
    Six ((((((W.setCell ⟨b, 0, none⟩ (.int .i64 o)).setCell ⟨b, 1, none⟩ (.int .i64 k)).setCell ⟨b, 2, none⟩ (.int .i64 l)).setCell ⟨b, 3, none⟩ (.int .i64 h)).setCell ⟨b, 4, none⟩ (.string t)).setCell ⟨b, 5, none⟩ (.slice x n n)) b 0 o k l h t x n := by
  refine ⟨?_, ?_, ?_, ?_, ?_, ?_⟩
  · rw [World.cell?_setCell_other _ _ _ _ (by simp), World.cell?_setCell_other _ _ _ _ (by simp), World.cell?_setCell_other _ _ _ _ (by simp), World.cell?_setCell_other _ _ _ _ (by simp), World.cell?_setCell_other _ _ _ _ (by simp)]; exact World.cell?_setCell_same W ⟨b, 0, none⟩ _ (u := v0) (by exact h0)
  · rw [World.cell?_setCell_other _ _ _ _ (by simp), World.cell?_setCell_other _ _ _ _ (by simp), World.cell?_setCell_other _ _ _ _ (by simp), World.cell?_setCell_other _ _ _ _ (by simp)]; exact World.cell?_setCell_same _ ⟨b, 1, none⟩ _ (u := v1) (by rw [World.cell?_setCell_other _ _ _ _ (by simp)]; exact h1)
  · rw [World.cell?_setCell_other _ _ _ _ (by simp), World.cell?_setCell_other _ _ _ _ (by simp), World.cell?_setCell_other _ _ _ _ (by simp)]; exact World.cell?_setCell_same _ ⟨b, 2, none⟩ _ (u := v2) (by rw [World.cell?_setCell_other _ _ _ _ (by simp), World.cell?_setCell_other _ _ _ _ (by simp)]; exact h2)
  · rw [World.cell?_setCell_other _ _ _ _ (by simp), World.cell?_setCell_other _ _ _ _ (by simp)]; exact World.cell?_setCell_same _ ⟨b, 3, none⟩ _ (u := v3) (by rw [World.cell?_setCell_other _ _ _ _ (by simp), World.cell?_setCell_other _ _ _ _ (by simp), World.cell?_setCell_other _ _ _ _ (by simp)]; exact h3)
  · rw [World.cell?_setCell_other _ _ _ _ (by simp)]; exact World.cell?_setCell_same _ ⟨b, 4, none⟩ _ (u := v4) (by rw [World.cell?_setCell_other _ _ _ _ (by simp), World.cell?_setCell_other _ _ _ _ (by simp), World.cell?_setCell_other _ _ _ _ (by simp), World.cell?_setCell_other _ _ _ _ (by simp)]; exact h4)
  · exact World.cell?_setCell_same _ ⟨b, 5, none⟩ _ (u := v5) (by rw [World.cell?_setCell_other _ _ _ _ (by simp), World.cell?_setCell_other _ _ _ _ (by simp), World.cell?_setCell_other _ _ _ _ (by simp), World.cell?_setCell_other _ _ _ _ (by simp), World.cell?_setCell_other _ _ _ _ (by simp)]; exact h5)

set_option maxHeartbeats 8000000 in
theorem row67_83 (rb : Nat) (ws : List Wd.Word) (p : Nat) (e : Int) (w : World) (hg : Ps.Goods ws) (h : Rdr w rb ws p e) (hp : p ≤ ws.length) (R : Option (Ps.Ft × Nat)) (hRn : Ps.P ws .not p = none → R = none) (hRs : ∀ f q, Ps.P ws .not p = some (f, q) → Ps.P ws (.andM f) q = R)
    (cp : ∀ q, p ≤ q → q ≤ ws.length → ∀ w, Rdr w rb ws q e → Calls Tryz.prog 83 #[.pointer (some ⟨rb, 0, none⟩)] w (PR rb ws e (Ps.P ws .not q) w)) :
    Calls Tryz.prog 67 #[.pointer (some ⟨rb, 0, none⟩), .int .i64 5, .string ⟨#[38]⟩, .func (.func 83) #[.pointer (some ⟨rb, 0, none⟩)] #[]] w (PR rb ws e R w) := by
  have hlt := h.lt
  have h0 : Rdr (w.alloc (.cells #[.int .i64 0, .int .i64 0, .int .i64 0, .int .i64 0, .string ⟨#[]⟩, .slice none 0 0] 53)) rb ws p e := h.alloc _
  have HA0 : Hid (At w rb (w.alloc (.cells #[.int .i64 0, .int .i64 0, .int .i64 0, .int .i64 0, .string ⟨#[]⟩, .slice none 0 0] 53))) := At.start w rb
  have c1 := cp p (Nat.le_refl _) hp _ h0
  have hsome := fun f q (hx : Ps.P ws .not p = some (f, q)) => Ps.P_some hg hx (s := p) rfl hp
  have start : ∀ (w1 : World) (r : Ending), PR rb ws e (Ps.P ws .not p) (w.alloc (.cells #[.int .i64 0, .int .i64 0, .int .i64 0, .int .i64 0, .string ⟨#[]⟩, .slice none 0 0] 53)) r w1 → ∃ o k l h t x n ev, r = .returned (.tuple #[.agg #[.int .i64 o, .int .i64 k, .int .i64 l, .int .i64 h, .string t, .slice x n n], ev]) ∧ RowI w rb w1.heap.size ws p e .andM R ev (w1.alloc (.cells #[.int .i64 o, .int .i64 k, .int .i64 l, .int .i64 h, .string t, .slice x n n] 53)) := by
    intro w1 r hr
    cases hx : Ps.P ws .not p with
    | none =>
      rw [hx] at hr
      have hR := hRn hx
      obtain ⟨o, k, l, h, t, x, n, m, T, v, rfl, hm, hk⟩ := hr
      have hat := HA0.out.step hlt hk
      exact ⟨o, k, l, h, t, x, n, _, rfl, hat.alloc _, hat.s, by simp, fun o => by simp, o, k, l, h, t, x, n, by unfold Six; simp, .inr ⟨hR, m, T, v, rfl, hm⟩⟩
    | some y =>
      obtain ⟨f, q⟩ := y
      rw [hx] at hr
      have hR := hRs f q hx
      obtain ⟨a1, a2, a3, a4⟩ := hsome f q hx
      obtain ⟨o, k, l, h, t, x, n, rfl, hl, hrd, hk⟩ := hr
      have hat := HA0.out.step hlt hk
      exact ⟨o, k, l, h, t, x, n, _, rfl, hat.alloc _, hat.s, by simp, fun o => by simp, o, k, l, h, t, x, n, by unfold Six; simp, .inl ⟨rfl, f, q, a1, a3, a4, hR, hrd.alloc _, Lies.kept ((Kept.refl _ w1).alloc _) f (Lies.mono (fun b hb hpb => ⟨by unfold Past at hpb; simp at hpb; omega, by omega⟩) f hl)⟩⟩
  have HST : Hid (∀ (w1 : World) (r : Ending), PR rb ws e (Ps.P ws .not p) (w.alloc (.cells #[.int .i64 0, .int .i64 0, .int .i64 0, .int .i64 0, .string ⟨#[]⟩, .slice none 0 0] 53)) r w1 → ∃ o k l h t x n ev, r = .returned (.tuple #[.agg #[.int .i64 o, .int .i64 k, .int .i64 l, .int .i64 h, .string t, .slice x n n], ev]) ∧ RowI w rb w1.heap.size ws p e .andM R ev (w1.alloc (.cells #[.int .i64 o, .int .i64 k, .int .i64 l, .int .i64 h, .string t, .slice x n n] 53))) := start
  have HCP : Hid (∀ q, p ≤ q → q ≤ ws.length → ∀ w, Rdr w rb ws q e → Calls Tryz.prog 83 #[.pointer (some ⟨rb, 0, none⟩)] w (PR rb ws e (Ps.P ws .not q) w)) := cp
  clear start hsome hRn hRs cp h0 HA0 h
  go_enter Tryz.func67, Tryz.ntmps67
  go_wp2_with fail
  refine c1.mono ?_
  intro r w1 hr
  obtain ⟨o1, k1, l1, h1, t1, x1, n1, ev, rfl, hI⟩ := HST.out w1 r hr
  clear c1 hr HST
  obtain ⟨W, hW⟩ : ∃ W, W = w1.alloc (.cells #[.int .i64 o1, .int .i64 k1, .int .i64 l1, .int .i64 h1, .string t1, .slice x1 n1 n1] 53) := ⟨_, rfl⟩
  obtain ⟨fb, hfb⟩ : ∃ fb, fb = w1.heap.size := ⟨_, rfl⟩
  have HW : Hid (W = w1.alloc (.cells #[.int .i64 o1, .int .i64 k1, .int .i64 l1, .int .i64 h1, .string t1, .slice x1 n1 n1] 53)) := hW
  have HI : Hid (RowI w rb fb ws p e .andM R ev W) := by rw [hW, hfb]; exact hI
  have HFB : Hid (fb = w1.heap.size) := hfb
  clear hW hI hfb
  go_wp2_with fail
  rw [← HW.out, ← HFB.out]
  clear HW HFB
  go_loopw [11] (fun ev wr => RowI w rb fb ws p e .andM R ev wr) (fun ev wr => rowM rb ev wr)
  case atStart => exact HI.out
  case round =>
    obtain ⟨hat, hlo, hhi, hfz, o, k, l, h, t, x, n, six, hcase⟩ := hrel
    clear HI
    have hrb : rb < w.heap.size := hlt
    rcases hcase with ⟨rfl, f, q, hwf, hq, hpq, hP, hrd, hl⟩ | ⟨rfl, m, T, v, rfl, hm⟩
    · have HC : Hid (_ ∧ _ ∧ _ ∧ _ ∧ _ ∧ _ ∧ _) := ⟨hat, hwf, hq, hP, hl, six, hrd⟩
      by_cases hmk : Ps.isMark ws q 38 = true
      · clear hat hwf hq hP hl six
        have c2 := has82 rb ws q e 38 ⟨#[38]⟩ rfl wr hrd
        rw [isM_eq, hmk] at c2
        simp only [if_true] at c2
        have HFZ : Hid _ := hfz
        clear hrd hfz
        go_wp2_with fail
        refine c2.mono ?_
        rintro r wa ⟨rfl, hra, hka⟩
        clear c2
        have hq1 : q + 1 ≤ ws.length := Ps.isMark_lt hmk
        have cn := HCP.out (q + 1) (by omega) hq1 (wa.alloc (.cells #[.int .i64 0, .int .i64 0, .int .i64 0, .int .i64 0, .string ⟨#[]⟩, .slice none 0 0] 53)) (hra.alloc _)
        obtain ⟨nb, hnb⟩ : ∃ nb, nb = wa.heap.size := ⟨_, rfl⟩
        have hHA : At w rb (wa.alloc (.cells #[.int .i64 0, .int .i64 0, .int .i64 0, .int .i64 0, .string ⟨#[]⟩, .slice none 0 0] 53)) := (HC.out.1.step hlt hka).alloc _
        have six1 : Six (wa.alloc (.cells #[.int .i64 0, .int .i64 0, .int .i64 0, .int .i64 0, .string ⟨#[]⟩, .slice none 0 0] 53)) fb 0 o k l h t x n := HC.out.2.2.2.2.2.1.kept (P := But rb) (by unfold But; omega) (hka.alloc _)
        have hL1 : Lies (fun b => w.heap.size < b ∧ b ≠ fb ∧ b ≠ wa.heap.size) wa f o k l h t x n := Lies.mono (fun b hb hpb => ⟨hpb.1, hpb.2, by omega⟩) f (Lies.kept (hka.mono (fun b _ hb => by unfold Pf at hb; unfold But; omega)) f HC.out.2.2.2.2.1)
        have hfz1 : ∀ i, (wa.alloc (.cells #[.int .i64 0, .int .i64 0, .int .i64 0, .int .i64 0, .string ⟨#[]⟩, .slice none 0 0] 53)).frozen? ⟨fb, i, none⟩ = false := fun i => ((hka.alloc _).frozen hhi (by unfold But; omega)).trans (HFZ.out i)
        have sfa : fb < wa.heap.size := Nat.lt_of_lt_of_le hhi hka.size
        have hlw : leftOf wr rb = ws.length - q := leftOf_eq HC.out.2.2.2.2.2.2
        have HQ : Hid (_ ∧ _ ∧ _ ∧ _) := ⟨HC.out.2.1, HC.out.2.2.2.1, hlw, hmk⟩
        have HH : Hid (_ ∧ _ ∧ _ ∧ _) := ⟨hHA, six1, hL1, hfz1⟩
        clear hra hka HC HFZ hHA six1 hL1 hfz1 hlw hmk
        go_wp2_with fail
        refine cn.mono ?_
        intro r wc hr
        obtain ⟨o2, k2, l2, h2, t2, x2, n2, ev2, rfl, hk2, hcs⟩ := pr_cases hr
        have HCS : Hid _ := hcs
        have sac : wa.heap.size < wc.heap.size := by have := hk2.size; simp at this; omega
        have z0 : ∀ i, wc.cell? ⟨wa.heap.size, i, none⟩ = (#[.int .i64 0, .int .i64 0, .int .i64 0, .int .i64 0, .string ⟨#[]⟩, .slice none 0 0] : Array Value)[i]? := fun i => by rw [hk2.cell (by simp) (by unfold But; omega)]; simp
        have y0 : wc.cell? ⟨wa.heap.size, 0, none⟩ = some (.int .i64 0) := z0 0
        have y1 : wc.cell? ⟨wa.heap.size, 1, none⟩ = some (.int .i64 0) := z0 1
        have y2 : wc.cell? ⟨wa.heap.size, 2, none⟩ = some (.int .i64 0) := z0 2
        have y3 : wc.cell? ⟨wa.heap.size, 3, none⟩ = some (.int .i64 0) := z0 3
        have y4 : wc.cell? ⟨wa.heap.size, 4, none⟩ = some (.string ⟨#[]⟩) := z0 4
        have y5 : wc.cell? ⟨wa.heap.size, 5, none⟩ = some (.slice none 0 0) := z0 5
        have yf : ∀ i, wc.frozen? ⟨wa.heap.size, i, none⟩ = false := fun i => by rw [hk2.frozen (by simp) (by unfold But; omega)]; simp
        have HK2 : Hid (Kept (But rb) (wa.alloc (.cells #[.int .i64 0, .int .i64 0, .int .i64 0, .int .i64 0, .string ⟨#[]⟩, .slice none 0 0] 53)) wc) := hk2
        clear z0 cn hr hcs hk2
        obtain ⟨X, hX⟩ : ∃ X, X = (((((wc.setCell ⟨wa.heap.size, 0, none⟩ (.int .i64 o2)).setCell ⟨wa.heap.size, 1, none⟩ (.int .i64 k2)).setCell ⟨wa.heap.size, 2, none⟩ (.int .i64 l2)).setCell ⟨wa.heap.size, 3, none⟩ (.int .i64 h2)).setCell ⟨wa.heap.size, 4, none⟩ (.string t2)).setCell ⟨wa.heap.size, 5, none⟩ (.slice x2 n2 n2) := ⟨_, rfl⟩
        have HX : Hid (X = _) := hX
        simp only []
        iterate 12 (first | go_skip | go_guarded | go_step | go_upon | go_simp)
        rw [← HX.out]
        have sixn : Six X wa.heap.size 0 o2 k2 l2 h2 t2 x2 n2 := by rw [hX]; exact six_of_set wc wa.heap.size o2 k2 l2 h2 t2 x2 n2 y0 y1 y2 y3 y4 y5
        have kX : Kept (fun b => b ≠ wa.heap.size) wc X := by rw [hX]; exact kept_six_at (fun h => h rfl)
        have sX : X.heap.size = wc.heap.size := by rw [hX]; simp
        have six2 : Six X fb 0 o k l h t x n := (HH.out.2.1.kept (P := But rb) (by unfold But; omega) HK2.out).kept (P := fun b => b ≠ wa.heap.size) (by show fb ≠ wa.heap.size; omega) kX
        have fX : ∀ i, X.frozen? ⟨fb, i, none⟩ = false := fun i => (kX.frozen (by omega) (by show fb ≠ wa.heap.size; omega)).trans ((HK2.out.frozen (by simp; omega) (by unfold But; omega)).trans (HH.out.2.2.2 i))
        have HXX : Hid (Kept (fun b => b ≠ wa.heap.size) wc X ∧ X.heap.size = wc.heap.size ∧ Six X fb 0 o k l h t x n ∧ Six X wa.heap.size 0 o2 k2 l2 h2 t2 x2 n2 ∧ ∀ i, X.frozen? ⟨fb, i, none⟩ = false) := ⟨kX, sX, six2, sixn, fX⟩
        obtain ⟨p0, p1, p2, p3, p4, p5⟩ := six2
        obtain ⟨q0, q1, q2, q3, q4, q5⟩ := sixn
        simp only [Nat.zero_add] at p0 p1 p2 p3 p4 p5 q0 q1 q2 q3 q4 q5
        have sXa : wa.heap.size < X.heap.size := by omega
        have sXf : fb < X.heap.size := by omega
        clear kX sX fX hX HX y0 y1 y2 y3 y4 y5 yf
        obtain ⟨V, hV⟩ : ∃ V, V = X.alloc (.cells #[.int .i64 o, .int .i64 k, .int .i64 l, .int .i64 h, .string t, .slice x n n, .int .i64 o2, .int .i64 k2, .int .i64 l2, .int .i64 h2, .string t2, .slice x2 n2 n2] 53) := ⟨_, rfl⟩
        have HV : Hid (V = _) := hV
        iterate 20 (first | go_skip | go_guarded | go_step | go_upon | go_simp)
        rw [← HV.out]
        have kV : Kept Any X V := by rw [hV]; exact (Kept.refl _ X).alloc _
        have sixv : Six V X.heap.size 0 o k l h t x n := by rw [hV]; unfold Six; simp
        have sixw : Six V X.heap.size 6 o2 k2 l2 h2 t2 x2 n2 := by rw [hV]; unfold Six; simp
        have sV : X.heap.size < V.heap.size := by rw [hV]; simp
        have six3 : Six V fb 0 o k l h t x n := HXX.out.2.2.1.kept (P := Any) trivial kV
        have fV : ∀ i, V.frozen? ⟨fb, i, none⟩ = false := fun i => (kV.frozen sXf trivial).trans (HXX.out.2.2.2.2 i)
        have HVV : Hid (Kept Any X V ∧ Six V X.heap.size 0 o k l h t x n ∧ Six V X.heap.size 6 o2 k2 l2 h2 t2 x2 n2 ∧ Six V fb 0 o k l h t x n) := ⟨kV, sixv, sixw, six3⟩
        clear p0 p1 p2 p3 p4 p5 q0 q1 q2 q3 q4 q5 hV HV kV sixv sixw
        obtain ⟨p0, p1, p2, p3, p4, p5⟩ := six3
        simp only [Nat.zero_add] at p0 p1 p2 p3 p4 p5
        have sVf : fb < V.heap.size := by omega
        obtain ⟨Y, hY⟩ : ∃ Y, Y = (((((V.setCell ⟨fb, 0, none⟩ (.int .i64 5)).setCell ⟨fb, 1, none⟩ (.int .i64 0)).setCell ⟨fb, 2, none⟩ (.int .i64 0)).setCell ⟨fb, 3, none⟩ (.int .i64 0)).setCell ⟨fb, 4, none⟩ (.string ⟨#[]⟩)).setCell ⟨fb, 5, none⟩ (.slice (some ⟨X.heap.size, 0, none⟩) 2 2) := ⟨_, rfl⟩
        have HY : Hid (Y = _) := hY
        go_wp2_with fail
        rw [← HY.out]
        have sixy : Six Y fb 0 5 0 0 0 ⟨#[]⟩ (some ⟨X.heap.size, 0, none⟩) 2 := by rw [hY]; exact six_of_set V fb _ _ _ _ _ _ _ p0 p1 p2 p3 p4 p5
        have kY : Kept (fun b => b ≠ fb) V Y := by rw [hY]; exact kept_six_at (fun h => h rfl)
        have sY : Y.heap.size = V.heap.size := by rw [hY]; simp
        have fY : ∀ i, Y.frozen? ⟨fb, i, none⟩ = false := fun i => by rw [hY, frozen_six]; exact fV i
        have kcY : Kept (fun b => b ≠ fb ∧ b ≠ wa.heap.size) wc Y := (HXX.out.1.mono (fun b _ hb => hb.2)).trans ((HVV.out.1.mono (fun _ _ _ => trivial)).trans (kY.mono (fun b _ hb => hb.1)))
        have hatY : At w rb Y := (HH.out.1.step hlt HK2.out).step' (P := fun b => b ≠ fb ∧ b ≠ wa.heap.size) (by constructor <;> omega) (fun b hb _ => by constructor <;> omega) kcY
        have HYY : Hid (At w rb Y ∧ Six Y fb 0 5 0 0 0 ⟨#[]⟩ (some ⟨X.heap.size, 0, none⟩) 2 ∧ fb < Y.heap.size ∧ (∀ i, Y.frozen? ⟨fb, i, none⟩ = false) ∧ Kept (fun b => b ≠ fb ∧ b ≠ wa.heap.size) wc Y ∧ Kept (fun b => b ≠ fb) V Y) := ⟨hatY, sixy, by omega, fY, kcY, kY⟩
        clear hY HY p0 p1 p2 p3 p4 p5 sixy kY fY fV kcY hatY
        rcases HCS.out with ⟨rfl, g, q', hPg, hlg, hrg⟩ | ⟨hPn, m, T, v, rfl, hm⟩
        · refine (within_none _ _).mono ?_
          rintro r w9 ⟨rfl, rfl⟩
          obtain ⟨b1, b2, b3, b4⟩ := Ps.P_some hg hPg (s := q + 1) rfl hq1
          have HG : Hid (RowI w rb fb ws p e .andM R .nilIface w9 ∧ rowM rb .nilIface w9 < rowM rb .nilIface wr) := by
            have hrY : Rdr w9 rb ws q' e := hrg.below (HYY.out.2.2.2.2.1.below (by omega) (fun b hb => by constructor <;> omega))
            refine ⟨⟨HYY.out.1, hlo, HYY.out.2.2.1, HYY.out.2.2.2.1, _, _, _, _, _, _, _, HYY.out.2.1, .inl ⟨rfl, .two 5 f g, q', ⟨by decide, HQ.out.1, b1⟩, b3, by omega, ?_, hrY, ?_⟩⟩, ?_⟩
            · rw [← HQ.out.2.1]; exact (Ps.P_andM_yes hg f g q q' HQ.out.1 HQ.out.2.2.2 hPg).symm
            · have lf : Lies (fun b => w.heap.size < b ∧ b ≠ fb ∧ b ≠ wa.heap.size) wc f o k l h t x n := Lies.kept ((((Kept.refl _ wa).alloc _).trans (HK2.out.mono (fun b _ hb => by unfold But; omega)))) f HH.out.2.2.1
              have lg : Lies (fun b => w.heap.size < b ∧ b ≠ fb ∧ b ≠ wa.heap.size) wc g o2 k2 l2 h2 t2 x2 n2 := Lies.mono (fun b _ hb => by unfold Past at hb; simp at hb; refine ⟨?_, ?_, ?_⟩ <;> omega) g hlg
              have k9 : Kept (fun b => w.heap.size < b ∧ b ≠ fb ∧ b ≠ wa.heap.size) wc w9 := HYY.out.2.2.2.2.1.mono (fun b _ hb => hb.2)
              exact ⟨rfl, rfl, rfl, rfl, rfl, X.heap.size, o, k, l, h, t, x, n, o2, k2, l2, h2, t2, x2, n2, rfl, rfl, by unfold Pf; omega, HVV.out.2.1.kept (P := fun b => b ≠ fb) (by show X.heap.size ≠ fb; omega) HYY.out.2.2.2.2.2, Lies.mono (fun b _ hb => ⟨hb.1, hb.2.1⟩) f (Lies.kept k9 f lf), HVV.out.2.2.1.kept (P := fun b => b ≠ fb) (by show X.heap.size ≠ fb; omega) HYY.out.2.2.2.2.2, Lies.mono (fun b _ hb => ⟨hb.1, hb.2.1⟩) g (Lies.kept k9 g lg)⟩
            · show leftOf w9 rb + 1 < leftOf wr rb + 1
              rw [leftOf_eq hrY, HQ.out.2.2.1]; omega
          clear HQ HH HVV HYY HXX HK2 HCS hlg hrg hPg
          go_wp2
          go_roundw
          case rel => exact HG.out.1
          case measure => exact HG.out.2
        · refine (within_one _ _ _ _).mono ?_
          rintro r w9 ⟨rfl, rfl⟩
          have HG : Hid (RowI w rb fb ws p e .andM R (.iface 124 (.agg #[.string ⟨#[38]⟩, .iface T v])) w9 ∧ rowM rb (.iface 124 (.agg #[.string ⟨#[38]⟩, .iface T v])) w9 < rowM rb .nilIface wr) := by
            refine ⟨⟨HYY.out.1, hlo, HYY.out.2.2.1, HYY.out.2.2.2.1, _, _, _, _, _, _, _, HYY.out.2.1, .inr ⟨?_, _, _, _, rfl, hm.one _⟩⟩, ?_⟩
            · rw [← HQ.out.2.1]; exact Ps.P_andM_bad hg f q HQ.out.2.2.2 hPn
            · show 0 < leftOf wr rb + 1
              omega
          clear HQ HH HVV HYY HXX HK2 HCS hPn hm
          go_wp2
          go_roundw
          case rel => exact HG.out.1
          case measure => exact HG.out.2
      · have hmk' : Ps.isMark ws q 38 = false := by simpa using hmk
        have hRy : R = some (f, q) := by rw [← hP]; exact Ps.P_andM_no f q hmk'
        have HY : Hid (R = some (f, q)) := hRy
        have c2 := has82 rb ws q e 38 ⟨#[38]⟩ rfl wr hrd
        rw [isM_eq, hmk'] at c2
        simp only [Bool.false_eq_true, if_false] at c2
        clear hrd hP hmk hmk' hRy hat hl six hfz
        go_wp2_with fail
        refine c2.mono ?_
        rintro r wa ⟨rfl, hra, hka⟩
        clear c2
        have HA : Hid (At w rb wa) := HC.out.1.step hlt hka
        have sixa := HC.out.2.2.2.2.2.1.kept (P := But rb) (by unfold But; omega) hka
        have HL : Hid (Lies (Pf w fb) wa f o k l h t x n) := Lies.kept (hka.mono (fun b _ hb => by unfold Pf at hb; unfold But; omega)) f HC.out.2.2.2.2.1
        have HR : Hid (Rdr wa rb ws q e) := hra
        obtain ⟨y0, y1, y2, y3, y4, y5⟩ := sixa
        simp only [Nat.zero_add] at y0 y1 y2 y3 y4 y5
        have ne1 : w.heap.size ≠ fb := by omega
        have ne2 : fb ≠ w.heap.size := by omega
        have z1 := HA.out.z
        have f1 := HA.out.f
        have s1 := HA.out.s
        clear hka hra HC
        go_wp2
        refine bodyPost_ret (v := .tuple #[.agg #[.int .i64 o, .int .i64 k, .int .i64 l, .int .i64 h, .string t, .slice x n n], .nilIface]) (by simp [results, Tryz.results67, go_sem, z1]) rfl ?_
        rw [HY.out]
        exact pr_yes (Lies.mono (P := Pf w fb) (fun b _ hb => by unfold Past; unfold Pf at hb; omega) f (Lies.kept (kept_six_at (by unfold Pf; omega)) f HL.out)) (HR.out.below (below_six hlt)) (kept_six HA.out.k)
    · have z1 := hat.z
      have f1 := hat.f
      have s1 := hat.s
      have HA : Hid (At w rb wr) := hat
      have HM : Hid (Mis m (.iface T v)) := hm
      obtain ⟨y0, y1, y2, y3, y4, y5⟩ := six
      simp only [Nat.zero_add] at y0 y1 y2 y3 y4 y5
      have ne1 : w.heap.size ≠ fb := by omega
      have ne2 : fb ≠ w.heap.size := by omega
      clear hat hm
      go_wp2
      refine bodyPost_ret (v := .tuple #[.agg #[.int .i64 o, .int .i64 k, .int .i64 l, .int .i64 h, .string t, .slice x n n], .iface T v]) (by simp [results, Tryz.results67, go_sem, z1]) rfl ?_
      exact pr_no HM.out (kept_six HA.out.k)

end Go.Proofs.YtdeojcodbojmoaaGreatDoor
namespace Go.Proofs.YtdeojcodbojmoaaGreatDoor
open Go.RowKit
set_option maxRecDepth 100000
set_option linter.unusedVariables false

set_option maxHeartbeats 8000000 in
theorem row67_68 (rb : Nat) (ws : List Wd.Word) (p : Nat) (e : Int) (w : World) (hg : Ps.Goods ws) (h : Rdr w rb ws p e) (hp : p ≤ ws.length) (R : Option (Ps.Ft × Nat)) (hRn : Ps.P ws .and p = none → R = none) (hRs : ∀ f q, Ps.P ws .and p = some (f, q) → Ps.P ws (.orM f) q = R)
    (cp : ∀ q, p ≤ q → q ≤ ws.length → ∀ w, Rdr w rb ws q e → Calls Tryz.prog 68 #[.pointer (some ⟨rb, 0, none⟩)] w (PR rb ws e (Ps.P ws .and q) w)) :
    Calls Tryz.prog 67 #[.pointer (some ⟨rb, 0, none⟩), .int .i64 6, .string ⟨#[124]⟩, .func (.func 68) #[.pointer (some ⟨rb, 0, none⟩)] #[]] w (PR rb ws e R w) := by
  have hlt := h.lt
  have h0 : Rdr (w.alloc (.cells #[.int .i64 0, .int .i64 0, .int .i64 0, .int .i64 0, .string ⟨#[]⟩, .slice none 0 0] 53)) rb ws p e := h.alloc _
  have HA0 : Hid (At w rb (w.alloc (.cells #[.int .i64 0, .int .i64 0, .int .i64 0, .int .i64 0, .string ⟨#[]⟩, .slice none 0 0] 53))) := At.start w rb
  have c1 := cp p (Nat.le_refl _) hp _ h0
  have hsome := fun f q (hx : Ps.P ws .and p = some (f, q)) => Ps.P_some hg hx (s := p) rfl hp
  have start : ∀ (w1 : World) (r : Ending), PR rb ws e (Ps.P ws .and p) (w.alloc (.cells #[.int .i64 0, .int .i64 0, .int .i64 0, .int .i64 0, .string ⟨#[]⟩, .slice none 0 0] 53)) r w1 → ∃ o k l h t x n ev, r = .returned (.tuple #[.agg #[.int .i64 o, .int .i64 k, .int .i64 l, .int .i64 h, .string t, .slice x n n], ev]) ∧ RowI w rb w1.heap.size ws p e .orM R ev (w1.alloc (.cells #[.int .i64 o, .int .i64 k, .int .i64 l, .int .i64 h, .string t, .slice x n n] 53)) := by
    intro w1 r hr
    cases hx : Ps.P ws .and p with
    | none =>
      rw [hx] at hr
      have hR := hRn hx
      obtain ⟨o, k, l, h, t, x, n, m, T, v, rfl, hm, hk⟩ := hr
      have hat := HA0.out.step hlt hk
      exact ⟨o, k, l, h, t, x, n, _, rfl, hat.alloc _, hat.s, by simp, fun o => by simp, o, k, l, h, t, x, n, by unfold Six; simp, .inr ⟨hR, m, T, v, rfl, hm⟩⟩
    | some y =>
      obtain ⟨f, q⟩ := y
      rw [hx] at hr
      have hR := hRs f q hx
      obtain ⟨a1, a2, a3, a4⟩ := hsome f q hx
      obtain ⟨o, k, l, h, t, x, n, rfl, hl, hrd, hk⟩ := hr
      have hat := HA0.out.step hlt hk
      exact ⟨o, k, l, h, t, x, n, _, rfl, hat.alloc _, hat.s, by simp, fun o => by simp, o, k, l, h, t, x, n, by unfold Six; simp, .inl ⟨rfl, f, q, a1, a3, a4, hR, hrd.alloc _, Lies.kept ((Kept.refl _ w1).alloc _) f (Lies.mono (fun b hb hpb => ⟨by unfold Past at hpb; simp at hpb; omega, by omega⟩) f hl)⟩⟩
  have HST : Hid (∀ (w1 : World) (r : Ending), PR rb ws e (Ps.P ws .and p) (w.alloc (.cells #[.int .i64 0, .int .i64 0, .int .i64 0, .int .i64 0, .string ⟨#[]⟩, .slice none 0 0] 53)) r w1 → ∃ o k l h t x n ev, r = .returned (.tuple #[.agg #[.int .i64 o, .int .i64 k, .int .i64 l, .int .i64 h, .string t, .slice x n n], ev]) ∧ RowI w rb w1.heap.size ws p e .orM R ev (w1.alloc (.cells #[.int .i64 o, .int .i64 k, .int .i64 l, .int .i64 h, .string t, .slice x n n] 53))) := start
  have HCP : Hid (∀ q, p ≤ q → q ≤ ws.length → ∀ w, Rdr w rb ws q e → Calls Tryz.prog 68 #[.pointer (some ⟨rb, 0, none⟩)] w (PR rb ws e (Ps.P ws .and q) w)) := cp
  clear start hsome hRn hRs cp h0 HA0 h
  go_enter Tryz.func67, Tryz.ntmps67
  go_wp2_with fail
  refine c1.mono ?_
  intro r w1 hr
  obtain ⟨o1, k1, l1, h1, t1, x1, n1, ev, rfl, hI⟩ := HST.out w1 r hr
  clear c1 hr HST
  obtain ⟨W, hW⟩ : ∃ W, W = w1.alloc (.cells #[.int .i64 o1, .int .i64 k1, .int .i64 l1, .int .i64 h1, .string t1, .slice x1 n1 n1] 53) := ⟨_, rfl⟩
  obtain ⟨fb, hfb⟩ : ∃ fb, fb = w1.heap.size := ⟨_, rfl⟩
  have HW : Hid (W = w1.alloc (.cells #[.int .i64 o1, .int .i64 k1, .int .i64 l1, .int .i64 h1, .string t1, .slice x1 n1 n1] 53)) := hW
  have HI : Hid (RowI w rb fb ws p e .orM R ev W) := by rw [hW, hfb]; exact hI
  have HFB : Hid (fb = w1.heap.size) := hfb
  clear hW hI hfb
  go_wp2_with fail
  rw [← HW.out, ← HFB.out]
  clear HW HFB
  go_loopw [11] (fun ev wr => RowI w rb fb ws p e .orM R ev wr) (fun ev wr => rowM rb ev wr)
  case atStart => exact HI.out
  case round =>
    obtain ⟨hat, hlo, hhi, hfz, o, k, l, h, t, x, n, six, hcase⟩ := hrel
    clear HI
    have hrb : rb < w.heap.size := hlt
    rcases hcase with ⟨rfl, f, q, hwf, hq, hpq, hP, hrd, hl⟩ | ⟨rfl, m, T, v, rfl, hm⟩
    · have HC : Hid (_ ∧ _ ∧ _ ∧ _ ∧ _ ∧ _ ∧ _) := ⟨hat, hwf, hq, hP, hl, six, hrd⟩
      by_cases hmk : Ps.isMark ws q 124 = true
      · clear hat hwf hq hP hl six
        have c2 := has82 rb ws q e 124 ⟨#[124]⟩ rfl wr hrd
        rw [isM_eq, hmk] at c2
        simp only [if_true] at c2
        have HFZ : Hid _ := hfz
        clear hrd hfz
        go_wp2_with fail
        refine c2.mono ?_
        rintro r wa ⟨rfl, hra, hka⟩
        clear c2
        have hq1 : q + 1 ≤ ws.length := Ps.isMark_lt hmk
        have cn := HCP.out (q + 1) (by omega) hq1 (wa.alloc (.cells #[.int .i64 0, .int .i64 0, .int .i64 0, .int .i64 0, .string ⟨#[]⟩, .slice none 0 0] 53)) (hra.alloc _)
        obtain ⟨nb, hnb⟩ : ∃ nb, nb = wa.heap.size := ⟨_, rfl⟩
        have hHA : At w rb (wa.alloc (.cells #[.int .i64 0, .int .i64 0, .int .i64 0, .int .i64 0, .string ⟨#[]⟩, .slice none 0 0] 53)) := (HC.out.1.step hlt hka).alloc _
        have six1 : Six (wa.alloc (.cells #[.int .i64 0, .int .i64 0, .int .i64 0, .int .i64 0, .string ⟨#[]⟩, .slice none 0 0] 53)) fb 0 o k l h t x n := HC.out.2.2.2.2.2.1.kept (P := But rb) (by unfold But; omega) (hka.alloc _)
        have hL1 : Lies (fun b => w.heap.size < b ∧ b ≠ fb ∧ b ≠ wa.heap.size) wa f o k l h t x n := Lies.mono (fun b hb hpb => ⟨hpb.1, hpb.2, by omega⟩) f (Lies.kept (hka.mono (fun b _ hb => by unfold Pf at hb; unfold But; omega)) f HC.out.2.2.2.2.1)
        have hfz1 : ∀ i, (wa.alloc (.cells #[.int .i64 0, .int .i64 0, .int .i64 0, .int .i64 0, .string ⟨#[]⟩, .slice none 0 0] 53)).frozen? ⟨fb, i, none⟩ = false := fun i => ((hka.alloc _).frozen hhi (by unfold But; omega)).trans (HFZ.out i)
        have sfa : fb < wa.heap.size := Nat.lt_of_lt_of_le hhi hka.size
        have hlw : leftOf wr rb = ws.length - q := leftOf_eq HC.out.2.2.2.2.2.2
        have HQ : Hid (_ ∧ _ ∧ _ ∧ _) := ⟨HC.out.2.1, HC.out.2.2.2.1, hlw, hmk⟩
        have HH : Hid (_ ∧ _ ∧ _ ∧ _) := ⟨hHA, six1, hL1, hfz1⟩
        clear hra hka HC HFZ hHA six1 hL1 hfz1 hlw hmk
        go_wp2_with fail
        refine cn.mono ?_
        intro r wc hr
        obtain ⟨o2, k2, l2, h2, t2, x2, n2, ev2, rfl, hk2, hcs⟩ := pr_cases hr
        have HCS : Hid _ := hcs
        have sac : wa.heap.size < wc.heap.size := by have := hk2.size; simp at this; omega
        have z0 : ∀ i, wc.cell? ⟨wa.heap.size, i, none⟩ = (#[.int .i64 0, .int .i64 0, .int .i64 0, .int .i64 0, .string ⟨#[]⟩, .slice none 0 0] : Array Value)[i]? := fun i => by rw [hk2.cell (by simp) (by unfold But; omega)]; simp
        have y0 : wc.cell? ⟨wa.heap.size, 0, none⟩ = some (.int .i64 0) := z0 0
        have y1 : wc.cell? ⟨wa.heap.size, 1, none⟩ = some (.int .i64 0) := z0 1
        have y2 : wc.cell? ⟨wa.heap.size, 2, none⟩ = some (.int .i64 0) := z0 2
        have y3 : wc.cell? ⟨wa.heap.size, 3, none⟩ = some (.int .i64 0) := z0 3
        have y4 : wc.cell? ⟨wa.heap.size, 4, none⟩ = some (.string ⟨#[]⟩) := z0 4
        have y5 : wc.cell? ⟨wa.heap.size, 5, none⟩ = some (.slice none 0 0) := z0 5
        have yf : ∀ i, wc.frozen? ⟨wa.heap.size, i, none⟩ = false := fun i => by rw [hk2.frozen (by simp) (by unfold But; omega)]; simp
        have HK2 : Hid (Kept (But rb) (wa.alloc (.cells #[.int .i64 0, .int .i64 0, .int .i64 0, .int .i64 0, .string ⟨#[]⟩, .slice none 0 0] 53)) wc) := hk2
        clear z0 cn hr hcs hk2
        obtain ⟨X, hX⟩ : ∃ X, X = (((((wc.setCell ⟨wa.heap.size, 0, none⟩ (.int .i64 o2)).setCell ⟨wa.heap.size, 1, none⟩ (.int .i64 k2)).setCell ⟨wa.heap.size, 2, none⟩ (.int .i64 l2)).setCell ⟨wa.heap.size, 3, none⟩ (.int .i64 h2)).setCell ⟨wa.heap.size, 4, none⟩ (.string t2)).setCell ⟨wa.heap.size, 5, none⟩ (.slice x2 n2 n2) := ⟨_, rfl⟩
        have HX : Hid (X = _) := hX
        simp only []
        iterate 12 (first | go_skip | go_guarded | go_step | go_upon | go_simp)
        rw [← HX.out]
        have sixn : Six X wa.heap.size 0 o2 k2 l2 h2 t2 x2 n2 := by rw [hX]; exact six_of_set wc wa.heap.size o2 k2 l2 h2 t2 x2 n2 y0 y1 y2 y3 y4 y5
        have kX : Kept (fun b => b ≠ wa.heap.size) wc X := by rw [hX]; exact kept_six_at (fun h => h rfl)
        have sX : X.heap.size = wc.heap.size := by rw [hX]; simp
        have six2 : Six X fb 0 o k l h t x n := (HH.out.2.1.kept (P := But rb) (by unfold But; omega) HK2.out).kept (P := fun b => b ≠ wa.heap.size) (by show fb ≠ wa.heap.size; omega) kX
        have fX : ∀ i, X.frozen? ⟨fb, i, none⟩ = false := fun i => (kX.frozen (by omega) (by show fb ≠ wa.heap.size; omega)).trans ((HK2.out.frozen (by simp; omega) (by unfold But; omega)).trans (HH.out.2.2.2 i))
        have HXX : Hid (Kept (fun b => b ≠ wa.heap.size) wc X ∧ X.heap.size = wc.heap.size ∧ Six X fb 0 o k l h t x n ∧ Six X wa.heap.size 0 o2 k2 l2 h2 t2 x2 n2 ∧ ∀ i, X.frozen? ⟨fb, i, none⟩ = false) := ⟨kX, sX, six2, sixn, fX⟩
        obtain ⟨p0, p1, p2, p3, p4, p5⟩ := six2
        obtain ⟨q0, q1, q2, q3, q4, q5⟩ := sixn
        simp only [Nat.zero_add] at p0 p1 p2 p3 p4 p5 q0 q1 q2 q3 q4 q5
        have sXa : wa.heap.size < X.heap.size := by omega
        have sXf : fb < X.heap.size := by omega
        clear kX sX fX hX HX y0 y1 y2 y3 y4 y5 yf
        obtain ⟨V, hV⟩ : ∃ V, V = X.alloc (.cells #[.int .i64 o, .int .i64 k, .int .i64 l, .int .i64 h, .string t, .slice x n n, .int .i64 o2, .int .i64 k2, .int .i64 l2, .int .i64 h2, .string t2, .slice x2 n2 n2] 53) := ⟨_, rfl⟩
        have HV : Hid (V = _) := hV
        iterate 20 (first | go_skip | go_guarded | go_step | go_upon | go_simp)
        rw [← HV.out]
        have kV : Kept Any X V := by rw [hV]; exact (Kept.refl _ X).alloc _
        have sixv : Six V X.heap.size 0 o k l h t x n := by rw [hV]; unfold Six; simp
        have sixw : Six V X.heap.size 6 o2 k2 l2 h2 t2 x2 n2 := by rw [hV]; unfold Six; simp
        have sV : X.heap.size < V.heap.size := by rw [hV]; simp
        have six3 : Six V fb 0 o k l h t x n := HXX.out.2.2.1.kept (P := Any) trivial kV
        have fV : ∀ i, V.frozen? ⟨fb, i, none⟩ = false := fun i => (kV.frozen sXf trivial).trans (HXX.out.2.2.2.2 i)
        have HVV : Hid (Kept Any X V ∧ Six V X.heap.size 0 o k l h t x n ∧ Six V X.heap.size 6 o2 k2 l2 h2 t2 x2 n2 ∧ Six V fb 0 o k l h t x n) := ⟨kV, sixv, sixw, six3⟩
        clear p0 p1 p2 p3 p4 p5 q0 q1 q2 q3 q4 q5 hV HV kV sixv sixw
        obtain ⟨p0, p1, p2, p3, p4, p5⟩ := six3
        simp only [Nat.zero_add] at p0 p1 p2 p3 p4 p5
        have sVf : fb < V.heap.size := by omega
        obtain ⟨Y, hY⟩ : ∃ Y, Y = (((((V.setCell ⟨fb, 0, none⟩ (.int .i64 6)).setCell ⟨fb, 1, none⟩ (.int .i64 0)).setCell ⟨fb, 2, none⟩ (.int .i64 0)).setCell ⟨fb, 3, none⟩ (.int .i64 0)).setCell ⟨fb, 4, none⟩ (.string ⟨#[]⟩)).setCell ⟨fb, 5, none⟩ (.slice (some ⟨X.heap.size, 0, none⟩) 2 2) := ⟨_, rfl⟩
        have HY : Hid (Y = _) := hY
        go_wp2_with fail
        rw [← HY.out]
        have sixy : Six Y fb 0 6 0 0 0 ⟨#[]⟩ (some ⟨X.heap.size, 0, none⟩) 2 := by rw [hY]; exact six_of_set V fb _ _ _ _ _ _ _ p0 p1 p2 p3 p4 p5
        have kY : Kept (fun b => b ≠ fb) V Y := by rw [hY]; exact kept_six_at (fun h => h rfl)
        have sY : Y.heap.size = V.heap.size := by rw [hY]; simp
        have fY : ∀ i, Y.frozen? ⟨fb, i, none⟩ = false := fun i => by rw [hY, frozen_six]; exact fV i
        have kcY : Kept (fun b => b ≠ fb ∧ b ≠ wa.heap.size) wc Y := (HXX.out.1.mono (fun b _ hb => hb.2)).trans ((HVV.out.1.mono (fun _ _ _ => trivial)).trans (kY.mono (fun b _ hb => hb.1)))
        have hatY : At w rb Y := (HH.out.1.step hlt HK2.out).step' (P := fun b => b ≠ fb ∧ b ≠ wa.heap.size) (by constructor <;> omega) (fun b hb _ => by constructor <;> omega) kcY
        have HYY : Hid (At w rb Y ∧ Six Y fb 0 6 0 0 0 ⟨#[]⟩ (some ⟨X.heap.size, 0, none⟩) 2 ∧ fb < Y.heap.size ∧ (∀ i, Y.frozen? ⟨fb, i, none⟩ = false) ∧ Kept (fun b => b ≠ fb ∧ b ≠ wa.heap.size) wc Y ∧ Kept (fun b => b ≠ fb) V Y) := ⟨hatY, sixy, by omega, fY, kcY, kY⟩
        clear hY HY p0 p1 p2 p3 p4 p5 sixy kY fY fV kcY hatY
        rcases HCS.out with ⟨rfl, g, q', hPg, hlg, hrg⟩ | ⟨hPn, m, T, v, rfl, hm⟩
        · refine (within_none _ _).mono ?_
          rintro r w9 ⟨rfl, rfl⟩
          obtain ⟨b1, b2, b3, b4⟩ := Ps.P_some hg hPg (s := q + 1) rfl hq1
          have HG : Hid (RowI w rb fb ws p e .orM R .nilIface w9 ∧ rowM rb .nilIface w9 < rowM rb .nilIface wr) := by
            have hrY : Rdr w9 rb ws q' e := hrg.below (HYY.out.2.2.2.2.1.below (by omega) (fun b hb => by constructor <;> omega))
            refine ⟨⟨HYY.out.1, hlo, HYY.out.2.2.1, HYY.out.2.2.2.1, _, _, _, _, _, _, _, HYY.out.2.1, .inl ⟨rfl, .two 6 f g, q', ⟨by decide, HQ.out.1, b1⟩, b3, by omega, ?_, hrY, ?_⟩⟩, ?_⟩
            · rw [← HQ.out.2.1]; exact (Ps.P_orM_yes hg f g q q' HQ.out.1 HQ.out.2.2.2 hPg).symm
            · have lf : Lies (fun b => w.heap.size < b ∧ b ≠ fb ∧ b ≠ wa.heap.size) wc f o k l h t x n := Lies.kept ((((Kept.refl _ wa).alloc _).trans (HK2.out.mono (fun b _ hb => by unfold But; omega)))) f HH.out.2.2.1
              have lg : Lies (fun b => w.heap.size < b ∧ b ≠ fb ∧ b ≠ wa.heap.size) wc g o2 k2 l2 h2 t2 x2 n2 := Lies.mono (fun b _ hb => by unfold Past at hb; simp at hb; refine ⟨?_, ?_, ?_⟩ <;> omega) g hlg
              have k9 : Kept (fun b => w.heap.size < b ∧ b ≠ fb ∧ b ≠ wa.heap.size) wc w9 := HYY.out.2.2.2.2.1.mono (fun b _ hb => hb.2)
              exact ⟨rfl, rfl, rfl, rfl, rfl, X.heap.size, o, k, l, h, t, x, n, o2, k2, l2, h2, t2, x2, n2, rfl, rfl, by unfold Pf; omega, HVV.out.2.1.kept (P := fun b => b ≠ fb) (by show X.heap.size ≠ fb; omega) HYY.out.2.2.2.2.2, Lies.mono (fun b _ hb => ⟨hb.1, hb.2.1⟩) f (Lies.kept k9 f lf), HVV.out.2.2.1.kept (P := fun b => b ≠ fb) (by show X.heap.size ≠ fb; omega) HYY.out.2.2.2.2.2, Lies.mono (fun b _ hb => ⟨hb.1, hb.2.1⟩) g (Lies.kept k9 g lg)⟩
            · show leftOf w9 rb + 1 < leftOf wr rb + 1
              rw [leftOf_eq hrY, HQ.out.2.2.1]; omega
          clear HQ HH HVV HYY HXX HK2 HCS hlg hrg hPg
          go_wp2
          go_roundw
          case rel => exact HG.out.1
          case measure => exact HG.out.2
        · refine (within_one _ _ _ _).mono ?_
          rintro r w9 ⟨rfl, rfl⟩
          have HG : Hid (RowI w rb fb ws p e .orM R (.iface 124 (.agg #[.string ⟨#[124]⟩, .iface T v])) w9 ∧ rowM rb (.iface 124 (.agg #[.string ⟨#[124]⟩, .iface T v])) w9 < rowM rb .nilIface wr) := by
            refine ⟨⟨HYY.out.1, hlo, HYY.out.2.2.1, HYY.out.2.2.2.1, _, _, _, _, _, _, _, HYY.out.2.1, .inr ⟨?_, _, _, _, rfl, hm.one _⟩⟩, ?_⟩
            · rw [← HQ.out.2.1]; exact Ps.P_orM_bad hg f q HQ.out.2.2.2 hPn
            · show 0 < leftOf wr rb + 1
              omega
          clear HQ HH HVV HYY HXX HK2 HCS hPn hm
          go_wp2
          go_roundw
          case rel => exact HG.out.1
          case measure => exact HG.out.2
      · have hmk' : Ps.isMark ws q 124 = false := by simpa using hmk
        have hRy : R = some (f, q) := by rw [← hP]; exact Ps.P_orM_no f q hmk'
        have HY : Hid (R = some (f, q)) := hRy
        have c2 := has82 rb ws q e 124 ⟨#[124]⟩ rfl wr hrd
        rw [isM_eq, hmk'] at c2
        simp only [Bool.false_eq_true, if_false] at c2
        clear hrd hP hmk hmk' hRy hat hl six hfz
        go_wp2_with fail
        refine c2.mono ?_
        rintro r wa ⟨rfl, hra, hka⟩
        clear c2
        have HA : Hid (At w rb wa) := HC.out.1.step hlt hka
        have sixa := HC.out.2.2.2.2.2.1.kept (P := But rb) (by unfold But; omega) hka
        have HL : Hid (Lies (Pf w fb) wa f o k l h t x n) := Lies.kept (hka.mono (fun b _ hb => by unfold Pf at hb; unfold But; omega)) f HC.out.2.2.2.2.1
        have HR : Hid (Rdr wa rb ws q e) := hra
        obtain ⟨y0, y1, y2, y3, y4, y5⟩ := sixa
        simp only [Nat.zero_add] at y0 y1 y2 y3 y4 y5
        have ne1 : w.heap.size ≠ fb := by omega
        have ne2 : fb ≠ w.heap.size := by omega
        have z1 := HA.out.z
        have f1 := HA.out.f
        have s1 := HA.out.s
        clear hka hra HC
        go_wp2
        refine bodyPost_ret (v := .tuple #[.agg #[.int .i64 o, .int .i64 k, .int .i64 l, .int .i64 h, .string t, .slice x n n], .nilIface]) (by simp [results, Tryz.results67, go_sem, z1]) rfl ?_
        rw [HY.out]
        exact pr_yes (Lies.mono (P := Pf w fb) (fun b _ hb => by unfold Past; unfold Pf at hb; omega) f (Lies.kept (kept_six_at (by unfold Pf; omega)) f HL.out)) (HR.out.below (below_six hlt)) (kept_six HA.out.k)
    · have z1 := hat.z
      have f1 := hat.f
      have s1 := hat.s
      have HA : Hid (At w rb wr) := hat
      have HM : Hid (Mis m (.iface T v)) := hm
      obtain ⟨y0, y1, y2, y3, y4, y5⟩ := six
      simp only [Nat.zero_add] at y0 y1 y2 y3 y4 y5
      have ne1 : w.heap.size ≠ fb := by omega
      have ne2 : fb ≠ w.heap.size := by omega
      clear hat hm
      go_wp2
      refine bodyPost_ret (v := .tuple #[.agg #[.int .i64 o, .int .i64 k, .int .i64 l, .int .i64 h, .string t, .slice x n n], .iface T v]) (by simp [results, Tryz.results67, go_sem, z1]) rfl ?_
      exact pr_no HM.out (kept_six HA.out.k)

set_option maxHeartbeats 2000000 in
theorem allOf68 (rb : Nat) (ws : List Wd.Word) (p : Nat) (e : Int) (w : World) (R : Option (Ps.Ft × Nat)) (h : Rdr w rb ws p e) (c : ∀ w, Rdr w rb ws p e → Calls Tryz.prog 67 #[.pointer (some ⟨rb, 0, none⟩), .int .i64 5, .string ⟨#[38]⟩, .func (.func 83) #[.pointer (some ⟨rb, 0, none⟩)] #[]] w (PR rb ws e R w)) :
    Calls Tryz.prog 68 #[.pointer (some ⟨rb, 0, none⟩)] w (PR rb ws e R w) := by
  have hlt := h.lt
  have HA0 : Hid (At w rb (w.alloc (.cells #[.int .i64 0, .int .i64 0, .int .i64 0, .int .i64 0, .string ⟨#[]⟩, .slice none 0 0] 53))) := At.start w rb
  have c1 := c (w.alloc (.cells #[.int .i64 0, .int .i64 0, .int .i64 0, .int .i64 0, .string ⟨#[]⟩, .slice none 0 0] 53)) (h.alloc _)
  clear c h
  go_enter Tryz.func68, Tryz.ntmps68
  go_wp2_with fail
  refine c1.mono ?_
  intro r w1 hr
  obtain ⟨o1, k1, l1, h1, t1, x1, n1, ev, rfl, hk1, hcs⟩ := pr_cases hr
  have HA : Hid (At w rb w1) := HA0.out.step hlt hk1
  have HCS : Hid _ := hcs
  clear hr hcs c1 HA0 hk1
  have z1 := HA.out.z
  have f1 := HA.out.f
  have s1 := HA.out.s
  go_wp2
  refine bodyPost_ret (v := .tuple #[.agg #[.int .i64 o1, .int .i64 k1, .int .i64 l1, .int .i64 h1, .string t1, .slice x1 n1 n1], ev]) (by simp [results, Tryz.results68, go_sem, z1]) rfl ?_
  rcases HCS.out with ⟨rfl, f, q, rfl, hl, hr⟩ | ⟨rfl, m, T, v, rfl, hm⟩
  · have hl' : Lies (fun b => w.heap.size < b) w1 f o1 k1 l1 h1 t1 x1 n1 := Lies.mono (fun b _ hb => by unfold Past at hb; simp at hb; omega) f hl
    exact pr_yes (Lies.mono (P := fun b => w.heap.size < b) (fun b _ hb => Nat.le_of_lt hb) f (Lies.kept (kept_six_at (by omega)) f hl')) (hr.below (below_six hlt)) (kept_six HA.out.k)
  · exact pr_no hm (kept_six HA.out.k)

set_option maxHeartbeats 2000000 in
theorem filter52 (rb : Nat) (ws : List Wd.Word) (p : Nat) (e : Int) (w : World) (R : Option (Ps.Ft × Nat)) (h : Rdr w rb ws p e) (c : ∀ w, Rdr w rb ws p e → Calls Tryz.prog 67 #[.pointer (some ⟨rb, 0, none⟩), .int .i64 6, .string ⟨#[124]⟩, .func (.func 68) #[.pointer (some ⟨rb, 0, none⟩)] #[]] w (PR rb ws e R w)) :
    Calls Tryz.prog 52 #[.pointer (some ⟨rb, 0, none⟩)] w (PR rb ws e R w) := by
  have hlt := h.lt
  have HA0 : Hid (At w rb (w.alloc (.cells #[.int .i64 0, .int .i64 0, .int .i64 0, .int .i64 0, .string ⟨#[]⟩, .slice none 0 0] 53))) := At.start w rb
  have c1 := c (w.alloc (.cells #[.int .i64 0, .int .i64 0, .int .i64 0, .int .i64 0, .string ⟨#[]⟩, .slice none 0 0] 53)) (h.alloc _)
  clear c h
  go_enter Tryz.func52, Tryz.ntmps52
  go_wp2_with fail
  refine c1.mono ?_
  intro r w1 hr
  obtain ⟨o1, k1, l1, h1, t1, x1, n1, ev, rfl, hk1, hcs⟩ := pr_cases hr
  have HA : Hid (At w rb w1) := HA0.out.step hlt hk1
  have HCS : Hid _ := hcs
  clear hr hcs c1 HA0 hk1
  have z1 := HA.out.z
  have f1 := HA.out.f
  have s1 := HA.out.s
  go_wp2
  refine bodyPost_ret (v := .tuple #[.agg #[.int .i64 o1, .int .i64 k1, .int .i64 l1, .int .i64 h1, .string t1, .slice x1 n1 n1], ev]) (by simp [results, Tryz.results52, go_sem, z1]) rfl ?_
  rcases HCS.out with ⟨rfl, f, q, rfl, hl, hr⟩ | ⟨rfl, m, T, v, rfl, hm⟩
  · have hl' : Lies (fun b => w.heap.size < b) w1 f o1 k1 l1 h1 t1 x1 n1 := Lies.mono (fun b _ hb => by unfold Past at hb; simp at hb; omega) f hl
    exact pr_yes (Lies.mono (P := fun b => w.heap.size < b) (fun b _ hb => Nat.le_of_lt hb) f (Lies.kept (kept_six_at (by omega)) f hl')) (hr.below (below_six hlt)) (kept_six HA.out.k)
  · exact pr_no hm (kept_six HA.out.k)

/-- The same, given from each later place on. -/
theorem reads_step (rb : Nat) (ws : List Wd.Word) (e : Int) (hg : Ps.Goods ws) (p : Nat) (hp : p ≤ ws.length) (ih : ∀ q, p < q → q ≤ ws.length → 
    (∀ w, Rdr w rb ws q e → Calls Tryz.prog 83 #[.pointer (some ⟨rb, 0, none⟩)] w (PR rb ws e (Ps.P ws .not q) w)) ∧
    (∀ w, Rdr w rb ws q e → Calls Tryz.prog 68 #[.pointer (some ⟨rb, 0, none⟩)] w (PR rb ws e (Ps.P ws .and q) w)) ∧
    (∀ w, Rdr w rb ws q e → Calls Tryz.prog 52 #[.pointer (some ⟨rb, 0, none⟩)] w (PR rb ws e (Ps.P ws .or q) w))) :
    (∀ w, Rdr w rb ws p e → Calls Tryz.prog 83 #[.pointer (some ⟨rb, 0, none⟩)] w (PR rb ws e (Ps.P ws .not p) w)) ∧
    (∀ w, Rdr w rb ws p e → Calls Tryz.prog 68 #[.pointer (some ⟨rb, 0, none⟩)] w (PR rb ws e (Ps.P ws .and p) w)) ∧
    (∀ w, Rdr w rb ws p e → Calls Tryz.prog 52 #[.pointer (some ⟨rb, 0, none⟩)] w (PR rb ws e (Ps.P ws .or p) w)) := by
  have hnot : ∀ w, Rdr w rb ws p e → Calls Tryz.prog 83 #[.pointer (some ⟨rb, 0, none⟩)] w (PR rb ws e (Ps.P ws .not p) w) := by
    intro w h
    rw [Ps.P_not hg p hp]
    by_cases e33 : Ps.isMark ws p 33 = true
    · rw [if_pos e33]
      have e42 := Ps.isMark_one (d := 42) e33 (by decide)
      have e64 := Ps.isMark_one (d := 64) e33 (by decide)
      have e94 := Ps.isMark_one (d := 94) e33 (by decide)
      have c := (ih (p + 1) (by omega) (Ps.isMark_lt e33)).1
      cases hx : Ps.P ws .not (p + 1) with
      | none => rw [hx] at c; exact single_not_no83 rb ws p e w hg h e42 e64 e94 e33 c
      | some y => obtain ⟨f, q⟩ := y; rw [hx] at c; exact single_not83 rb ws p e w hg h e42 e64 e94 e33 f q c
    · rw [if_neg e33]
      have e33' : Ps.isMark ws p 33 = false := by simpa using e33
      by_cases e40 : Ps.isMark ws p 40 = true
      · rw [if_pos e40]
        have e42 := Ps.isMark_one (d := 42) e40 (by decide)
        have e64 := Ps.isMark_one (d := 64) e40 (by decide)
        have e94 := Ps.isMark_one (d := 94) e40 (by decide)
        have c := (ih (p + 1) (by omega) (Ps.isMark_lt e40)).2.2
        cases hx : Ps.P ws .or (p + 1) with
        | none => rw [hx] at c; exact single_open_no83 rb ws p e w hg h e42 e64 e94 e33' e40 c
        | some y =>
          obtain ⟨f, q⟩ := y
          rw [hx] at c
          simp only
          by_cases e41 : Ps.isMark ws q 41 = true
          · rw [if_pos e41]; exact single_open83 rb ws p e w hg h e42 e64 e94 e33' e40 f q e41 c
          · rw [if_neg e41]; exact single_open_no83b rb ws p e w hg h e42 e64 e94 e33' e40 f q (by simpa using e41) c
      · rw [if_neg e40]
        have e40' : Ps.isMark ws p 40 = false := by simpa using e40
        by_cases e42 : Ps.isMark ws p 42 = true
        · rw [if_pos e42]; exact single_star83 rb ws p e w hg h e42
        · rw [if_neg e42]
          have e42' : Ps.isMark ws p 42 = false := by simpa using e42
          by_cases e94 : Ps.isMark ws p 94 = true
          · rw [if_pos e94]
            have e64 := Ps.isMark_one (d := 64) e94 (by decide)
            cases hx : Ps.name ws (p + 1) with
            | none => exact single_tag_no83 rb ws p e w hg h e42' e64 e94 hx
            | some t => exact single_tag83 rb ws p e w hg h e42' e64 e94 t hx
          · rw [if_neg e94]
            have e94' : Ps.isMark ws p 94 = false := by simpa using e94
            by_cases e64 : Ps.isMark ws p 64 = true
            · rw [if_pos e64]
              cases hx : Ps.key ws (p + 1) with
              | none => exact single_at_no83 rb ws p e w hg h e42' e64 hx
              | some y => obtain ⟨f, q⟩ := y; exact single_at83 rb ws p e w hg h e42' e64 f q hx
            · rw [if_neg e64]
              exact single_none83 rb ws p e w hg h e42' (by simpa using e64) e94' e33' e40'
  have hand : ∀ w, Rdr w rb ws p e → Calls Tryz.prog 68 #[.pointer (some ⟨rb, 0, none⟩)] w (PR rb ws e (Ps.P ws .and p) w) := by
    intro w h
    refine allOf68 rb ws p e w _ h (fun w' h' => row67_83 rb ws p e w' hg h' hp _ (fun hx => ?_) (fun f q hx => ?_) (fun q hq hl => ?_))
    · rw [Ps.P_and hg p hp, hx]
    · rw [Ps.P_and hg p hp, hx]
    · by_cases hpq : p = q
      · subst hpq; exact hnot
      · exact (ih q (by omega) hl).1
  have hor : ∀ w, Rdr w rb ws p e → Calls Tryz.prog 52 #[.pointer (some ⟨rb, 0, none⟩)] w (PR rb ws e (Ps.P ws .or p) w) := by
    intro w h
    refine filter52 rb ws p e w _ h (fun w' h' => row67_68 rb ws p e w' hg h' hp _ (fun hx => ?_) (fun f q hx => ?_) (fun q hq hl => ?_))
    · rw [Ps.P_or hg p hp, hx]
    · rw [Ps.P_or hg p hp, hx]
    · by_cases hpq : p = q
      · subst hpq; exact hand
      · exact (ih q (by omega) hl).2.1
  exact ⟨hnot, hand, hor⟩

/-- What the three functions of the reader do, from each place on. -/
theorem reads_all (rb : Nat) (ws : List Wd.Word) (e : Int) (hg : Ps.Goods ws) (d : Nat) : ∀ p, p ≤ ws.length → ws.length - p ≤ d → 
    (∀ w, Rdr w rb ws p e → Calls Tryz.prog 83 #[.pointer (some ⟨rb, 0, none⟩)] w (PR rb ws e (Ps.P ws .not p) w)) ∧
    (∀ w, Rdr w rb ws p e → Calls Tryz.prog 68 #[.pointer (some ⟨rb, 0, none⟩)] w (PR rb ws e (Ps.P ws .and p) w)) ∧
    (∀ w, Rdr w rb ws p e → Calls Tryz.prog 52 #[.pointer (some ⟨rb, 0, none⟩)] w (PR rb ws e (Ps.P ws .or p) w)) := by
  induction d with
  | zero => exact fun p hp hd => reads_step rb ws e hg p hp (fun q hq hl => absurd hl (by omega))
  | succ d ih => exact fun p hp hd => reads_step rb ws e hg p hp (fun q hq hl => ih q hl (by omega))

end Go.Proofs.YtdeojcodbojmoaaGreatDoor
