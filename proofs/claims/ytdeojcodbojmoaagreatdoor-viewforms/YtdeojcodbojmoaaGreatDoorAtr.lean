/- pars.reader: what stands behind @. -/
import Derived.Test.YtdeojcodbojmoaaGreatDoorRdb
namespace Go.Proofs.YtdeojcodbojmoaaGreatDoor
open Go.RowKit
set_option maxRecDepth 100000
set_option linter.unusedVariables false

theorem within_one (p : ByteArray) (T : TypeId) (x : Value) (w : World) : Calls Tryz.prog 51 #[.string p, .iface T x] w fun r w' => r = .returned (.iface 124 (.agg #[.string p, .iface T x])) ∧ w' = w := by
  go_enter Tryz.func51, Tryz.ntmps51
  go_wp2
  go_ret
  exact ⟨rfl, rfl⟩

/-- The result's own block stands as it was laid. -/
structure At (w : World) (rb : Nat) (W : World) : Prop where
  z : ∀ o, W.cell? ⟨w.heap.size, o, none⟩ = (#[.int .i64 0, .int .i64 0, .int .i64 0, .int .i64 0, .string ⟨#[]⟩, .slice none 0 0] : Array Value)[o]?
  f : ∀ o, W.frozen? ⟨w.heap.size, o, none⟩ = false
  s : w.heap.size < W.heap.size
  k : Kept (But rb) w W

theorem At.start (w : World) (rb : Nat) : At w rb (w.alloc (.cells #[.int .i64 0, .int .i64 0, .int .i64 0, .int .i64 0, .string ⟨#[]⟩, .slice none 0 0] 53)) :=
  ⟨fun o => by simp, fun o => by simp, by simp, (Kept.refl _ w).alloc _⟩

theorem At.step {w W W' : World} {rb : Nat} (h : At w rb W) (hlt : rb < w.heap.size) (k : Kept (But rb) W W') : At w rb W' :=
  ⟨fun o => (k.cell h.s (by unfold But; omega)).trans (h.z o), fun o => (k.frozen h.s (by unfold But; omega)).trans (h.f o), Nat.lt_of_lt_of_le h.s k.size, h.k.trans k⟩

theorem kept_six {P : Nat → Prop} {w w' : World} (h : Kept P w w') {u0 u1 u2 u3 u4 u5 : Value} : Kept P w ((((((w'.setCell ⟨w.heap.size, 0, none⟩ u0).setCell ⟨w.heap.size, 1, none⟩ u1).setCell ⟨w.heap.size, 2, none⟩ u2).setCell ⟨w.heap.size, 3, none⟩ u3).setCell ⟨w.heap.size, 4, none⟩ u4).setCell ⟨w.heap.size, 5, none⟩ u5) := by
  have f : ∀ o : Nat, ∀ k, k < w.heap.size → P k → k ≠ (⟨w.heap.size, o, none⟩ : Addr).block := fun o k hk _ => by show k ≠ w.heap.size; omega
  exact (((((h.setCell (f 0) u0).setCell (f 1) u1).setCell (f 2) u2).setCell (f 3) u3).setCell (f 4) u4).setCell (f 5) u5

/-- The end of the first and the last number of a range. -/
theorem Mis.one {n : Nat} {T : TypeId} {x : Value} (h : Mis n (.iface T x)) (p : ByteArray) : Mis (n + 1) (.iface 124 (.agg #[.string p, .iface T x])) := ⟨p, _, rfl, h⟩
theorem mis_zero (y : Int) : Mis 0 (.iface 69 (.agg #[.int .i64 y])) := ⟨y, rfl⟩

set_option maxHeartbeats 1000000 in
theorem ends_no1 (rb : Nat) (ws : List Wd.Word) (p : Nat) (e : Int) (w : World) (hg : Ps.Goods ws) (h : Rdr w rb ws p e) (h1 : Ps.num ws p 100 = none) :
    Calls Tryz.prog 100 #[.pointer (some ⟨rb, 0, none⟩)] w fun r w' => ∃ (x y : Int) (m : Nat) (T : TypeId) (v : Value), r = .returned (.tuple #[.int .i64 x, .int .i64 y, .iface T v]) ∧ Mis m (.iface T v) ∧ Kept (But rb) w w' := by
  have c1 := number_no rb ws p e 0 99 w h (fun a ha => by rw [show ((99 : Int) + 1) = 100 from rfl, h1] at ha; cases ha)
  clear h1 hg
  go_enter Tryz.func100, Tryz.ntmps100
  go_wp2_with fail
  refine c1.mono ?_
  rintro r w1 ⟨y, rfl, hb1⟩
  clear c1
  go_wp2_with fail
  refine (within_one _ _ _ _).mono ?_
  rintro r w2 ⟨rfl, rfl⟩
  go_wp2
  refine bodyPost_ret (v := .tuple #[.int .i64 0, .int .i64 0, _]) (by simp [results, Tryz.results100, go_sem] <;> rfl) rfl ⟨_, _, _, _, _, rfl, (mis_zero y).one _, Kept.of_below hb1⟩

set_option maxHeartbeats 1000000 in
theorem ends_no2 (rb : Nat) (ws : List Wd.Word) (p : Nat) (e : Int) (w : World) (hg : Ps.Goods ws) (h : Rdr w rb ws p e) (a : Int) (h1 : Ps.num ws p 100 = some a) (h2 : Ps.isMark ws (p + 1) 45 = false) :
    Calls Tryz.prog 100 #[.pointer (some ⟨rb, 0, none⟩)] w fun r w' => ∃ (x y : Int) (m : Nat) (T : TypeId) (v : Value), r = .returned (.tuple #[.int .i64 x, .int .i64 y, .iface T v]) ∧ Mis m (.iface T v) ∧ Kept (But rb) w w' := by
  have c1 := number_yes rb ws p e a 0 99 w h h1 (Ps.num_some hg h1).2.1
  have c2 := fun w' (h' : Rdr w' rb ws (p + 1) e) => wants_no rb ws (p + 1) e 45 ⟨#[45]⟩ rfl w' h' h2
  clear h1 h2 hg
  go_enter Tryz.func100, Tryz.ntmps100
  go_wp2_with fail
  refine c1.mono ?_
  rintro r w1 ⟨rfl, hr1, hk1⟩
  clear c1
  have c2 := c2 w1 hr1
  have HK : Hid (Kept (But rb) w w1) := hk1
  clear hr1 hk1
  go_wp2_with fail
  refine c2.mono ?_
  rintro r w2 ⟨y, rfl, hk2⟩
  clear c2
  go_wp2
  refine bodyPost_ret (v := .tuple #[.int .i64 0, .int .i64 0, _]) (by simp [results, Tryz.results100, go_sem] <;> rfl) rfl ⟨_, _, _, _, _, rfl, mis_zero y, HK.out.trans hk2⟩

set_option maxHeartbeats 1000000 in
theorem ends_no3 (rb : Nat) (ws : List Wd.Word) (p : Nat) (e : Int) (w : World) (hg : Ps.Goods ws) (h : Rdr w rb ws p e) (a : Int) (h1 : Ps.num ws p 100 = some a) (h2 : Ps.isMark ws (p + 1) 45 = true) (h3 : ∀ b, Ps.num ws (p + 1 + 1) 100 = some b → b < a) :
    Calls Tryz.prog 100 #[.pointer (some ⟨rb, 0, none⟩)] w fun r w' => ∃ (x y : Int) (m : Nat) (T : TypeId) (v : Value), r = .returned (.tuple #[.int .i64 x, .int .i64 y, .iface T v]) ∧ Mis m (.iface T v) ∧ Kept (But rb) w w' := by
  have c1 := number_yes rb ws p e a 0 99 w h h1 (Ps.num_some hg h1).2.1
  have c2 := fun w' (h' : Rdr w' rb ws (p + 1) e) => wants_yes rb ws (p + 1) e 45 ⟨#[45]⟩ rfl w' h' h2
  have c3 := fun w' (h' : Rdr w' rb ws (p + 1 + 1) e) => number_no rb ws (p + 1 + 1) e a 99 w' h' h3
  clear h1 h2 h3 hg
  go_enter Tryz.func100, Tryz.ntmps100
  go_wp2_with fail
  refine c1.mono ?_
  rintro r w1 ⟨rfl, hr1, hk1⟩
  clear c1
  have c2 := c2 w1 hr1
  have HK : Hid (Kept (But rb) w w1) := hk1
  clear hr1 hk1
  go_wp2_with fail
  refine c2.mono ?_
  rintro r w2 ⟨rfl, hr2, hk2⟩
  clear c2
  have c3 := c3 w2 hr2
  have HK2 : Hid (Kept (But rb) w w2) := HK.out.trans hk2
  clear hr2 hk2
  go_wp2_with fail
  refine c3.mono ?_
  rintro r w3 ⟨y, rfl, hb3⟩
  clear c3
  go_wp2_with fail
  refine (within_one _ _ _ _).mono ?_
  rintro r w4 ⟨rfl, rfl⟩
  go_wp2
  refine bodyPost_ret (v := .tuple #[.int .i64 a, .int .i64 0, _]) (by simp [results, Tryz.results100, go_sem] <;> rfl) rfl ⟨_, _, _, _, _, rfl, (mis_zero y).one _, HK2.out.trans (Kept.of_below hb3)⟩

set_option maxHeartbeats 1000000 in
theorem ends_yes (rb : Nat) (ws : List Wd.Word) (p : Nat) (e : Int) (w : World) (hg : Ps.Goods ws) (h : Rdr w rb ws p e) (a b : Int) (h1 : Ps.num ws p 100 = some a) (h2 : Ps.isMark ws (p + 1) 45 = true) (h3 : Ps.num ws (p + 1 + 1) 100 = some b) (h4 : a ≤ b) :
    Calls Tryz.prog 100 #[.pointer (some ⟨rb, 0, none⟩)] w fun r w' => r = .returned (.tuple #[.int .i64 a, .int .i64 b, .nilIface]) ∧ Rdr w' rb ws (p + 1 + 1 + 1) e ∧ Kept (But rb) w w' := by
  have c1 := number_yes rb ws p e a 0 99 w h h1 (Ps.num_some hg h1).2.1
  have c2 := fun w' (h' : Rdr w' rb ws (p + 1) e) => wants_yes rb ws (p + 1) e 45 ⟨#[45]⟩ rfl w' h' h2
  have c3 := fun w' (h' : Rdr w' rb ws (p + 1 + 1) e) => number_yes rb ws (p + 1 + 1) e b a 99 w' h' h3 h4
  clear h1 h2 h3 h4 hg
  go_enter Tryz.func100, Tryz.ntmps100
  go_wp2_with fail
  refine c1.mono ?_
  rintro r w1 ⟨rfl, hr1, hk1⟩
  clear c1
  have c2 := c2 w1 hr1
  have HK : Hid (Kept (But rb) w w1) := hk1
  clear hr1 hk1
  go_wp2_with fail
  refine c2.mono ?_
  rintro r w2 ⟨rfl, hr2, hk2⟩
  clear c2
  have c3 := c3 w2 hr2
  have HK2 : Hid (Kept (But rb) w w2) := HK.out.trans hk2
  clear hr2 hk2
  go_wp2_with fail
  refine c3.mono ?_
  rintro r w3 ⟨rfl, hr3, hk3⟩
  clear c3
  have HK3 : Hid (Rdr w3 rb ws (p + 1 + 1 + 1) e ∧ Kept (But rb) w w3) := ⟨hr3, HK2.out.trans hk3⟩
  clear hr3 hk3
  go_wp2_with fail
  refine (within_none _ _).mono ?_
  rintro r w4 ⟨rfl, rfl⟩
  go_wp2
  refine bodyPost_ret (v := .tuple #[.int .i64 a, .int .i64 b, .nilIface]) (by simp [results, Tryz.results100, go_sem]) rfl ⟨rfl, HK3.out⟩

/-- What reading a filter, or a part of one, tells. -/
def PR (rb : Nat) (ws : List Wd.Word) (e : Int) (o : Option (Ps.Ft × Nat)) (w : World) (r : Ending) (w' : World) : Prop := match o with
  | some (f, q) => ∃ o k l h t x n, r = .returned (.tuple #[.agg #[.int .i64 o, .int .i64 k, .int .i64 l, .int .i64 h, .string t, .slice x n n], .nilIface]) ∧ Lies (Past w.heap.size) w' f o k l h t x n ∧ Rdr w' rb ws q e ∧ Kept (But rb) w w'
  | none => ∃ o k l h t x n m T v, r = .returned (.tuple #[.agg #[.int .i64 o, .int .i64 k, .int .i64 l, .int .i64 h, .string t, .slice x n n], .iface T v]) ∧ Mis m (.iface T v) ∧ Kept (But rb) w w'

theorem below_six {w W : World} {rb : Nat} (hlt : rb < w.heap.size) {u0 u1 u2 u3 u4 u5 : Value} : Below (rb + 1) W ((((((W.setCell ⟨w.heap.size, 0, none⟩ u0).setCell ⟨w.heap.size, 1, none⟩ u1).setCell ⟨w.heap.size, 2, none⟩ u2).setCell ⟨w.heap.size, 3, none⟩ u3).setCell ⟨w.heap.size, 4, none⟩ u4).setCell ⟨w.heap.size, 5, none⟩ u5) :=
  ((((((Below.refl _ W).setCell (p := ⟨w.heap.size, 0, none⟩) hlt u0).setCell (p := ⟨w.heap.size, 1, none⟩) hlt u1).setCell (p := ⟨w.heap.size, 2, none⟩) hlt u2).setCell (p := ⟨w.heap.size, 3, none⟩) hlt u3).setCell (p := ⟨w.heap.size, 4, none⟩) hlt u4).setCell (p := ⟨w.heap.size, 5, none⟩) hlt u5

set_option maxHeartbeats 2000000 in
theorem attr_no1 (rb : Nat) (ws : List Wd.Word) (p : Nat) (e : Int) (w : World) (hg : Ps.Goods ws) (h : Rdr w rb ws p e) (h1 : Ps.num ws p 4 = none) : Calls Tryz.prog 90 #[.pointer (some ⟨rb, 0, none⟩)] w (PR rb ws e none w) := by
  have hlt := h.lt
  have h0 : Rdr (w.alloc (.cells #[.int .i64 0, .int .i64 0, .int .i64 0, .int .i64 0, .string ⟨#[]⟩, .slice none 0 0] 53)) rb ws p e := h.below ((Below.refl _ w).alloc hlt _)
  have c1 := number_no rb ws p e 0 3 _ h0 (fun a ha => by rw [show ((3 : Int) + 1) = 4 from rfl, h1] at ha; cases ha)
  clear h1 hg h0
  unfold PR
  go_enter Tryz.func90, Tryz.ntmps90
  go_wp2_with fail
  refine c1.mono ?_
  rintro r w1 ⟨y, rfl, hb1⟩
  clear c1
  have HA : Hid (At w rb w1) := (At.start w rb).step hlt (Kept.of_below hb1)
  clear hb1
  go_wp2_with fail
  refine (within_one _ _ _ _).mono ?_
  rintro r w2 ⟨rfl, rfl⟩
  have z1 := HA.out.z
  have f1 := HA.out.f
  have s1 := HA.out.s
  go_wp2
  refine bodyPost_ret (v := .tuple #[.agg #[.int .i64 0, .int .i64 0, .int .i64 0, .int .i64 0, .string ⟨#[]⟩, .slice none 0 0], _]) (by simp [results, Tryz.results90, go_sem, z1] <;> rfl) rfl ⟨0, 0, 0, 0, ⟨#[]⟩, none, 0, _, _, _, rfl, (mis_zero y).one _, kept_six HA.out.k⟩

set_option maxHeartbeats 2000000 in
theorem attr_no2 (rb : Nat) (ws : List Wd.Word) (p : Nat) (e : Int) (w : World) (hg : Ps.Goods ws) (h : Rdr w rb ws p e) (k : Int) (h1 : Ps.num ws p 4 = some k) (h2 : Ps.isMark ws (p + 1) 58 = false) (h3 : Ps.isMark ws (p + 1) 61 = false) : Calls Tryz.prog 90 #[.pointer (some ⟨rb, 0, none⟩)] w (PR rb ws e none w) := by
  have hlt := h.lt
  have h0 : Rdr (w.alloc (.cells #[.int .i64 0, .int .i64 0, .int .i64 0, .int .i64 0, .string ⟨#[]⟩, .slice none 0 0] 53)) rb ws p e := h.below ((Below.refl _ w).alloc hlt _)
  have c1 := number_yes rb ws p e k 0 3 _ h0 h1 (Ps.num_some hg h1).2.1
  have c2 := fun w' (h' : Rdr w' rb ws (p + 1) e) => has82 rb ws (p + 1) e 58 ⟨#[58]⟩ rfl w' h'
  rw [isM_eq, h2] at c2
  simp only [Bool.false_eq_true, if_false] at c2
  have c3 := fun w' (h' : Rdr w' rb ws (p + 1) e) => wants_no rb ws (p + 1) e 61 ⟨#[61]⟩ rfl w' h' h3
  clear h1 h2 h3 hg h0
  unfold PR
  go_enter Tryz.func90, Tryz.ntmps90
  go_wp2_with fail
  refine c1.mono ?_
  rintro r w1 ⟨rfl, hr1, hk1⟩
  clear c1
  have c2 := c2 w1 hr1
  have HA1 : Hid (At w rb w1) := (At.start w rb).step hlt hk1
  clear hr1 hk1
  go_wp2_with fail
  refine c2.mono ?_
  rintro r w2 ⟨rfl, hr2, hk2⟩
  clear c2
  have c3 := c3 w2 hr2
  have HA2 : Hid (At w rb w2) := HA1.out.step hlt hk2
  clear hr2 hk2 HA1
  go_wp2_with fail
  refine c3.mono ?_
  rintro r w3 ⟨y, rfl, hk3⟩
  clear c3
  have HA : Hid (At w rb w3) := HA2.out.step hlt hk3
  clear hk3 HA2
  have z1 := HA.out.z
  have f1 := HA.out.f
  have s1 := HA.out.s
  go_wp2
  refine bodyPost_ret (v := .tuple #[.agg #[.int .i64 0, .int .i64 0, .int .i64 0, .int .i64 0, .string ⟨#[]⟩, .slice none 0 0], _]) (by simp [results, Tryz.results90, go_sem, z1] <;> rfl) rfl ⟨0, 0, 0, 0, ⟨#[]⟩, none, 0, _, _, _, rfl, mis_zero y, kept_six HA.out.k⟩

set_option maxHeartbeats 2000000 in
theorem attr_eq (rb : Nat) (ws : List Wd.Word) (p : Nat) (e : Int) (w : World) (hg : Ps.Goods ws) (h : Rdr w rb ws p e) (k a : Int) (h1 : Ps.num ws p 4 = some k) (h2 : Ps.isMark ws (p + 1) 58 = false) (h3 : Ps.isMark ws (p + 1) 61 = true) (h4 : Ps.num ws (p + 1 + 1) 100 = some a) : Calls Tryz.prog 90 #[.pointer (some ⟨rb, 0, none⟩)] w (PR rb ws e (some (.leaf 2 k a a ⟨#[]⟩, p + 1 + 1 + 1)) w) := by
  have hlt := h.lt
  have h0 : Rdr (w.alloc (.cells #[.int .i64 0, .int .i64 0, .int .i64 0, .int .i64 0, .string ⟨#[]⟩, .slice none 0 0] 53)) rb ws p e := h.below ((Below.refl _ w).alloc hlt _)
  have c1 := number_yes rb ws p e k 0 3 _ h0 h1 (Ps.num_some hg h1).2.1
  have c2 := fun w' (h' : Rdr w' rb ws (p + 1) e) => has82 rb ws (p + 1) e 58 ⟨#[58]⟩ rfl w' h'
  rw [isM_eq, h2] at c2
  simp only [Bool.false_eq_true, if_false] at c2
  have c3 := fun w' (h' : Rdr w' rb ws (p + 1) e) => wants_yes rb ws (p + 1) e 61 ⟨#[61]⟩ rfl w' h' h3
  have c4 := fun w' (h' : Rdr w' rb ws (p + 1 + 1) e) => number_yes rb ws (p + 1 + 1) e a 0 99 w' h' h4 (Ps.num_some hg h4).2.1
  clear h1 h2 h3 h4 hg h0
  unfold PR
  go_enter Tryz.func90, Tryz.ntmps90
  go_wp2_with fail
  refine c1.mono ?_
  rintro r w1 ⟨rfl, hr1, hk1⟩
  clear c1
  have c2 := c2 w1 hr1
  have HA1 : Hid (At w rb w1) := (At.start w rb).step hlt hk1
  clear hr1 hk1
  go_wp2_with fail
  refine c2.mono ?_
  rintro r w2 ⟨rfl, hr2, hk2⟩
  clear c2
  have HA2 : Hid (At w rb w2) := HA1.out.step hlt hk2
  clear hk2 HA1
  have c3 := c3 w2 hr2
  clear hr2
  go_wp2_with fail
  refine c3.mono ?_
  rintro r w3 ⟨rfl, hr3, hk3⟩
  clear c3
  have HA3 : Hid (At w rb w3) := HA2.out.step hlt hk3
  clear hk3 HA2
  have c4 := c4 w3 hr3
  clear hr3
  go_wp2_with fail
  refine c4.mono ?_
  rintro r w4 ⟨rfl, hr4, hk4⟩
  clear c4
  have HA : Hid (At w rb w4) := HA3.out.step hlt hk4
  have HR : Hid (Rdr w4 rb ws (p + 1 + 1 + 1) e) := hr4
  clear hk4 hr4 HA3
  go_wp2_with fail
  refine (within_none _ _).mono ?_
  rintro r w5 ⟨rfl, rfl⟩
  have z1 := HA.out.z
  have f1 := HA.out.f
  have s1 := HA.out.s
  go_wp2
  refine bodyPost_ret (v := .tuple #[.agg #[.int .i64 2, .int .i64 k, .int .i64 a, .int .i64 a, .string ⟨#[]⟩, .slice none 0 0], .nilIface]) (by simp [results, Tryz.results90, go_sem, z1]) rfl ⟨2, k, a, a, ⟨#[]⟩, none, 0, rfl, ⟨rfl, rfl, rfl, rfl, rfl, rfl, rfl⟩, HR.out.below (below_six hlt), kept_six HA.out.k⟩

set_option maxHeartbeats 2000000 in
theorem attr_eq_no (rb : Nat) (ws : List Wd.Word) (p : Nat) (e : Int) (w : World) (hg : Ps.Goods ws) (h : Rdr w rb ws p e) (k : Int) (h1 : Ps.num ws p 4 = some k) (h2 : Ps.isMark ws (p + 1) 58 = false) (h3 : Ps.isMark ws (p + 1) 61 = true) (h4 : Ps.num ws (p + 1 + 1) 100 = none) : Calls Tryz.prog 90 #[.pointer (some ⟨rb, 0, none⟩)] w (PR rb ws e none w) := by
  have hlt := h.lt
  have h0 : Rdr (w.alloc (.cells #[.int .i64 0, .int .i64 0, .int .i64 0, .int .i64 0, .string ⟨#[]⟩, .slice none 0 0] 53)) rb ws p e := h.below ((Below.refl _ w).alloc hlt _)
  have c1 := number_yes rb ws p e k 0 3 _ h0 h1 (Ps.num_some hg h1).2.1
  have c2 := fun w' (h' : Rdr w' rb ws (p + 1) e) => has82 rb ws (p + 1) e 58 ⟨#[58]⟩ rfl w' h'
  rw [isM_eq, h2] at c2
  simp only [Bool.false_eq_true, if_false] at c2
  have c3 := fun w' (h' : Rdr w' rb ws (p + 1) e) => wants_yes rb ws (p + 1) e 61 ⟨#[61]⟩ rfl w' h' h3
  have c4 := fun w' (h' : Rdr w' rb ws (p + 1 + 1) e) => number_no rb ws (p + 1 + 1) e 0 99 w' h' (fun a ha => by rw [show ((99 : Int) + 1) = 100 from rfl, h4] at ha; cases ha)
  clear h1 h2 h3 h4 hg h0
  unfold PR
  go_enter Tryz.func90, Tryz.ntmps90
  go_wp2_with fail
  refine c1.mono ?_
  rintro r w1 ⟨rfl, hr1, hk1⟩
  clear c1
  have c2 := c2 w1 hr1
  have HA1 : Hid (At w rb w1) := (At.start w rb).step hlt hk1
  clear hr1 hk1
  go_wp2_with fail
  refine c2.mono ?_
  rintro r w2 ⟨rfl, hr2, hk2⟩
  clear c2
  have HA2 : Hid (At w rb w2) := HA1.out.step hlt hk2
  clear hk2 HA1
  have c3 := c3 w2 hr2
  clear hr2
  go_wp2_with fail
  refine c3.mono ?_
  rintro r w3 ⟨rfl, hr3, hk3⟩
  clear c3
  have HA3 : Hid (At w rb w3) := HA2.out.step hlt hk3
  clear hk3 HA2
  have c4 := c4 w3 hr3
  clear hr3
  go_wp2_with fail
  refine c4.mono ?_
  rintro r w4 ⟨y, rfl, hb4⟩
  clear c4
  have HA : Hid (At w rb w4) := HA3.out.step hlt (Kept.of_below hb4)
  clear hb4 HA3
  go_wp2_with fail
  refine (within_one _ _ _ _).mono ?_
  rintro r w5 ⟨rfl, rfl⟩
  have z1 := HA.out.z
  have f1 := HA.out.f
  have s1 := HA.out.s
  go_wp2
  refine bodyPost_ret (v := .tuple #[.agg #[.int .i64 2, .int .i64 k, .int .i64 0, .int .i64 0, .string ⟨#[]⟩, .slice none 0 0], _]) (by simp [results, Tryz.results90, go_sem, z1] <;> rfl) rfl ⟨2, k, 0, 0, ⟨#[]⟩, none, 0, _, _, _, rfl, (mis_zero y).one _, kept_six HA.out.k⟩

set_option maxHeartbeats 2000000 in
theorem attr_range (rb : Nat) (ws : List Wd.Word) (p : Nat) (e : Int) (w : World) (hg : Ps.Goods ws) (h : Rdr w rb ws p e) (k a b : Int) (h1 : Ps.num ws p 4 = some k) (h2 : Ps.isMark ws (p + 1) 58 = true) (h3 : Ps.num ws (p + 1 + 1) 100 = some a) (h4 : Ps.isMark ws (p + 1 + 1 + 1) 45 = true) (h5 : Ps.num ws (p + 1 + 1 + 1 + 1) 100 = some b) (h6 : a ≤ b) : Calls Tryz.prog 90 #[.pointer (some ⟨rb, 0, none⟩)] w (PR rb ws e (some (.leaf 3 k a b ⟨#[]⟩, p + 1 + 1 + 1 + 1 + 1)) w) := by
  have hlt := h.lt
  have h0 : Rdr (w.alloc (.cells #[.int .i64 0, .int .i64 0, .int .i64 0, .int .i64 0, .string ⟨#[]⟩, .slice none 0 0] 53)) rb ws p e := h.below ((Below.refl _ w).alloc hlt _)
  have c1 := number_yes rb ws p e k 0 3 _ h0 h1 (Ps.num_some hg h1).2.1
  have c2 := fun w' (h' : Rdr w' rb ws (p + 1) e) => has82 rb ws (p + 1) e 58 ⟨#[58]⟩ rfl w' h'
  rw [isM_eq, h2] at c2
  simp only [if_true] at c2
  have c3 := fun w' (h' : Rdr w' rb ws (p + 1 + 1) e) => ends_yes rb ws (p + 1 + 1) e w' hg h' a b h3 h4 h5 h6
  clear h1 h2 h3 h4 h5 h6 hg h0
  unfold PR
  go_enter Tryz.func90, Tryz.ntmps90
  go_wp2_with fail
  refine c1.mono ?_
  rintro r w1 ⟨rfl, hr1, hk1⟩
  clear c1
  have c2 := c2 w1 hr1
  have HA1 : Hid (At w rb w1) := (At.start w rb).step hlt hk1
  clear hr1 hk1
  go_wp2_with fail
  refine c2.mono ?_
  rintro r w2 ⟨rfl, hr2, hk2⟩
  clear c2
  have HA2 : Hid (At w rb w2) := HA1.out.step hlt hk2
  clear hk2 HA1
  have c3 := c3 w2 hr2
  clear hr2
  go_wp2_with fail
  refine c3.mono ?_
  rintro r w3 ⟨rfl, hr3, hk3⟩
  clear c3
  have HA : Hid (At w rb w3) := HA2.out.step hlt hk3
  have HR : Hid (Rdr w3 rb ws (p + 1 + 1 + 1 + 1 + 1) e) := hr3
  clear hk3 hr3 HA2
  go_wp2_with fail
  refine (within_none _ _).mono ?_
  rintro r w5 ⟨rfl, rfl⟩
  have z1 := HA.out.z
  have f1 := HA.out.f
  have s1 := HA.out.s
  go_wp2
  refine bodyPost_ret (v := .tuple #[.agg #[.int .i64 3, .int .i64 k, .int .i64 a, .int .i64 b, .string ⟨#[]⟩, .slice none 0 0], .nilIface]) (by simp [results, Tryz.results90, go_sem, z1]) rfl ⟨3, k, a, b, ⟨#[]⟩, none, 0, rfl, ⟨rfl, rfl, rfl, rfl, rfl, rfl, rfl⟩, HR.out.below (below_six hlt), kept_six HA.out.k⟩

set_option maxHeartbeats 2000000 in
theorem attr_range_no (rb : Nat) (ws : List Wd.Word) (p : Nat) (e : Int) (w : World) (hg : Ps.Goods ws) (h : Rdr w rb ws p e) (k : Int) (h1 : Ps.num ws p 4 = some k) (h2 : Ps.isMark ws (p + 1) 58 = true) (c3 : ∀ w, Rdr w rb ws (p + 1 + 1) e → Calls Tryz.prog 100 #[.pointer (some ⟨rb, 0, none⟩)] w fun r w' => ∃ (x y : Int) (m : Nat) (T : TypeId) (v : Value), r = .returned (.tuple #[.int .i64 x, .int .i64 y, .iface T v]) ∧ Mis m (.iface T v) ∧ Kept (But rb) w w') : Calls Tryz.prog 90 #[.pointer (some ⟨rb, 0, none⟩)] w (PR rb ws e none w) := by
  have hlt := h.lt
  have h0 : Rdr (w.alloc (.cells #[.int .i64 0, .int .i64 0, .int .i64 0, .int .i64 0, .string ⟨#[]⟩, .slice none 0 0] 53)) rb ws p e := h.below ((Below.refl _ w).alloc hlt _)
  have c1 := number_yes rb ws p e k 0 3 _ h0 h1 (Ps.num_some hg h1).2.1
  have c2 := fun w' (h' : Rdr w' rb ws (p + 1) e) => has82 rb ws (p + 1) e 58 ⟨#[58]⟩ rfl w' h'
  rw [isM_eq, h2] at c2
  simp only [if_true] at c2
  clear h1 h2 hg h0
  unfold PR
  go_enter Tryz.func90, Tryz.ntmps90
  go_wp2_with fail
  refine c1.mono ?_
  rintro r w1 ⟨rfl, hr1, hk1⟩
  clear c1
  have c2 := c2 w1 hr1
  have HA1 : Hid (At w rb w1) := (At.start w rb).step hlt hk1
  clear hr1 hk1
  go_wp2_with fail
  refine c2.mono ?_
  rintro r w2 ⟨rfl, hr2, hk2⟩
  clear c2
  have HA2 : Hid (At w rb w2) := HA1.out.step hlt hk2
  clear hk2 HA1
  have c3 := c3 w2 hr2
  clear hr2
  go_wp2_with fail
  refine c3.mono ?_
  rintro r w3 ⟨x, y, m, T, v, rfl, hm, hk3⟩
  clear c3
  have HA : Hid (At w rb w3) := HA2.out.step hlt hk3
  have HM : Hid (Mis m (.iface T v)) := hm
  clear hk3 HA2 hm
  go_wp2_with fail
  refine (within_one _ _ _ _).mono ?_
  rintro r w5 ⟨rfl, rfl⟩
  have z1 := HA.out.z
  have f1 := HA.out.f
  have s1 := HA.out.s
  go_wp2
  refine bodyPost_ret (v := .tuple #[.agg #[.int .i64 3, .int .i64 k, .int .i64 x, .int .i64 y, .string ⟨#[]⟩, .slice none 0 0], _]) (by simp [results, Tryz.results90, go_sem, z1] <;> rfl) rfl ⟨3, k, x, y, ⟨#[]⟩, none, 0, _, _, _, rfl, HM.out.one _, kept_six HA.out.k⟩

/-- What stands behind @. -/
theorem attribute90 (rb : Nat) (ws : List Wd.Word) (p : Nat) (e : Int) (w : World) (hg : Ps.Goods ws) (h : Rdr w rb ws p e) : Calls Tryz.prog 90 #[.pointer (some ⟨rb, 0, none⟩)] w (PR rb ws e (Ps.key ws p) w) := by
  unfold Ps.key
  cases h1 : Ps.num ws p 4 with
  | none => exact attr_no1 rb ws p e w hg h h1
  | some k =>
    simp only
    by_cases h61 : Ps.isMark ws (p + 1) 61 = true
    · rw [if_pos h61]
      have h58 := Ps.isMark_one (d := 58) h61 (by decide)
      cases h2 : Ps.num ws (p + 2) 100 with
      | none => exact attr_eq_no rb ws p e w hg h k h1 h58 h61 h2
      | some a => exact attr_eq rb ws p e w hg h k a h1 h58 h61 h2
    · rw [if_neg h61]
      have h61' : Ps.isMark ws (p + 1) 61 = false := by simpa using h61
      by_cases h58 : Ps.isMark ws (p + 1) 58 = true
      · rw [if_pos h58]
        cases h2 : Ps.num ws (p + 2) 100 with
        | none => exact attr_range_no rb ws p e w hg h k h1 h58 (fun w' h' => ends_no1 rb ws (p + 1 + 1) e w' hg h' h2)
        | some a =>
          simp only
          by_cases h45 : Ps.isMark ws (p + 3) 45 = true
          · rw [if_pos h45]
            cases h3 : Ps.num ws (p + 4) 100 with
            | none => exact attr_range_no rb ws p e w hg h k h1 h58 (fun w' h' => ends_no3 rb ws (p + 1 + 1) e w' hg h' a h2 h45 (fun b hb => by rw [show p + 1 + 1 + 1 + 1 = p + 4 from rfl, h3] at hb; cases hb))
            | some b =>
              simp only
              by_cases hab : a ≤ b
              · rw [if_pos hab]
                exact attr_range rb ws p e w hg h k a b h1 h58 h2 h45 h3 hab
              · rw [if_neg hab]
                exact attr_range_no rb ws p e w hg h k h1 h58 (fun w' h' => ends_no3 rb ws (p + 1 + 1) e w' hg h' a h2 h45 (fun b' hb => by rw [show p + 1 + 1 + 1 + 1 = p + 4 from rfl, h3] at hb; cases hb; omega))
          · rw [if_neg h45]
            exact attr_range_no rb ws p e w hg h k h1 h58 (fun w' h' => ends_no2 rb ws (p + 1 + 1) e w' hg h' a h2 (by simpa using h45))
      · rw [if_neg h58]
        exact attr_no2 rb ws p e w hg h k h1 (by simpa using h58) h61'

end Go.Proofs.YtdeojcodbojmoaaGreatDoor
