/- pars.Parse of the text that is one star. -/
import Derived.Test.YtdeojcodbojmoaaGreatDoorRdr
namespace Go.Proofs.YtdeojcodbojmoaaGreatDoor
open Go.RowKit
set_option maxRecDepth 100000
set_option linter.unusedVariables false

/-- What reading leaves behind. -/
def WR (rb : Nat) (ws : List Wd.Word) (i : Nat) (e : Int) (w w' : World) : Prop := Rdr w' rb ws i e ∧ Kept (But rb) w w'

theorem WR.setCell {rb : Nat} {ws : List Wd.Word} {i : Nat} {e : Int} {w w' : World} (h : WR rb ws i e w w') (hlt : rb < w.heap.size) (o : Nat) (u : Value) : WR rb ws i e w (w'.setCell ⟨w.heap.size, o, none⟩ u) :=
  ⟨h.1.below ((Below.refl _ w').setCell (by show rb + 1 ≤ w.heap.size; omega) _), h.2.setCell (p := ⟨w.heap.size, o, none⟩) (fun k hk _ => by show k ≠ w.heap.size; omega) _⟩

theorem WR.six {rb : Nat} {ws : List Wd.Word} {i : Nat} {e : Int} {w w' : World} (h : WR rb ws i e w w') (hlt : rb < w.heap.size) {u0 u1 u2 u3 u4 u5 : Value} : WR rb ws i e w ((((((w'.setCell ⟨w.heap.size, 0, none⟩ u0).setCell ⟨w.heap.size, 1, none⟩ u1).setCell ⟨w.heap.size, 2, none⟩ u2).setCell ⟨w.heap.size, 3, none⟩ u3).setCell ⟨w.heap.size, 4, none⟩ u4).setCell ⟨w.heap.size, 5, none⟩ u5) :=
  (((((h.setCell hlt 0 u0).setCell hlt 1 u1).setCell hlt 2 u2).setCell hlt 3 u3).setCell hlt 4 u4).setCell hlt 5 u5

set_option maxHeartbeats 1000000 in
theorem single_star (rb : Nat) (ws : List Wd.Word) (i : Nat) (e : Int) (w : World) (h : Rdr w rb ws i e) (hm : isM ws i 42 = true) :
    Calls Tryz.prog 83 #[.pointer (some ⟨rb, 0, none⟩)] w fun r w' => r = .returned (.tuple #[.agg #[.int .i64 1, .int .i64 0, .int .i64 0, .int .i64 0, .string ⟨#[]⟩, .slice none 0 0], .nilIface]) ∧ WR rb ws (i + 1) e w w' := by
  have hlt := h.lt
  have c1 := has82 rb ws i e 42 ⟨#[42]⟩ rfl (w.alloc (.cells #[.int .i64 0, .int .i64 0, .int .i64 0, .int .i64 0, .string ⟨#[]⟩, .slice none 0 0] 53)) (h.below ((Below.refl _ w).alloc hlt _))
  rw [hm] at c1
  go_enter Tryz.func83, Tryz.ntmps83
  go_wp2_with fail
  refine c1.mono ?_
  rintro r w1 ⟨rfl, hr1, hk1⟩
  clear c1
  have hs1 : w.heap.size < w1.heap.size := by have := hk1.size; simp at this; omega
  have z1 : ∀ o, w1.cell? ⟨w.heap.size, o, none⟩ = (#[.int .i64 0, .int .i64 0, .int .i64 0, .int .i64 0, .string ⟨#[]⟩, .slice none 0 0] : Array Value)[o]? := fun o => by rw [hk1.cell (by simp) (by unfold But; omega)]; simp
  have f1 : ∀ o, w1.frozen? ⟨w.heap.size, o, none⟩ = false := fun o => by rw [hk1.frozen (by simp) (by unfold But; omega)]; simp
  have HK : Hid (WR rb ws (i + 1) e w w1) := ⟨hr1, ((Kept.refl (But rb) w).alloc _).trans hk1⟩
  clear hr1 hk1
  go_wp2
  refine bodyPost_ret (v := .tuple #[.agg #[.int .i64 1, .int .i64 0, .int .i64 0, .int .i64 0, .string ⟨#[]⟩, .slice none 0 0], .nilIface]) (by simp [results, Tryz.results83, go_sem, z1]) rfl ⟨rfl, ?_⟩
  exact HK.out.six hlt

set_option maxHeartbeats 2000000 in
/-- One part, and no mark behind it. -/
theorem row_one83 (rb : Nat) (ws : List Wd.Word) (i i' : Nat) (e : Int) (op : Int) (c : UInt8) (s : ByteArray) (hs : s.data.toList = [c]) (w : World) (hr : Rdr w rb ws i e) (hm : isM ws i' c = false)
    (cp : ∀ w', Rdr w' rb ws i e → Calls Tryz.prog 83 #[.pointer (some ⟨rb, 0, none⟩)] w' fun r w'' => r = .returned (.tuple #[.agg #[.int .i64 1, .int .i64 0, .int .i64 0, .int .i64 0, .string ⟨#[]⟩, .slice none 0 0], .nilIface]) ∧ WR rb ws i' e w' w'') :
    Calls Tryz.prog 67 #[.pointer (some ⟨rb, 0, none⟩), .int .i64 op, .string s, .func (.func 83) #[.pointer (some ⟨rb, 0, none⟩)] #[]] w fun r w' => r = .returned (.tuple #[.agg #[.int .i64 1, .int .i64 0, .int .i64 0, .int .i64 0, .string ⟨#[]⟩, .slice none 0 0], .nilIface]) ∧ WR rb ws i' e w w' := by
  have hlt := hr.lt
  have c1 := cp (w.alloc (.cells #[.int .i64 0, .int .i64 0, .int .i64 0, .int .i64 0, .string ⟨#[]⟩, .slice none 0 0] 53)) (hr.below ((Below.refl _ w).alloc hlt _))
  go_enter Tryz.func67, Tryz.ntmps67
  go_wp2_with fail
  refine c1.mono ?_
  rintro r w1 ⟨rfl, hw1⟩
  clear c1 cp
  have hs1 : w.heap.size < w1.heap.size := by have := hw1.2.size; simp at this; omega
  have z1 : ∀ o, w1.cell? ⟨w.heap.size, o, none⟩ = (#[.int .i64 0, .int .i64 0, .int .i64 0, .int .i64 0, .string ⟨#[]⟩, .slice none 0 0] : Array Value)[o]? := fun o => by rw [hw1.2.cell (by simp) (by unfold But; omega)]; simp
  have f1 : ∀ o, w1.frozen? ⟨w.heap.size, o, none⟩ = false := fun o => by rw [hw1.2.frozen (by simp) (by unfold But; omega)]; simp
  have hr1 : Rdr w1 rb ws i' e := hw1.1
  have c2 := has82 rb ws i' e c s hs (w1.alloc (.cells #[.int .i64 1, .int .i64 0, .int .i64 0, .int .i64 0, .string ⟨#[]⟩, .slice none 0 0] 53)) (hr1.below ((Below.refl _ w1).alloc hr1.lt _))
  rw [hm] at c2
  have HK : Hid (WR rb ws i' e w w1) := ⟨hr1, ((Kept.refl (But rb) w).alloc _).trans hw1.2⟩
  clear hr1 hw1
  go_wp2_with fail
  refine wp_loop_rounds 1 ?_
  rw [rounds_succ]
  go_wp2_with fail
  refine c2.mono ?_
  rintro r w2 ⟨rfl, hr2, hk2⟩
  clear c2
  have hs2 : w1.heap.size < w2.heap.size := by have := hk2.size; simp at this; omega
  have hlt1 : rb < w1.heap.size := by omega
  have z2 : ∀ o, w2.cell? ⟨w.heap.size, o, none⟩ = (#[.int .i64 0, .int .i64 0, .int .i64 0, .int .i64 0, .string ⟨#[]⟩, .slice none 0 0] : Array Value)[o]? := fun o => by rw [hk2.cell (by simp; omega) (by unfold But; omega), World.cell?_alloc_past _ _ _ (hn := hs1)]; exact z1 o
  have f2 : ∀ o, w2.frozen? ⟨w.heap.size, o, none⟩ = false := fun o => by rw [hk2.frozen (by simp; omega) (by unfold But; omega), World.frozen?_alloc_past _ _ _ (hn := hs1)]; exact f1 o
  have y2 : ∀ o, w2.cell? ⟨w1.heap.size, o, none⟩ = (#[.int .i64 1, .int .i64 0, .int .i64 0, .int .i64 0, .string ⟨#[]⟩, .slice none 0 0] : Array Value)[o]? := fun o => by rw [hk2.cell (by simp) (by unfold But; omega)]; simp
  have HK2 : Hid (WR rb ws i' e w w2) := ⟨hr2, HK.out.2.trans (((Kept.refl (But rb) w1).alloc _).trans hk2)⟩
  clear hr2 hk2 z1 f1 HK
  have hne : w.heap.size ≠ w1.heap.size := by omega
  have hne' : w1.heap.size ≠ w.heap.size := by omega
  go_wp2
  refine bodyPost_ret (v := .tuple #[.agg #[.int .i64 1, .int .i64 0, .int .i64 0, .int .i64 0, .string ⟨#[]⟩, .slice none 0 0], .nilIface]) (by simp [results, Tryz.results67, go_sem, z2]) rfl ⟨rfl, ?_⟩
  exact HK2.out.six hlt

set_option maxHeartbeats 2000000 in
/-- One part, and no mark behind it. -/
theorem row_one68 (rb : Nat) (ws : List Wd.Word) (i i' : Nat) (e : Int) (op : Int) (c : UInt8) (s : ByteArray) (hs : s.data.toList = [c]) (w : World) (hr : Rdr w rb ws i e) (hm : isM ws i' c = false)
    (cp : ∀ w', Rdr w' rb ws i e → Calls Tryz.prog 68 #[.pointer (some ⟨rb, 0, none⟩)] w' fun r w'' => r = .returned (.tuple #[.agg #[.int .i64 1, .int .i64 0, .int .i64 0, .int .i64 0, .string ⟨#[]⟩, .slice none 0 0], .nilIface]) ∧ WR rb ws i' e w' w'') :
    Calls Tryz.prog 67 #[.pointer (some ⟨rb, 0, none⟩), .int .i64 op, .string s, .func (.func 68) #[.pointer (some ⟨rb, 0, none⟩)] #[]] w fun r w' => r = .returned (.tuple #[.agg #[.int .i64 1, .int .i64 0, .int .i64 0, .int .i64 0, .string ⟨#[]⟩, .slice none 0 0], .nilIface]) ∧ WR rb ws i' e w w' := by
  have hlt := hr.lt
  have c1 := cp (w.alloc (.cells #[.int .i64 0, .int .i64 0, .int .i64 0, .int .i64 0, .string ⟨#[]⟩, .slice none 0 0] 53)) (hr.below ((Below.refl _ w).alloc hlt _))
  go_enter Tryz.func67, Tryz.ntmps67
  go_wp2_with fail
  refine c1.mono ?_
  rintro r w1 ⟨rfl, hw1⟩
  clear c1 cp
  have hs1 : w.heap.size < w1.heap.size := by have := hw1.2.size; simp at this; omega
  have z1 : ∀ o, w1.cell? ⟨w.heap.size, o, none⟩ = (#[.int .i64 0, .int .i64 0, .int .i64 0, .int .i64 0, .string ⟨#[]⟩, .slice none 0 0] : Array Value)[o]? := fun o => by rw [hw1.2.cell (by simp) (by unfold But; omega)]; simp
  have f1 : ∀ o, w1.frozen? ⟨w.heap.size, o, none⟩ = false := fun o => by rw [hw1.2.frozen (by simp) (by unfold But; omega)]; simp
  have hr1 : Rdr w1 rb ws i' e := hw1.1
  have c2 := has82 rb ws i' e c s hs (w1.alloc (.cells #[.int .i64 1, .int .i64 0, .int .i64 0, .int .i64 0, .string ⟨#[]⟩, .slice none 0 0] 53)) (hr1.below ((Below.refl _ w1).alloc hr1.lt _))
  rw [hm] at c2
  have HK : Hid (WR rb ws i' e w w1) := ⟨hr1, ((Kept.refl (But rb) w).alloc _).trans hw1.2⟩
  clear hr1 hw1
  go_wp2_with fail
  refine wp_loop_rounds 1 ?_
  rw [rounds_succ]
  go_wp2_with fail
  refine c2.mono ?_
  rintro r w2 ⟨rfl, hr2, hk2⟩
  clear c2
  have hs2 : w1.heap.size < w2.heap.size := by have := hk2.size; simp at this; omega
  have hlt1 : rb < w1.heap.size := by omega
  have z2 : ∀ o, w2.cell? ⟨w.heap.size, o, none⟩ = (#[.int .i64 0, .int .i64 0, .int .i64 0, .int .i64 0, .string ⟨#[]⟩, .slice none 0 0] : Array Value)[o]? := fun o => by rw [hk2.cell (by simp; omega) (by unfold But; omega), World.cell?_alloc_past _ _ _ (hn := hs1)]; exact z1 o
  have f2 : ∀ o, w2.frozen? ⟨w.heap.size, o, none⟩ = false := fun o => by rw [hk2.frozen (by simp; omega) (by unfold But; omega), World.frozen?_alloc_past _ _ _ (hn := hs1)]; exact f1 o
  have y2 : ∀ o, w2.cell? ⟨w1.heap.size, o, none⟩ = (#[.int .i64 1, .int .i64 0, .int .i64 0, .int .i64 0, .string ⟨#[]⟩, .slice none 0 0] : Array Value)[o]? := fun o => by rw [hk2.cell (by simp) (by unfold But; omega)]; simp
  have HK2 : Hid (WR rb ws i' e w w2) := ⟨hr2, HK.out.2.trans (((Kept.refl (But rb) w1).alloc _).trans hk2)⟩
  clear hr2 hk2 z1 f1 HK
  have hne : w.heap.size ≠ w1.heap.size := by omega
  have hne' : w1.heap.size ≠ w.heap.size := by omega
  go_wp2
  refine bodyPost_ret (v := .tuple #[.agg #[.int .i64 1, .int .i64 0, .int .i64 0, .int .i64 0, .string ⟨#[]⟩, .slice none 0 0], .nilIface]) (by simp [results, Tryz.results67, go_sem, z2]) rfl ⟨rfl, ?_⟩
  exact HK2.out.six hlt

set_option maxHeartbeats 1000000 in
theorem allOf_one (rb : Nat) (ws : List Wd.Word) (i : Nat) (e : Int) (w : World) (h : Rdr w rb ws i e)  (hm2 : isM ws (i + 1) 38 = false)
    (cp : ∀ w', Rdr w' rb ws i e → Calls Tryz.prog 83 #[.pointer (some ⟨rb, 0, none⟩)] w' fun r w'' => r = .returned (.tuple #[.agg #[.int .i64 1, .int .i64 0, .int .i64 0, .int .i64 0, .string ⟨#[]⟩, .slice none 0 0], .nilIface]) ∧ WR rb ws (i + 1) e w' w'') :
    Calls Tryz.prog 68 #[.pointer (some ⟨rb, 0, none⟩)] w fun r w' => r = .returned (.tuple #[.agg #[.int .i64 1, .int .i64 0, .int .i64 0, .int .i64 0, .string ⟨#[]⟩, .slice none 0 0], .nilIface]) ∧ WR rb ws (i + 1) e w w' := by
  have hlt := h.lt
  have c1 := row_one83 rb ws i (i + 1) e 5 38 ⟨#[38]⟩ rfl (w.alloc (.cells #[.int .i64 0, .int .i64 0, .int .i64 0, .int .i64 0, .string ⟨#[]⟩, .slice none 0 0] 53)) (h.below ((Below.refl _ w).alloc hlt _)) hm2 cp
  clear cp
  go_enter Tryz.func68, Tryz.ntmps68
  go_wp2_with fail
  refine c1.mono ?_
  rintro r w1 ⟨rfl, hw1⟩
  clear c1
  have hs1 : w.heap.size < w1.heap.size := by have := hw1.2.size; simp at this; omega
  have z1 : ∀ o, w1.cell? ⟨w.heap.size, o, none⟩ = (#[.int .i64 0, .int .i64 0, .int .i64 0, .int .i64 0, .string ⟨#[]⟩, .slice none 0 0] : Array Value)[o]? := fun o => by rw [hw1.2.cell (by simp) (by unfold But; omega)]; simp
  have f1 : ∀ o, w1.frozen? ⟨w.heap.size, o, none⟩ = false := fun o => by rw [hw1.2.frozen (by simp) (by unfold But; omega)]; simp
  have HK : Hid (WR rb ws (i + 1) e w w1) := ⟨hw1.1, ((Kept.refl (But rb) w).alloc _).trans hw1.2⟩
  clear hw1
  go_wp2
  refine bodyPost_ret (v := .tuple #[.agg #[.int .i64 1, .int .i64 0, .int .i64 0, .int .i64 0, .string ⟨#[]⟩, .slice none 0 0], .nilIface]) (by simp [results, Tryz.results68, go_sem, z1]) rfl ⟨rfl, ?_⟩
  exact HK.out.six hlt

set_option maxHeartbeats 1000000 in
theorem filter_one (rb : Nat) (ws : List Wd.Word) (i : Nat) (e : Int) (w : World) (h : Rdr w rb ws i e)  (hm2 : isM ws (i + 1) 124 = false)
    (cp : ∀ w', Rdr w' rb ws i e → Calls Tryz.prog 68 #[.pointer (some ⟨rb, 0, none⟩)] w' fun r w'' => r = .returned (.tuple #[.agg #[.int .i64 1, .int .i64 0, .int .i64 0, .int .i64 0, .string ⟨#[]⟩, .slice none 0 0], .nilIface]) ∧ WR rb ws (i + 1) e w' w'') :
    Calls Tryz.prog 52 #[.pointer (some ⟨rb, 0, none⟩)] w fun r w' => r = .returned (.tuple #[.agg #[.int .i64 1, .int .i64 0, .int .i64 0, .int .i64 0, .string ⟨#[]⟩, .slice none 0 0], .nilIface]) ∧ WR rb ws (i + 1) e w w' := by
  have hlt := h.lt
  have c1 := row_one68 rb ws i (i + 1) e 6 124 ⟨#[124]⟩ rfl (w.alloc (.cells #[.int .i64 0, .int .i64 0, .int .i64 0, .int .i64 0, .string ⟨#[]⟩, .slice none 0 0] 53)) (h.below ((Below.refl _ w).alloc hlt _)) hm2 cp
  clear cp
  go_enter Tryz.func52, Tryz.ntmps52
  go_wp2_with fail
  refine c1.mono ?_
  rintro r w1 ⟨rfl, hw1⟩
  clear c1
  have hs1 : w.heap.size < w1.heap.size := by have := hw1.2.size; simp at this; omega
  have z1 : ∀ o, w1.cell? ⟨w.heap.size, o, none⟩ = (#[.int .i64 0, .int .i64 0, .int .i64 0, .int .i64 0, .string ⟨#[]⟩, .slice none 0 0] : Array Value)[o]? := fun o => by rw [hw1.2.cell (by simp) (by unfold But; omega)]; simp
  have f1 : ∀ o, w1.frozen? ⟨w.heap.size, o, none⟩ = false := fun o => by rw [hw1.2.frozen (by simp) (by unfold But; omega)]; simp
  have HK : Hid (WR rb ws (i + 1) e w w1) := ⟨hw1.1, ((Kept.refl (But rb) w).alloc _).trans hw1.2⟩
  clear hw1
  go_wp2
  refine bodyPost_ret (v := .tuple #[.agg #[.int .i64 1, .int .i64 0, .int .i64 0, .int .i64 0, .string ⟨#[]⟩, .slice none 0 0], .nilIface]) (by simp [results, Tryz.results52, go_sem, z1]) rfl ⟨rfl, ?_⟩
  exact HK.out.six hlt

end Go.Proofs.YtdeojcodbojmoaaGreatDoor
