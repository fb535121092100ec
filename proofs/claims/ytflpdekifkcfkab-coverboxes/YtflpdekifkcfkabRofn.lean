/- cardamomref4.of where one part has too many boxes. -/
import Derived.Test.YtflpdekifkcfkabRof
namespace Go.Proofs.Ytflpdekifkcfkab
open Go.RowKit
set_option linter.unusedVariables false

set_option maxRecDepth 100000 in
set_option maxHeartbeats 4000000 in
theorem rof_none1 (op : Int) (hop : 5 ≤ op ∧ op ≤ 6) (turned : Bool) (w : World) (b : Nat) (o1 k1 l1 h1 : Int) (t1 : ByteArray) (x1 : Option Addr) (n1 : Nat) (s : Six w b 0 o1 k1 l1 h1 t1 x1 n1) (o2 k2 l2 h2 : Int) (t2 : ByteArray) (x2 : Option Addr) (n2 : Nat) (s' : Six w b 6 o2 k2 l2 h2 t2 x2 n2)
    (ra rb : Option (List Ev.Bx)) (hp : ra.isSome = false) (hq : rb.isSome = false)
    (c1 : ∀ w', Below w.heap.size w w' → Calls Try.prog 28 #[.agg #[.int .i64 o1, .int .i64 k1, .int .i64 l1, .int .i64 h1, .string t1, .slice x1 n1 n1], .bool turned] w' (RPost w' ra))
    (c2 : ∀ w', Below w.heap.size w w' → Calls Try.prog 28 #[.agg #[.int .i64 o2, .int .i64 k2, .int .i64 l2, .int .i64 h2, .string t2, .slice x2 n2 n2], .bool turned] w' (RPost w' rb)) :
    Calls Try.prog 28 #[.agg #[.int .i64 op, .int .i64 0, .int .i64 0, .int .i64 0, .string ⟨#[]⟩, .slice (some ⟨b, 0, none⟩) 2 2], .bool turned] w (RPost w none) := by
  have hb0 := s.lt
  obtain ⟨q0, q1, q2, q3, q4, q5⟩ := s
  obtain ⟨u0, u1, u2, u3, u4, u5⟩ := s'
  simp only [Nat.zero_add] at q1 q2 q3 q4 q5
  have e1 : (op == 1) = false := beq_eq_false_iff_ne.2 (by omega)
  have e2 : (op == 2) = false := beq_eq_false_iff_ne.2 (by omega)
  have e3 : (op == 3) = false := beq_eq_false_iff_ne.2 (by omega)
  have e4 : (op == 4) = false := beq_eq_false_iff_ne.2 (by omega)
  have e7 : (op == 7) = false := beq_eq_false_iff_ne.2 (by omega)
  unfold RPost at c1 c2 ⊢
  simp only [hp] at c1
  simp only [hq] at c2
  clear hp hq
  generalize ra.getD [] = la at *
  generalize rb.getD [] = lb at *
  go_enter Try.func28, Try.ntmps28
  go_wp2_with fail
  obtain ⟨W, hW⟩ : ∃ W, W = (w.alloc (.cells #[.int .i64 op, .int .i64 0, .int .i64 0, .int .i64 0, .string ⟨#[]⟩, .slice (some ⟨b, 0, none⟩) 2 2] 26)).alloc (.cells #[.int .i64 0, .int .i64 0, .int .i64 0, .int .i64 0, .int .i64 0, .int .i64 0, .int .i64 0, .int .i64 0, .int .i64 0, .int .i64 0, .int .i64 0, .int .i64 0, .string ⟨#[]⟩, .slice none 0 0] 40) := ⟨_, rfl⟩
  rw [← hW]
  have hbW : Below w.heap.size w W := by rw [hW]; exact ((Below.refl _ _).alloc (Nat.le_refl _) _).alloc (by simp) _
  have fc : ∀ i, W.cell? ⟨w.heap.size, i, none⟩ = (#[.int .i64 op, .int .i64 0, .int .i64 0, .int .i64 0, .string ⟨#[]⟩, .slice (some ⟨b, 0, none⟩) 2 2] : Array Value)[i]? := fun i => by rw [hW, World.cell?_alloc_past _ _ _ (hn := by simp)]; simp
  have hsW : w.heap.size < W.heap.size := by rw [hW]; simp; omega
  clear hW
  refine (c1 _ hbW).mono ?_
  rintro e w1 ⟨v1, rfl, r1, hb1⟩
  obtain ⟨a1, z1, rfl⟩ := r1.slice
  have hbw1 : Below w.heap.size w w1 := hbW.trans (hb1.mono hbW.size)
  have hcl : ∀ i, w1.cell? ⟨b, i, none⟩ = w.cell? ⟨b, i, none⟩ := fun i => hbw1.cell hb0
  have fc1 : ∀ i, w1.cell? ⟨w.heap.size, i, none⟩ = (#[.int .i64 op, .int .i64 0, .int .i64 0, .int .i64 0, .string ⟨#[]⟩, .slice (some ⟨b, 0, none⟩) 2 2] : Array Value)[i]? := fun i => (hb1.cell (p := ⟨w.heap.size, i, none⟩) hsW).trans (fc i)
  have hs1 : w.heap.size < w1.heap.size := Nat.lt_of_lt_of_le hsW hb1.size
  clear fc hb1 c1
  go_wp2_with fail
  refine (c2 _ hbw1).mono ?_
  rintro e w2 ⟨v2, rfl, r2, hb2⟩
  obtain ⟨a2, z2, rfl⟩ := r2.slice
  have hbw2 : Below w.heap.size w w2 := hbw1.trans (hb2.mono hbw1.size)
  clear fc1 hb2 c2 hcl r1 r2 q0 q1 q2 q3 q4 q5 u0 u1 u2 u3 u4 u5 hbW hbw1
  go_wp2
  go_ret2
  exact ⟨_, rfl, RowB.nil _ _, hbw2⟩

set_option maxRecDepth 100000 in
set_option maxHeartbeats 4000000 in
theorem rof_none2 (op : Int) (hop : 5 ≤ op ∧ op ≤ 6) (turned : Bool) (w : World) (b : Nat) (o1 k1 l1 h1 : Int) (t1 : ByteArray) (x1 : Option Addr) (n1 : Nat) (s : Six w b 0 o1 k1 l1 h1 t1 x1 n1) (o2 k2 l2 h2 : Int) (t2 : ByteArray) (x2 : Option Addr) (n2 : Nat) (s' : Six w b 6 o2 k2 l2 h2 t2 x2 n2)
    (ra rb : Option (List Ev.Bx)) (hp : ra.isSome = false) (hq : rb.isSome = true)
    (c1 : ∀ w', Below w.heap.size w w' → Calls Try.prog 28 #[.agg #[.int .i64 o1, .int .i64 k1, .int .i64 l1, .int .i64 h1, .string t1, .slice x1 n1 n1], .bool turned] w' (RPost w' ra))
    (c2 : ∀ w', Below w.heap.size w w' → Calls Try.prog 28 #[.agg #[.int .i64 o2, .int .i64 k2, .int .i64 l2, .int .i64 h2, .string t2, .slice x2 n2 n2], .bool turned] w' (RPost w' rb)) :
    Calls Try.prog 28 #[.agg #[.int .i64 op, .int .i64 0, .int .i64 0, .int .i64 0, .string ⟨#[]⟩, .slice (some ⟨b, 0, none⟩) 2 2], .bool turned] w (RPost w none) := by
  have hb0 := s.lt
  obtain ⟨q0, q1, q2, q3, q4, q5⟩ := s
  obtain ⟨u0, u1, u2, u3, u4, u5⟩ := s'
  simp only [Nat.zero_add] at q1 q2 q3 q4 q5
  have e1 : (op == 1) = false := beq_eq_false_iff_ne.2 (by omega)
  have e2 : (op == 2) = false := beq_eq_false_iff_ne.2 (by omega)
  have e3 : (op == 3) = false := beq_eq_false_iff_ne.2 (by omega)
  have e4 : (op == 4) = false := beq_eq_false_iff_ne.2 (by omega)
  have e7 : (op == 7) = false := beq_eq_false_iff_ne.2 (by omega)
  unfold RPost at c1 c2 ⊢
  simp only [hp] at c1
  simp only [hq] at c2
  clear hp hq
  generalize ra.getD [] = la at *
  generalize rb.getD [] = lb at *
  go_enter Try.func28, Try.ntmps28
  go_wp2_with fail
  obtain ⟨W, hW⟩ : ∃ W, W = (w.alloc (.cells #[.int .i64 op, .int .i64 0, .int .i64 0, .int .i64 0, .string ⟨#[]⟩, .slice (some ⟨b, 0, none⟩) 2 2] 26)).alloc (.cells #[.int .i64 0, .int .i64 0, .int .i64 0, .int .i64 0, .int .i64 0, .int .i64 0, .int .i64 0, .int .i64 0, .int .i64 0, .int .i64 0, .int .i64 0, .int .i64 0, .string ⟨#[]⟩, .slice none 0 0] 40) := ⟨_, rfl⟩
  rw [← hW]
  have hbW : Below w.heap.size w W := by rw [hW]; exact ((Below.refl _ _).alloc (Nat.le_refl _) _).alloc (by simp) _
  have fc : ∀ i, W.cell? ⟨w.heap.size, i, none⟩ = (#[.int .i64 op, .int .i64 0, .int .i64 0, .int .i64 0, .string ⟨#[]⟩, .slice (some ⟨b, 0, none⟩) 2 2] : Array Value)[i]? := fun i => by rw [hW, World.cell?_alloc_past _ _ _ (hn := by simp)]; simp
  have hsW : w.heap.size < W.heap.size := by rw [hW]; simp; omega
  clear hW
  refine (c1 _ hbW).mono ?_
  rintro e w1 ⟨v1, rfl, r1, hb1⟩
  obtain ⟨a1, z1, rfl⟩ := r1.slice
  have hbw1 : Below w.heap.size w w1 := hbW.trans (hb1.mono hbW.size)
  have hcl : ∀ i, w1.cell? ⟨b, i, none⟩ = w.cell? ⟨b, i, none⟩ := fun i => hbw1.cell hb0
  have fc1 : ∀ i, w1.cell? ⟨w.heap.size, i, none⟩ = (#[.int .i64 op, .int .i64 0, .int .i64 0, .int .i64 0, .string ⟨#[]⟩, .slice (some ⟨b, 0, none⟩) 2 2] : Array Value)[i]? := fun i => (hb1.cell (p := ⟨w.heap.size, i, none⟩) hsW).trans (fc i)
  have hs1 : w.heap.size < w1.heap.size := Nat.lt_of_lt_of_le hsW hb1.size
  clear fc hb1 c1
  go_wp2_with fail
  refine (c2 _ hbw1).mono ?_
  rintro e w2 ⟨v2, rfl, r2, hb2⟩
  obtain ⟨a2, z2, rfl⟩ := r2.slice
  have hbw2 : Below w.heap.size w w2 := hbw1.trans (hb2.mono hbw1.size)
  clear fc1 hb2 c2 hcl r1 r2 q0 q1 q2 q3 q4 q5 u0 u1 u2 u3 u4 u5 hbW hbw1
  go_wp2
  go_ret2
  exact ⟨_, rfl, RowB.nil _ _, hbw2⟩

set_option maxRecDepth 100000 in
set_option maxHeartbeats 4000000 in
theorem rof_none3 (op : Int) (hop : 5 ≤ op ∧ op ≤ 6) (turned : Bool) (w : World) (b : Nat) (o1 k1 l1 h1 : Int) (t1 : ByteArray) (x1 : Option Addr) (n1 : Nat) (s : Six w b 0 o1 k1 l1 h1 t1 x1 n1) (o2 k2 l2 h2 : Int) (t2 : ByteArray) (x2 : Option Addr) (n2 : Nat) (s' : Six w b 6 o2 k2 l2 h2 t2 x2 n2)
    (ra rb : Option (List Ev.Bx)) (hp : ra.isSome = true) (hq : rb.isSome = false)
    (c1 : ∀ w', Below w.heap.size w w' → Calls Try.prog 28 #[.agg #[.int .i64 o1, .int .i64 k1, .int .i64 l1, .int .i64 h1, .string t1, .slice x1 n1 n1], .bool turned] w' (RPost w' ra))
    (c2 : ∀ w', Below w.heap.size w w' → Calls Try.prog 28 #[.agg #[.int .i64 o2, .int .i64 k2, .int .i64 l2, .int .i64 h2, .string t2, .slice x2 n2 n2], .bool turned] w' (RPost w' rb)) :
    Calls Try.prog 28 #[.agg #[.int .i64 op, .int .i64 0, .int .i64 0, .int .i64 0, .string ⟨#[]⟩, .slice (some ⟨b, 0, none⟩) 2 2], .bool turned] w (RPost w none) := by
  have hb0 := s.lt
  obtain ⟨q0, q1, q2, q3, q4, q5⟩ := s
  obtain ⟨u0, u1, u2, u3, u4, u5⟩ := s'
  simp only [Nat.zero_add] at q1 q2 q3 q4 q5
  have e1 : (op == 1) = false := beq_eq_false_iff_ne.2 (by omega)
  have e2 : (op == 2) = false := beq_eq_false_iff_ne.2 (by omega)
  have e3 : (op == 3) = false := beq_eq_false_iff_ne.2 (by omega)
  have e4 : (op == 4) = false := beq_eq_false_iff_ne.2 (by omega)
  have e7 : (op == 7) = false := beq_eq_false_iff_ne.2 (by omega)
  unfold RPost at c1 c2 ⊢
  simp only [hp] at c1
  simp only [hq] at c2
  clear hp hq
  generalize ra.getD [] = la at *
  generalize rb.getD [] = lb at *
  go_enter Try.func28, Try.ntmps28
  go_wp2_with fail
  obtain ⟨W, hW⟩ : ∃ W, W = (w.alloc (.cells #[.int .i64 op, .int .i64 0, .int .i64 0, .int .i64 0, .string ⟨#[]⟩, .slice (some ⟨b, 0, none⟩) 2 2] 26)).alloc (.cells #[.int .i64 0, .int .i64 0, .int .i64 0, .int .i64 0, .int .i64 0, .int .i64 0, .int .i64 0, .int .i64 0, .int .i64 0, .int .i64 0, .int .i64 0, .int .i64 0, .string ⟨#[]⟩, .slice none 0 0] 40) := ⟨_, rfl⟩
  rw [← hW]
  have hbW : Below w.heap.size w W := by rw [hW]; exact ((Below.refl _ _).alloc (Nat.le_refl _) _).alloc (by simp) _
  have fc : ∀ i, W.cell? ⟨w.heap.size, i, none⟩ = (#[.int .i64 op, .int .i64 0, .int .i64 0, .int .i64 0, .string ⟨#[]⟩, .slice (some ⟨b, 0, none⟩) 2 2] : Array Value)[i]? := fun i => by rw [hW, World.cell?_alloc_past _ _ _ (hn := by simp)]; simp
  have hsW : w.heap.size < W.heap.size := by rw [hW]; simp; omega
  clear hW
  refine (c1 _ hbW).mono ?_
  rintro e w1 ⟨v1, rfl, r1, hb1⟩
  obtain ⟨a1, z1, rfl⟩ := r1.slice
  have hbw1 : Below w.heap.size w w1 := hbW.trans (hb1.mono hbW.size)
  have hcl : ∀ i, w1.cell? ⟨b, i, none⟩ = w.cell? ⟨b, i, none⟩ := fun i => hbw1.cell hb0
  have fc1 : ∀ i, w1.cell? ⟨w.heap.size, i, none⟩ = (#[.int .i64 op, .int .i64 0, .int .i64 0, .int .i64 0, .string ⟨#[]⟩, .slice (some ⟨b, 0, none⟩) 2 2] : Array Value)[i]? := fun i => (hb1.cell (p := ⟨w.heap.size, i, none⟩) hsW).trans (fc i)
  have hs1 : w.heap.size < w1.heap.size := Nat.lt_of_lt_of_le hsW hb1.size
  clear fc hb1 c1
  go_wp2_with fail
  refine (c2 _ hbw1).mono ?_
  rintro e w2 ⟨v2, rfl, r2, hb2⟩
  obtain ⟨a2, z2, rfl⟩ := r2.slice
  have hbw2 : Below w.heap.size w w2 := hbw1.trans (hb2.mono hbw1.size)
  clear fc1 hb2 c2 hcl r1 r2 q0 q1 q2 q3 q4 q5 u0 u1 u2 u3 u4 u5 hbW hbw1
  go_wp2
  go_ret2
  exact ⟨_, rfl, RowB.nil _ _, hbw2⟩

end Go.Proofs.Ytflpdekifkcfkab
