/- stamp.May and seen.checkHead of any stamp and head. -/
import Derived.Test.YtdeojcodbojmoaaGreatDoorIss
import Derived.Test.YtdeojcodbojmoaaGreatDoorMay
import Derived.Test.YtdeojcodbojmoaaGreatDoorVw
import Derived.Deep.RegionHeld3
namespace Go.Proofs.YtdeojcodbojmoaaGreatDoor
open Go.RowKit
set_option maxRecDepth 100000
set_option linter.unusedVariables false

def f1 (n most : Int) : Bool := decide (1 ≤ n) && decide (n ≤ most)
/-- Which stamps may be. -/
def stOk (L R N : Int) : Bool := f1 L 5000 && (f1 R 5 && f1 N (min 1000 L))

set_option maxHeartbeats 1000000 in
theorem from96 (n m : Int) (w : World) : Calls Tryz.prog 96 #[.int .i64 n, .int .i64 m] w fun r w' => r = .returned (.bool (f1 n m)) ∧ w' = w := by
  unfold f1
  by_cases h1 : 1 ≤ n
  · have d1 : decide (1 ≤ n) = true := decide_eq_true h1
    rw [d1]
    go_enter Tryz.func96, Tryz.ntmps96
    go_wp2
    go_ret
    exact ⟨rfl, rfl⟩
  · have d1 : decide (1 ≤ n) = false := decide_eq_false h1
    rw [d1]
    go_enter Tryz.func96, Tryz.ntmps96
    go_wp2
    go_ret
    exact ⟨rfl, rfl⟩

/-- What check tells of a stamp. -/
def SkV (ok : Bool) (ev : Value) : Prop := (ok = true ∧ ev = .nilIface) ∨ (ok = false ∧ ∃ p, ev = .iface 163 (.agg #[.string p]))

set_option maxHeartbeats 2000000 in
theorem check87 (L R N : Int) (w : World) : Calls Tryz.prog 87 #[.agg #[.int .i64 L, .int .i64 R, .int .i64 N]] w fun r w' => (∃ ev, r = .returned ev ∧ SkV (stOk L R N) ev) ∧ Below w.heap.size w w' := by
  unfold stOk
  have c1 := from96 L 5000
  have c2 := from96 R 5
  have c3 := from96 N (min 1000 L)
  cases e1 : f1 L 5000 with
  | false =>
    rw [e1] at c1
    go_enter Tryz.func87, Tryz.ntmps87
    go_wp2_with fail
    refine (c1 _).mono ?_
    rintro r w1 ⟨rfl, rfl⟩
    go_wp2
    go_ret
    exact ⟨⟨_, rfl, .inr ⟨rfl, _, rfl⟩⟩, (Below.refl _ w).alloc (Nat.le_refl _) _⟩
  | true =>
    rw [e1] at c1
    cases e2 : f1 R 5 with
    | false =>
      rw [e2] at c2
      go_enter Tryz.func87, Tryz.ntmps87
      go_wp2_with fail
      refine (c1 _).mono ?_
      rintro r w1 ⟨rfl, rfl⟩
      go_wp2_with fail
      refine (c2 _).mono ?_
      rintro r w1 ⟨rfl, rfl⟩
      go_wp2
      go_ret
      exact ⟨⟨_, rfl, .inr ⟨rfl, _, rfl⟩⟩, (Below.refl _ w).alloc (Nat.le_refl _) _⟩
    | true =>
      rw [e2] at c2
      cases e3 : f1 N (min 1000 L) with
      | false =>
        rw [e3] at c3
        go_enter Tryz.func87, Tryz.ntmps87
        go_wp2_with fail
        refine (c1 _).mono ?_
        rintro r w1 ⟨rfl, rfl⟩
        go_wp2_with fail
        refine (c2 _).mono ?_
        rintro r w1 ⟨rfl, rfl⟩
        go_wp2_with fail
        refine (c3 _).mono ?_
        rintro r w1 ⟨rfl, rfl⟩
        go_wp2
        go_ret
        exact ⟨⟨_, rfl, .inr ⟨rfl, _, rfl⟩⟩, (Below.refl _ w).alloc (Nat.le_refl _) _⟩
      | true =>
        rw [e3] at c3
        go_enter Tryz.func87, Tryz.ntmps87
        go_wp2_with fail
        refine (c1 _).mono ?_
        rintro r w1 ⟨rfl, rfl⟩
        go_wp2_with fail
        refine (c2 _).mono ?_
        rintro r w1 ⟨rfl, rfl⟩
        go_wp2_with fail
        refine (c3 _).mono ?_
        rintro r w1 ⟨rfl, rfl⟩
        go_wp2
        go_ret
        exact ⟨⟨_, rfl, .inl ⟨rfl, rfl⟩⟩, (Below.refl _ w).alloc (Nat.le_refl _) _⟩

end Go.Proofs.YtdeojcodbojmoaaGreatDoor
