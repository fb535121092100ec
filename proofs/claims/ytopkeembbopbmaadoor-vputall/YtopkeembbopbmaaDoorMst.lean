/- cardamomref1.MayStamp of any stamp. -/
import Derived.Test.YtopkeembbopbmaaDoorVn
namespace Go.Proofs.YtopkeembbopbmaaDoor
open Go.RowKit
set_option maxRecDepth 100000
set_option linter.unusedVariables false

theorem stOk_iff (L R N : Int) : stOk L R N = true ↔ (1 ≤ L ∧ L ≤ 5000 ∧ 1 ≤ R ∧ R ≤ 5 ∧ 1 ≤ N ∧ N ≤ 1000 ∧ N ≤ L) := by
  simp [stOk, f1]
  omega

set_option maxHeartbeats 4000000 in
/-- cardamomref1.MayStamp. -/
theorem mst41 (L R N : Int) (w : World) : Calls Tryd.prog 41 #[.agg #[.int .i64 L, .int .i64 R, .int .i64 N]] w fun r w' => r = .returned (.bool (stOk L R N)) ∧ Below w.heap.size w w' := by
  by_cases g0 : 1 ≤ L
  · have d0 : decide (1 ≤ L) = true := decide_eq_true g0
    by_cases g1 : L ≤ 5000
    · have d1 : decide (L ≤ 5000) = true := decide_eq_true g1
      by_cases g2 : 1 ≤ R
      · have d2 : decide (1 ≤ R) = true := decide_eq_true g2
        by_cases g3 : R ≤ 5
        · have d3 : decide (R ≤ 5) = true := decide_eq_true g3
          by_cases g4 : 1 ≤ N
          · have d4 : decide (1 ≤ N) = true := decide_eq_true g4
            by_cases g5 : N ≤ 1000
            · have d5 : decide (N ≤ 1000) = true := decide_eq_true g5
              by_cases g6 : N ≤ L
              · have d6 : decide (N ≤ L) = true := decide_eq_true g6
                have HE : Hid (stOk L R N = true) := (stOk_iff L R N).2 ⟨g0, g1, g2, g3, g4, g5, g6⟩
                clear g0 g1 g2 g3 g4 g5 g6
                go_enter Tryd.func41, Tryd.ntmps41
                go_wp2
                go_ret
                exact ⟨by rw [HE.out]; rfl, (Below.refl _ w).alloc (Nat.le_refl _) _⟩
              · have d6 : decide (N ≤ L) = false := decide_eq_false g6
                have hs : stOk L R N = false := by
                  cases e : stOk L R N with
                  | false => rfl
                  | true => exact absurd ((stOk_iff L R N).1 e).2.2.2.2.2.2 g6
                have HE : Hid (stOk L R N = false) := hs
                clear hs g0 g1 g2 g3 g4 g5 g6
                go_enter Tryd.func41, Tryd.ntmps41
                go_wp2
                go_ret
                exact ⟨by rw [HE.out]; rfl, (Below.refl _ w).alloc (Nat.le_refl _) _⟩
            · have d5 : decide (N ≤ 1000) = false := decide_eq_false g5
              have hs : stOk L R N = false := by
                cases e : stOk L R N with
                | false => rfl
                | true => exact absurd ((stOk_iff L R N).1 e).2.2.2.2.2.1 g5
              have HE : Hid (stOk L R N = false) := hs
              clear hs g0 g1 g2 g3 g4 g5
              go_enter Tryd.func41, Tryd.ntmps41
              go_wp2
              go_ret
              exact ⟨by rw [HE.out]; rfl, (Below.refl _ w).alloc (Nat.le_refl _) _⟩
          · have d4 : decide (1 ≤ N) = false := decide_eq_false g4
            have hs : stOk L R N = false := by
              cases e : stOk L R N with
              | false => rfl
              | true => exact absurd ((stOk_iff L R N).1 e).2.2.2.2.1 g4
            have HE : Hid (stOk L R N = false) := hs
            clear hs g0 g1 g2 g3 g4
            go_enter Tryd.func41, Tryd.ntmps41
            go_wp2
            go_ret
            exact ⟨by rw [HE.out]; rfl, (Below.refl _ w).alloc (Nat.le_refl _) _⟩
        · have d3 : decide (R ≤ 5) = false := decide_eq_false g3
          have hs : stOk L R N = false := by
            cases e : stOk L R N with
            | false => rfl
            | true => exact absurd ((stOk_iff L R N).1 e).2.2.2.1 g3
          have HE : Hid (stOk L R N = false) := hs
          clear hs g0 g1 g2 g3
          go_enter Tryd.func41, Tryd.ntmps41
          go_wp2
          go_ret
          exact ⟨by rw [HE.out]; rfl, (Below.refl _ w).alloc (Nat.le_refl _) _⟩
      · have d2 : decide (1 ≤ R) = false := decide_eq_false g2
        have hs : stOk L R N = false := by
          cases e : stOk L R N with
          | false => rfl
          | true => exact absurd ((stOk_iff L R N).1 e).2.2.1 g2
        have HE : Hid (stOk L R N = false) := hs
        clear hs g0 g1 g2
        go_enter Tryd.func41, Tryd.ntmps41
        go_wp2
        go_ret
        exact ⟨by rw [HE.out]; rfl, (Below.refl _ w).alloc (Nat.le_refl _) _⟩
    · have d1 : decide (L ≤ 5000) = false := decide_eq_false g1
      have hs : stOk L R N = false := by
        cases e : stOk L R N with
        | false => rfl
        | true => exact absurd ((stOk_iff L R N).1 e).2.1 g1
      have HE : Hid (stOk L R N = false) := hs
      clear hs g0 g1
      go_enter Tryd.func41, Tryd.ntmps41
      go_wp2
      go_ret
      exact ⟨by rw [HE.out]; rfl, (Below.refl _ w).alloc (Nat.le_refl _) _⟩
  · have d0 : decide (1 ≤ L) = false := decide_eq_false g0
    have hs : stOk L R N = false := by
      cases e : stOk L R N with
      | false => rfl
      | true => exact absurd ((stOk_iff L R N).1 e).1 g0
    have HE : Hid (stOk L R N = false) := hs
    clear hs g0
    go_enter Tryd.func41, Tryd.ntmps41
    go_wp2
    go_ret
    exact ⟨by rw [HE.out]; rfl, (Below.refl _ w).alloc (Nat.le_refl _) _⟩

end Go.Proofs.YtopkeembbopbmaaDoor
