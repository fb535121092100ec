/- pars.Parse of any text: whether it is a filter's. -/
import Derived.Test.YtdeojcodbojmoaaGreatDoorPrb
import Derived.Test.YtdeojcodbojmoaaGreatDoorPrc
import Derived.Test.YtdeojcodbojmoaaGreatDoorPrd
import Derived.Test.YtdeojcodbojmoaaGreatDoorPre
namespace Go.Proofs.YtdeojcodbojmoaaGreatDoor
open Go.RowKit
set_option maxRecDepth 100000
set_option linter.unusedVariables false

/-- pars.parse. -/
theorem prs38 (s : ByteArray) (w : World) (he : ErrT w) (hs : s.size ≤ maxLen) : Calls Tryz.prog 38 #[.string s] w (PS (Ps.okP s.data.toList) w) := by
  unfold Ps.okP Ps.whole
  show Calls Tryz.prog 38 #[.string s] w (PS ((Wd.all s.data.toList).2.2 && (match (match Ps.P (Wd.all s.data.toList).1 .or 0 with
    | some (f, q) => if q = (Wd.all s.data.toList).1.length then some f else none
    | none => none) with
    | some f => decide (f.deep ≤ 6)
    | none => false)) w)
  cases ha : (Wd.all s.data.toList).2.2 with
  | false => exact prs_no s w hs ha
  | true =>
    cases hx : Ps.P (Wd.all s.data.toList).1 .or 0 with
    | none => exact prs_bad s w hs ha hx
    | some y =>
      obtain ⟨f, q⟩ := y
      simp only [Bool.true_and]
      by_cases hq : q = (Wd.all s.data.toList).1.length
      · rw [if_pos hq]
        rw [hq] at hx
        simp only
        by_cases hd : f.deep ≤ 6
        · rw [decide_eq_true hd]; exact prs_yes s w f he hs ha hx hd
        · rw [decide_eq_false hd]; exact prs_deep s w f he hs ha hx (by omega)
      · rw [if_neg hq]; exact prs_rest s w f q hs ha hx hq

end Go.Proofs.YtdeojcodbojmoaaGreatDoor
