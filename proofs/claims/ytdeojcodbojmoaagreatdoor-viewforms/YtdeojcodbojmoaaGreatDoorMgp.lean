/- Rows of the same replicas, merged: plain mathematics. -/
import Derived.Test.YtdeojcodbojmoaaGreatDoorVw
namespace Go.Proofs.YtdeojcodbojmoaaGreatDoor
set_option linter.unusedVariables false

theorem pick_self (x : Vw) : pick x x = x := by unfold pick; split <;> rfl
theorem pick_R {x y : Vw} (h : x.R = y.R) : (pick x y).R = x.R := by unfold pick; split <;> simp_all
theorem pick_back (x y : Vw) : pick (pick x y) x = pick x y := by
  unfold pick
  by_cases h : y.Rev ≤ x.Rev
  · rw [if_pos h]; rw [if_pos (Int.le_refl _)]
  · rw [if_neg h, if_pos (by omega)]

theorem zip_self (l : List Vw) : List.zipWith pick l l = l := by
  induction l with
  | nil => rfl
  | cons x l ih => rw [List.zipWith_cons_cons, pick_self, ih]

theorem zip_R (a b : List Vw) (h : a.map (·.R) = b.map (·.R)) : (List.zipWith pick a b).map (·.R) = a.map (·.R) := by
  induction a generalizing b with
  | nil => cases b <;> rfl
  | cons x a ih => cases b with
    | nil => simp at h
    | cons y b =>
      simp only [List.map_cons, List.cons.injEq] at h
      rw [List.zipWith_cons_cons, List.map_cons, List.map_cons, pick_R h.1, ih b h.2]

theorem zip_back (a b : List Vw) (h : a.length = b.length) : List.zipWith pick (List.zipWith pick a b) a = List.zipWith pick a b := by
  induction a generalizing b with
  | nil => cases b <;> rfl
  | cons x a ih => cases b with
    | nil => simp at h
    | cons y b =>
      simp only [List.length_cons, Nat.add_right_cancel_iff] at h
      rw [List.zipWith_cons_cons, List.zipWith_cons_cons, pick_back, ih b h]

theorem zip_len (a b : List Vw) (h : a.length = b.length) : (List.zipWith pick a b).length = a.length := by simp [h]

theorem mg_self (l : List Vw) : mg l l = l := by rw [mg_zip l l rfl, zip_self]
theorem mg_back (a b : List Vw) (h : a.map (·.R) = b.map (·.R)) : mg (List.zipWith pick a b) a = List.zipWith pick a b := by
  have hl : a.length = b.length := by have := congrArg List.length h; simpa using this
  rw [mg_zip _ _ (zip_R a b h), zip_back a b hl]

end Go.Proofs.YtdeojcodbojmoaaGreatDoor
