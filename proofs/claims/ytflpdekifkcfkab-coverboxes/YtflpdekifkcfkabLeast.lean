/- The document's rising row: the least behind the last, again and again. -/
import Derived.Test.YtflpdekifkcfkabRise
import Derived.Sort.Walk0
namespace Go.Proofs.Ytflpdekifkcfkab
namespace Ev

/-- Behind the last of the first m. -/
def behind (r : List (List UInt8)) (m : Nat) (x : List UInt8) : Bool := decide (m = 0) || decide (r.getD (m - 1) [] < x)

/-- The least of those that are behind, so far. -/
def lessO (x : List UInt8) : Option (List UInt8) → Bool
  | none => true
  | some y => decide (x < y)
def stepB (r : List (List UInt8)) (m : Nat) (b : Option (List UInt8)) (x : List UInt8) : Option (List UInt8) :=
  if (behind r m x && lessO x b) = true then some x else b

def best (r : List (List UInt8)) (m : Nat) (l : List (List UInt8)) : Option (List UInt8) := l.foldl (stepB r m) none

theorem step_first {r : List (List UInt8)} {m : Nat} {x : List UInt8} (h : behind r m x = true) : stepB r m none x = some x := by simp [stepB, h, lessO]
theorem step_less {r : List (List UInt8)} {m : Nat} {x y : List UInt8} (h : behind r m x = true) (hl : x < y) : stepB r m (some y) x = some x := by simp [stepB, h, lessO, hl]
theorem step_more {r : List (List UInt8)} {m : Nat} {x y : List UInt8} (h : behind r m x = true) (hl : ¬ x < y) : stepB r m (some y) x = some y := by
  show (if (behind r m x && decide (x < y)) = true then some x else some y) = some y
  rw [h, decide_eq_false hl]; rfl
theorem step_not {r : List (List UInt8)} {m : Nat} {x : List UInt8} {b : Option (List UInt8)} (h : behind r m x = false) : stepB r m b x = b := by simp [stepB, h]

theorem best_snoc (r : List (List UInt8)) (m : Nat) (l : List (List UInt8)) (x : List UInt8) : best r m (l ++ [x]) = stepB r m (best r m l) x := by
  unfold best; rw [List.foldl_append]; rfl

theorem best_take (r : List (List UInt8)) (m : Nat) (l : List (List UInt8)) (i : Nat) (h : i < l.length) : best r m (l.take (i + 1)) = stepB r m (best r m (l.take i)) l[i] := by
  rw [List.take_succ_eq_append_getElem h, best_snoc]

theorem best_said (r : List (List UInt8)) (m : Nat) (l : List (List UInt8)) :
    (best r m l = none → ∀ x ∈ l, behind r m x = false) ∧ ∀ y, best r m l = some y → y ∈ l ∧ behind r m y = true ∧ ∀ x ∈ l, behind r m x = true → y ≤ x := by
  suffices h : ∀ (l p : List (List UInt8)) (b : Option (List UInt8)), ((b = none → ∀ x ∈ p, behind r m x = false) ∧ ∀ y, b = some y → y ∈ p ∧ behind r m y = true ∧ ∀ x ∈ p, behind r m x = true → y ≤ x) →
      ((l.foldl (stepB r m) b = none → ∀ x ∈ p ++ l, behind r m x = false) ∧ ∀ y, l.foldl (stepB r m) b = some y → y ∈ p ++ l ∧ behind r m y = true ∧ ∀ x ∈ p ++ l, behind r m x = true → y ≤ x) by
    have := h l [] none ⟨fun _ x hx => (by cases hx), fun y hy => (by cases hy)⟩
    simpa [best] using this
  intro l
  induction l with
  | nil => intro p b hb; simpa using hb
  | cons a t ih =>
    intro p b hb
    have := ih (p ++ [a]) (stepB r m b a) ?_
    · simpa using this
    · unfold stepB
      by_cases hc : (behind r m a && lessO a b) = true
      · rw [if_pos hc]
        rw [Bool.and_eq_true] at hc
        refine ⟨fun h => (by cases h), fun y hy => ?_⟩
        cases hy
        refine ⟨by simp, hc.1, fun x hx hbx => ?_⟩
        rw [List.mem_append, List.mem_singleton] at hx
        rcases hx with hx | rfl
        · cases b with
          | none => rw [hb.1 rfl x hx] at hbx; cases hbx
          | some z =>
            have h1 := (hb.2 z rfl).2.2 x hx hbx
            have h2 : a < z := of_decide_eq_true hc.2
            exact Std.le_of_lt (lt_of_lt_le' h2 h1)
        · exact le_refl' _
      · rw [if_neg hc]
        refine ⟨fun h x hx => ?_, fun y hy => ?_⟩
        · subst h
          rw [List.mem_append, List.mem_singleton] at hx
          rcases hx with hx | rfl
          · exact hb.1 rfl x hx
          · simpa [lessO] using hc
        · subst hy
          obtain ⟨h1, h2, h3⟩ := hb.2 y rfl
          refine ⟨by simp [h1], h2, fun x hx hbx => ?_⟩
          rw [List.mem_append, List.mem_singleton] at hx
          rcases hx with hx | rfl
          · exact h3 x hx hbx
          · rw [hbx] at hc
            simp [lessO] at hc
            exact hc
where
  lt_of_lt_le' {a b c : List UInt8} (h : a < b) (k : b ≤ c) : a < c := by
    rcases Std.le_iff_lt_or_eq.1 k with k | k
    · exact List.lt_trans h k
    · exact k ▸ h

theorem up_get {r : List (List UInt8)} (h : Up r) {i j : Nat} (hi : i < r.length) (hj : j < r.length) (hij : i < j) : r[i] < r[j] := (List.pairwise_iff_getElem.1 h) i j hi hj hij

theorem behind_get {r : List (List UInt8)} (h : Up r) {m j : Nat} (hm : m ≤ r.length) (hj : j < r.length) : behind r m r[j] = decide (m ≤ j) := by
  unfold behind
  by_cases h0 : m = 0
  · subst h0; simp
  · have hm1 : m - 1 < r.length := by omega
    have e : r.getD (m - 1) [] = r[m - 1] := by rw [List.getD_eq_getElem?_getD, List.getElem?_eq_getElem hm1]; rfl
    rw [e]
    by_cases hle : m ≤ j
    · rw [decide_eq_true hle, decide_eq_true (up_get h hm1 hj (by omega))]; simp
    · rw [decide_eq_false hle, decide_eq_false h0]
      have : ¬ r[m - 1] < r[j] := by
        by_cases e : j = m - 1
        · subst e; exact List.lt_irrefl _
        · exact fun hh => List.lt_irrefl _ (List.lt_trans hh (up_get h hj hm1 (by omega)))
      rw [decide_eq_false this]; rfl

/-- The next one. -/
theorem best_next (l : List (List UInt8)) (m : Nat) (hm : m ≤ (rise l).length) : best (rise l) m l = (rise l)[m]? := by
  have hu := up_rise l
  obtain ⟨s1, s2⟩ := best_said (rise l) m l
  by_cases hlt : m < (rise l).length
  · rw [List.getElem?_eq_getElem hlt]
    have hb : behind (rise l) m (rise l)[m] = true := by rw [behind_get hu hm hlt]; simp
    have hmem : (rise l)[m] ∈ l := (mem_rise _ _).1 (List.getElem_mem hlt)
    cases hbest : best (rise l) m l with
    | none => rw [s1 hbest _ hmem] at hb; cases hb
    | some y =>
      obtain ⟨y1, y2, y3⟩ := s2 y hbest
      have hle := y3 _ hmem hb
      obtain ⟨j, hj, rfl⟩ := List.getElem_of_mem ((mem_rise y l).2 y1)
      rw [behind_get hu hm hj] at y2
      have hmj : m ≤ j := of_decide_eq_true y2
      by_cases e : j = m
      · subst e; rfl
      · exact absurd (up_get hu hlt hj (by omega)) (List.not_lt.2 hle)
  · rw [List.getElem?_eq_none (by omega)]
    cases hbest : best (rise l) m l with
    | none => rfl
    | some y =>
      obtain ⟨y1, y2, _⟩ := s2 y hbest
      obtain ⟨j, hj, rfl⟩ := List.getElem_of_mem ((mem_rise y l).2 y1)
      rw [behind_get hu hm hj] at y2
      have := of_decide_eq_true y2
      omega

end Ev
end Go.Proofs.Ytflpdekifkcfkab
