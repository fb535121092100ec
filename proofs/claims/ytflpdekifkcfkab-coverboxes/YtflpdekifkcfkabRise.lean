/- Sorted, then compacted: the rising row. -/
import Derived.Test.YtflpdekifkcfkabBrow
import Derived.Lib.SlicesCompact
namespace Go.Proofs.Ytflpdekifkcfkab
namespace Ev
open Go.Lib

theorem le_trans' {a b c : List UInt8} (h : a ≤ b) (k : b ≤ c) : a ≤ c := List.le_trans h k
theorem lt_of_le_ne {a b : List UInt8} (h : a ≤ b) (k : a ≠ b) : a < b := by
  rcases Std.le_iff_lt_or_eq.1 h with h | h
  · exact h
  · exact absurd h k
theorem lt_of_le_lt {a b c : List UInt8} (h : a ≤ b) (k : b < c) : a < c := by
  rcases Std.le_iff_lt_or_eq.1 h with h | h
  · exact List.lt_trans h k
  · exact h ▸ k
theorem le_refl' (a : List UInt8) : a ≤ a := List.not_lt.1 (List.lt_irrefl a)

theorem comp_said (d : Array (List UInt8)) (hd : ∀ j, j + 1 < d.size → d[j]! ≤ d[j + 1]!) : ∀ m, m ≤ d.size →
    Up (compactUpTo d m) ∧ (0 < m → ∀ x ∈ compactUpTo d m, x ≤ d[m - 1]!) ∧ ∀ x, x ∈ compactUpTo d m ↔ ∃ j, j < m ∧ d[j]! = x := by
  intro m
  induction m with
  | zero => intro _; exact ⟨by simp [compactUpTo, Up], by simp, by simp [compactUpTo]⟩
  | succ m ih =>
    intro hm
    obtain ⟨h1, h2, h3⟩ := ih (by omega)
    rw [compactUpTo_succ]
    by_cases hk : keeps d m = true
    · rw [if_pos hk]
      refine ⟨?_, fun _ x hx => ?_, fun x => ?_⟩
      · unfold Up at *
        refine List.pairwise_append.2 ⟨h1, List.pairwise_singleton _ _, fun a ha b hb => ?_⟩
        rw [List.mem_singleton] at hb
        subst hb
        have hm0 : 0 < m := by
          cases m with
          | zero => simp [compactUpTo] at ha
          | succ m => omega
        have hne : d[m]! ≠ d[m - 1]! := by
          have := of_decide_eq_true hk
          rcases this with h | h
          · omega
          · exact h
        have hle := hd (m - 1) (by omega)
        rw [show m - 1 + 1 = m by omega] at hle
        exact lt_of_le_lt (h2 hm0 a ha) (lt_of_le_ne hle (fun e => hne e.symm))
      · rw [List.mem_append, List.mem_singleton] at hx
        rw [show m + 1 - 1 = m by omega]
        rcases hx with hx | rfl
        · have hm0 : 0 < m := by
            cases m with
            | zero => simp [compactUpTo] at hx
            | succ m => omega
          have hle := hd (m - 1) (by omega)
          rw [show m - 1 + 1 = m by omega] at hle
          exact le_trans' (h2 hm0 x hx) hle
        · exact le_refl' _
      · rw [List.mem_append, List.mem_singleton, h3]
        constructor
        · rintro (⟨j, hj, e⟩ | rfl)
          · exact ⟨j, by omega, e⟩
          · exact ⟨m, by omega, rfl⟩
        · rintro ⟨j, hj, e⟩
          by_cases hjm : j = m
          · subst hjm; exact .inr e.symm
          · exact .inl ⟨j, by omega, e⟩
    · rw [if_neg hk, List.append_nil]
      have hk' : ¬ (m = 0 ∨ d[m]! ≠ d[m - 1]!) := fun h => hk (decide_eq_true h)
      have hm0 : 0 < m := by
        cases m with
        | zero => exact absurd (.inl rfl) hk'
        | succ m => omega
      have he : d[m]! = d[m - 1]! := Classical.byContradiction fun h => hk' (.inr h)
      refine ⟨h1, fun _ x hx => ?_, fun x => ?_⟩
      · rw [show m + 1 - 1 = m by omega, he]; exact h2 hm0 x hx
      · rw [h3]
        constructor
        · rintro ⟨j, hj, e⟩; exact ⟨j, by omega, e⟩
        · rintro ⟨j, hj, e⟩
          by_cases hjm : j = m
          · subst hjm; exact ⟨j - 1, by omega, by rw [← he]; exact e⟩
          · exact ⟨j, by omega, e⟩

/-- Sorted, then compacted. -/
theorem compact_sorted (l : List (List UInt8)) : compact (l.mergeSort fun x y => decide (x ≤ y)) = rise l := by
  have hs : (l.mergeSort fun x y => decide (x ≤ y)).Pairwise (fun a b => decide (a ≤ b) = true) :=
    List.pairwise_mergeSort (le := fun x y => decide (x ≤ y)) (fun a b c h k => decide_eq_true (le_trans' (of_decide_eq_true h) (of_decide_eq_true k))) (fun a b => by
      rcases List.le_total a b with h | h
      · simp [decide_eq_true h]
      · simp [decide_eq_true h]) l
  have hmem : ∀ x, x ∈ (l.mergeSort fun x y => decide (x ≤ y)) ↔ x ∈ l := fun x => List.mem_mergeSort
  generalize (l.mergeSort fun x y => decide (x ≤ y)) = s at *
  have hd : ∀ j, j + 1 < s.toArray.size → s.toArray[j]! ≤ s.toArray[j + 1]! := by
    intro j hj
    have hj' : j + 1 < s.length := by simpa using hj
    rw [getElem!_pos s.toArray j (by omega), getElem!_pos s.toArray (j + 1) hj]
    have := (List.pairwise_iff_getElem.1 hs) j (j + 1) (by omega) hj' (by omega)
    simpa using this
  obtain ⟨h1, _, h3⟩ := comp_said s.toArray hd s.length (by simp)
  refine up_one _ _ h1 (up_rise l) (fun x => ?_)
  rw [mem_rise, ← hmem]
  unfold compact
  rw [h3]
  constructor
  · rintro ⟨j, hj, rfl⟩
    rw [getElem!_pos s.toArray j (by simpa using hj)]
    simp
  · intro hx
    obtain ⟨j, hj, e⟩ := List.getElem_of_mem hx
    exact ⟨j, hj, by rw [getElem!_pos s.toArray j (by simpa using hj)]; simpa using e⟩

end Ev
end Go.Proofs.Ytflpdekifkcfkab
