/- A number is taken byte by byte. No Go, no program. -/
import Derived.Test.YtopkeembbopbmaaDoorPlain
namespace Go.Proofs.YtopkeembbopbmaaDoor

/-- So many bytes are taken, and this is their sum. -/
def Took (l : List Nat) (k acc : Nat) : Prop :=
  acc < 128 ^ k ∧ take5 l = (match tk (5 - k) (decide (0 < k)) (l.drop k) with
    | none => none
    | some (v, n) => some (acc + 128 ^ k * v, n + k))

theorem took_start (l : List Nat) : Took l 0 0 := by
  refine ⟨by decide, ?_⟩
  show tk 5 false l = _
  simp only [List.drop_zero, Nat.sub_zero, Nat.lt_irrefl, decide_false]
  cases tk 5 false l with
  | none => rfl
  | some p => obtain ⟨v, n⟩ := p; simp

theorem drop_cons {l : List Nat} {k b : Nat} (h : l[k]? = some b) : l.drop k = b :: l.drop (k + 1) := by
  obtain ⟨hk, e⟩ := List.getElem?_eq_some_iff.1 h
  rw [List.drop_eq_getElem_cons hk, e]

theorem took_more {l : List Nat} {k acc b : Nat} (h : Took l k acc) (hk : k < 5) (hb : l[k]? = some b) (h1 : 128 ≤ b) (h2 : b < 256) : Took l (k + 1) (acc + 128 ^ k * (b % 128)) := by
  obtain ⟨ha, ht⟩ := h
  refine ⟨?_, ?_⟩
  · have e : 128 ^ k * (b % 128) ≤ 128 ^ k * 127 := Nat.mul_le_mul_left _ (by omega)
    rw [Nat.pow_succ]
    omega
  · rw [ht, drop_cons hb]
    obtain ⟨f, hf⟩ : ∃ f, 5 - k = f + 1 := ⟨4 - k, by omega⟩
    have hf' : 5 - (k + 1) = f := by omega
    rw [hf, hf', tk, if_neg (by omega)]
    have hd : decide (0 < k + 1) = true := by simp
    rw [hd]
    cases tk f true (l.drop (k + 1)) with
    | none => rfl
    | some p =>
      obtain ⟨v, n⟩ := p
      simp only [Option.some.injEq, Prod.mk.injEq]
      refine ⟨?_, by omega⟩
      rw [Nat.pow_succ, Nat.mul_add, Nat.mul_assoc]
      omega

theorem took_end {l : List Nat} {k acc : Nat} (h : Took l k acc) (hk : k = 5 ∨ l.length ≤ k) : take5 l = none := by
  rw [h.2]
  rcases hk with rfl | hk
  · rfl
  · rw [List.drop_of_length_le hk]
    cases 5 - k <;> rfl

theorem took_zero {l : List Nat} {k acc : Nat} (h : Took l k acc) (hk : k < 5) (hb : l[k]? = some 0) (h0 : 0 < k) : take5 l = none := by
  rw [h.2, drop_cons hb]
  obtain ⟨f, hf⟩ : ∃ f, 5 - k = f + 1 := ⟨4 - k, by omega⟩
  rw [hf, tk, if_pos (by omega), if_pos ⟨by simpa using h0, rfl⟩]

theorem took_last {l : List Nat} {k acc b : Nat} (h : Took l k acc) (hk : k < 5) (hb : l[k]? = some b) (h1 : b < 128) (h0 : ¬ (0 < k ∧ b = 0)) : take5 l = some (acc + 128 ^ k * b, k + 1) := by
  rw [h.2, drop_cons hb]
  obtain ⟨f, hf⟩ : ∃ f, 5 - k = f + 1 := ⟨4 - k, by omega⟩
  rw [hf, tk, if_pos h1, if_neg (by simpa using h0)]
  simp only [Nat.add_comm]

theorem take5_le {l : List Nat} (hl : ∀ x ∈ l, x < 256) {v n : Nat} (h : take5 l = some (v, n)) : 1 ≤ n ∧ n ≤ l.length ∧ put v = l.take n ∧ v < 34359738368 ∧ n ≤ 5 := by
  obtain ⟨h1, h2, h3, _, h5, h6⟩ := tk_one 5 false l hl v n h
  exact ⟨h1, h2, h3, h5, h6⟩

end Go.Proofs.YtopkeembbopbmaaDoor
