/- Numbers by sevens of bits, and what a row of bytes begins with. No Go, no program. -/
namespace Go.Proofs.YtopkeembbopbmaaDoor
/-- A number by sevens of bits, the lowest first, each but the last with 128 added. -/
def put (v : Nat) : List Nat := if h : v < 128 then [v] else (v % 128 + 128) :: put (v / 128)
termination_by v
decreasing_by omega

theorem put_small (v : Nat) (h : v < 128) : put v = [v] := by rw [put, dif_pos h]
theorem put_great (v : Nat) (h : ¬ v < 128) : put v = (v % 128 + 128) :: put (v / 128) := by rw [put, dif_neg h]

theorem put_ne (v : Nat) : 0 < (put v).length := by
  by_cases h : v < 128
  · rw [put_small v h]; simp
  · rw [put_great v h]; simp

theorem put_byte (v : Nat) : ∀ x ∈ put v, x < 256 := by
  induction v using put.induct with
  | case1 v h => rw [put_small v h]; intro x hx; simp at hx; omega
  | case2 v h ih =>
    rw [put_great v h]; intro x hx
    rcases List.mem_cons.mp hx with rfl | hx
    · omega
    · exact ih x hx

theorem put_len (k v : Nat) (h : v < 128 ^ (k + 1)) : (put v).length ≤ k + 1 := by
  induction k generalizing v with
  | zero => rw [put_small v (by simpa using h)]; simp
  | succ k ih =>
    by_cases hv : v < 128
    · rw [put_small v hv]; simp
    · rw [put_great v hv]
      have : v / 128 < 128 ^ (k + 1) := by
        rw [Nat.pow_succ] at h
        exact Nat.div_lt_of_lt_mul (by rw [Nat.mul_comm]; exact h)
      have := ih _ this
      simp; omega

/-- What a row of bytes begins with: the number, and how many bytes it has; at most so many bytes; 'on': there was one ahead of it. -/
def tk : Nat → Bool → List Nat → Option (Nat × Nat)
  | 0, _, _ => none
  | _ + 1, _, [] => none
  | k + 1, on, b :: l =>
    if b < 128 then (if on = true ∧ b = 0 then none else some (b, 1))
    else match tk k true l with
      | none => none
      | some (v, n) => some (b % 128 + 128 * v, n + 1)

def take5 (l : List Nat) : Option (Nat × Nat) := tk 5 false l

/-- What is put is taken, whatever stands behind it. -/
theorem tk_put (k : Nat) (on : Bool) (v : Nat) (l : List Nat) (h : v < 128 ^ (k + 1)) (hv : on = true → 0 < v) :
    tk (k + 1) on (put v ++ l) = some (v, (put v).length) := by
  induction k generalizing v on with
  | zero =>
    have h' : v < 128 := by simpa using h
    rw [put_small v h']
    show (if v < 128 then (if on = true ∧ v = 0 then none else some (v, 1)) else _) = _
    rw [if_pos h', if_neg (by rintro ⟨a, b⟩; have := hv a; omega)]; rfl
  | succ k ih =>
    by_cases h' : v < 128
    · rw [put_small v h']
      show (if v < 128 then (if on = true ∧ v = 0 then none else some (v, 1)) else _) = _
      rw [if_pos h', if_neg (by rintro ⟨a, b⟩; have := hv a; omega)]; rfl
    · rw [put_great v h']
      have h2 : v / 128 < 128 ^ (k + 1) := by
        rw [Nat.pow_succ] at h
        exact Nat.div_lt_of_lt_mul (by rw [Nat.mul_comm]; exact h)
      show (if v % 128 + 128 < 128 then _ else (match tk (k + 1) true (put (v / 128) ++ l) with
        | none => none
        | some (w, n) => some ((v % 128 + 128) % 128 + 128 * w, n + 1))) = _
      rw [if_neg (by omega), ih true (v / 128) h2 (by intro; omega)]
      have e : (v % 128 + 128) % 128 + 128 * (v / 128) = v := by omega
      simp only [e, List.length_cons]

/-- Cut off it is none. -/
theorem tk_cut (k : Nat) (on : Bool) (v m : Nat) (h : m < (put v).length) : tk k on ((put v).take m) = none := by
  induction k generalizing v on m with
  | zero => rfl
  | succ k ih =>
    cases m with
    | zero => rfl
    | succ m =>
      by_cases h' : v < 128
      · rw [put_small v h'] at h; simp at h
      · rw [put_great v h'] at h ⊢
        rw [List.take_succ_cons]
        show (if v % 128 + 128 < 128 then _ else (match tk k true ((put (v / 128)).take m) with
          | none => none
          | some (w, n) => some ((v % 128 + 128) % 128 + 128 * w, n + 1))) = _
        rw [if_neg (by omega), ih true (v / 128) m (by simpa using h)]

/-- Bytes that are a number are that number's. -/
theorem tk_one (k : Nat) (on : Bool) (l : List Nat) (hl : ∀ x ∈ l, x < 256) (v n : Nat) (h : tk k on l = some (v, n)) :
    1 ≤ n ∧ n ≤ l.length ∧ put v = l.take n ∧ (on = true → 0 < v) ∧ v < 128 ^ k ∧ n ≤ k := by
  induction k generalizing l on v n with
  | zero => cases h
  | succ k ih =>
    cases l with
    | nil => cases h
    | cons b l =>
      have hb : b < 256 := hl b (by simp)
      rw [tk] at h
      by_cases h1 : b < 128
      · rw [if_pos h1] at h
        by_cases h2 : on = true ∧ b = 0
        · rw [if_pos h2] at h; cases h
        · rw [if_neg h2] at h
          obtain ⟨e1, e2⟩ := Prod.mk.inj (Option.some.inj h)
          subst e2; rw [← e1]
          refine ⟨by omega, by simp, ?_, ?_, ?_, by omega⟩
          · rw [put_small b h1]; rfl
          · intro ho; exact Nat.pos_of_ne_zero (fun hz => h2 ⟨ho, hz⟩)
          · exact Nat.lt_of_lt_of_le h1 (by rw [Nat.pow_succ]; exact Nat.le_mul_of_pos_left 128 (Nat.pow_pos (by omega)))
      · rw [if_neg h1] at h
        cases h3 : tk k true l with
        | none => rw [h3] at h; cases h
        | some p =>
          obtain ⟨w, q⟩ := p
          rw [h3] at h
          cases h
          obtain ⟨i1, i2, i3, i4, i5, i6⟩ := ih true l (fun x hx => hl x (by simp [hx])) w q h3
          have hw : 0 < w := i4 rfl
          refine ⟨by omega, by simp; omega, ?_, by intro; omega, ?_, by omega⟩
          · rw [put_great _ (by omega), List.take_succ_cons]
            rw [show (b % 128 + 128 * w) / 128 = w by omega, show (b % 128 + 128 * w) % 128 + 128 = b by omega, i3]
          · rw [Nat.pow_succ]; omega
end Go.Proofs.YtopkeembbopbmaaDoor
