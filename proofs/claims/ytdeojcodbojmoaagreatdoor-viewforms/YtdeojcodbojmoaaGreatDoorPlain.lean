/- The plain mathematics of a filter's text in words: no Go, no program. -/
namespace Go.Proofs.YtdeojcodbojmoaaGreatDoor.Wd

/-- How many bytes from lo to hi a text begins with. -/
def cnt (lo hi : Int) : List UInt8 → Nat
  | [] => 0
  | c :: r => if lo ≤ (c.toNat : Int) ∧ (c.toNat : Int) ≤ hi then cnt lo hi r + 1 else 0

theorem cnt_le (lo hi : Int) (l : List UInt8) : cnt lo hi l ≤ l.length := by
  induction l with
  | nil => simp [cnt]
  | cons c r ih => unfold cnt; split <;> simp <;> omega

/-- Where the first k bytes are such, and the next one, if there is one, is not: k. -/
theorem cnt_eq (lo hi : Int) (l : List UInt8) (k : Nat) (hk : k ≤ l.length)
    (hall : ∀ j (h : j < l.length), j < k → lo ≤ (l[j].toNat : Int) ∧ (l[j].toNat : Int) ≤ hi)
    (hstop : ∀ h : k < l.length, ¬ (lo ≤ (l[k].toNat : Int) ∧ (l[k].toNat : Int) ≤ hi)) : cnt lo hi l = k := by
  induction l generalizing k with
  | nil => simp at hk; subst hk; rfl
  | cons c r ih =>
    cases k with
    | zero =>
      have := hstop (by simp)
      simp at this
      unfold cnt
      rw [if_neg (by simpa using this)]
    | succ k =>
      have h0 := hall 0 (by simp) (by omega)
      simp at h0
      unfold cnt
      rw [if_pos h0]
      rw [ih k (by simpa using hk) (fun j h hj => by have := hall (j + 1) (by simpa using h) (by omega); simpa using this) (fun h => by have := hstop (by simpa using h); simpa using this)]

theorem cnt_all (lo hi : Int) (l : List UInt8) (j : Nat) (h : j < l.length) (hj : j < cnt lo hi l) : lo ≤ (l[j].toNat : Int) ∧ (l[j].toNat : Int) ≤ hi := by
  induction l generalizing j with
  | nil => simp at h
  | cons c r ih =>
    unfold cnt at hj
    split at hj
    · cases j with
      | zero => simpa using by assumption
      | succ j => simpa using ih j (by simpa using h) (by omega)
    · omega

theorem cnt_zero (lo hi : Int) (c : UInt8) (r : List UInt8) : cnt lo hi (c :: r) = 0 ↔ ¬ (lo ≤ (c.toNat : Int) ∧ (c.toNat : Int) ≤ hi) := by
  unfold cnt
  by_cases h : lo ≤ (c.toNat : Int) ∧ (c.toNat : Int) ≤ hi
  · rw [if_pos h]; exact ⟨fun e => by omega, fun e => absurd h e⟩
  · rw [if_neg h]; exact ⟨fun _ => h, fun _ => rfl⟩

/-- Is c from lo to hi? -/
def within (lo hi c : Int) : Bool := decide (lo ≤ c ∧ c ≤ hi)
theorem within_yes {lo hi c : Int} (h1 : lo ≤ c) (h2 : c ≤ hi) : within lo hi c = true := decide_eq_true ⟨h1, h2⟩
theorem within_no {lo hi c : Int} (h : ¬ (lo ≤ c ∧ c ≤ hi)) : within lo hi c = false := decide_eq_false h
theorem within_iff {lo hi c : Int} : within lo hi c = true ↔ lo ≤ c ∧ c ≤ hi := by unfold within; exact decide_eq_true_iff

/-- The marks. -/
def marks : List UInt8 := [40, 41, 33, 38, 124, 42, 61, 58, 45, 64, 94]

/-- A word of a text, without its place: kind, text, number; and how many bytes it has. -/
structure One where
  kind : Int
  text : List UInt8
  num : Int
  size : Nat

/-- A digit's value. -/
def digit (c : UInt8) : Int := (c.toNat : Int) - 48

/-- What one or two digits say. -/
def value : List UInt8 → Int
  | [a] => digit a
  | [a, b] => 10 * digit a + digit b
  | _ => 0

def nothing : One := ⟨0, [], 0, 0⟩

/-- The word that a text which is not empty begins with. -/
def first : List UInt8 → One
  | [] => nothing
  | c :: r =>
    if 6 < cnt 97 122 (c :: r) ∨ 2 < cnt 48 57 (c :: r) then nothing
    else if 0 < cnt 97 122 (c :: r) then ⟨1, (c :: r).take (cnt 97 122 (c :: r)), 0, cnt 97 122 (c :: r)⟩
    else if 0 < cnt 48 57 (c :: r) then ⟨2, [], value ((c :: r).take (cnt 48 57 (c :: r))), cnt 48 57 (c :: r)⟩
    else if c ∈ marks then ⟨3, [c], 0, 1⟩
    else nothing

theorem first_many {c : UInt8} {r : List UInt8} (h : 6 < cnt 97 122 (c :: r) ∨ 2 < cnt 48 57 (c :: r)) : first (c :: r) = nothing := by
  show (if _ then _ else _) = _
  rw [if_pos h]
theorem first_name {c : UInt8} {r : List UInt8} (h : ¬ (6 < cnt 97 122 (c :: r) ∨ 2 < cnt 48 57 (c :: r))) (h1 : 0 < cnt 97 122 (c :: r)) : first (c :: r) = ⟨1, (c :: r).take (cnt 97 122 (c :: r)), 0, cnt 97 122 (c :: r)⟩ := by
  show (if _ then _ else _) = _
  rw [if_neg h, if_pos h1]
theorem first_number {c : UInt8} {r : List UInt8} (h : ¬ (6 < cnt 97 122 (c :: r) ∨ 2 < cnt 48 57 (c :: r))) (h1 : ¬ 0 < cnt 97 122 (c :: r)) (h2 : 0 < cnt 48 57 (c :: r)) : first (c :: r) = ⟨2, [], value ((c :: r).take (cnt 48 57 (c :: r))), cnt 48 57 (c :: r)⟩ := by
  show (if _ then _ else _) = _
  rw [if_neg h, if_neg h1, if_pos h2]
theorem first_mark {c : UInt8} {r : List UInt8} (h : ¬ (6 < cnt 97 122 (c :: r) ∨ 2 < cnt 48 57 (c :: r))) (h1 : ¬ 0 < cnt 97 122 (c :: r)) (h2 : ¬ 0 < cnt 48 57 (c :: r)) (h3 : c ∈ marks) : first (c :: r) = ⟨3, [c], 0, 1⟩ := by
  show (if _ then _ else _) = _
  rw [if_neg h, if_neg h1, if_neg h2, if_pos h3]
theorem first_none {c : UInt8} {r : List UInt8} (h : ¬ (6 < cnt 97 122 (c :: r) ∨ 2 < cnt 48 57 (c :: r))) (h1 : ¬ 0 < cnt 97 122 (c :: r)) (h2 : ¬ 0 < cnt 48 57 (c :: r)) (h3 : ¬ c ∈ marks) : first (c :: r) = nothing := by
  show (if _ then _ else _) = _
  rw [if_neg h, if_neg h1, if_neg h2, if_neg h3]

/-- A letter first: by how many there are. -/
theorem letter_many {c : UInt8} {r : List UInt8} {k : Nat} (he : cnt 97 122 (c :: r) = k) (h6 : 6 < k) : first (c :: r) = nothing := first_many (.inl (by omega))
theorem letter_few {c : UInt8} {r : List UInt8} {k : Nat} (hc : 97 ≤ (c.toNat : Int)) (h0 : (c.toNat : Int) ≤ 122) (he : cnt 97 122 (c :: r) = k) (h6 : ¬ 6 < k) : first (c :: r) = ⟨1, (c :: r).take k, 0, k⟩ := by
  have hd : cnt 48 57 (c :: r) = 0 := (cnt_zero 48 57 c r).2 (by omega)
  have hl : cnt 97 122 (c :: r) ≠ 0 := fun e => (cnt_zero 97 122 c r).1 e ⟨hc, h0⟩
  rw [first_name (by omega) (by omega), he]

/-- A digit first: by how many there are. -/
theorem digit_many {c : UInt8} {r : List UInt8} {k : Nat} (he : cnt 48 57 (c :: r) = k) (h2 : 2 < k) : first (c :: r) = nothing := first_many (.inr (by omega))
theorem digit_few {c : UInt8} {r : List UInt8} {k : Nat} (hc : 48 ≤ (c.toNat : Int)) (h0 : (c.toNat : Int) ≤ 57) (he : cnt 48 57 (c :: r) = k) (h2 : ¬ 2 < k) : first (c :: r) = ⟨2, [], value ((c :: r).take k), k⟩ := by
  have hd : cnt 97 122 (c :: r) = 0 := (cnt_zero 97 122 c r).2 (by omega)
  have hl : cnt 48 57 (c :: r) ≠ 0 := fun e => (cnt_zero 48 57 c r).1 e ⟨hc, h0⟩
  rw [first_number (by omega) (by omega) (by omega), he]

/-- Neither: a mark, or nothing. -/
theorem other_mark {c : UInt8} {r : List UInt8} (hc : ¬ (97 ≤ (c.toNat : Int) ∧ (c.toNat : Int) ≤ 122)) (hd : ¬ (48 ≤ (c.toNat : Int) ∧ (c.toNat : Int) ≤ 57)) (hm : c ∈ marks) : first (c :: r) = ⟨3, [c], 0, 1⟩ := by
  have h1 := (cnt_zero 97 122 c r).2 hc
  have h2 := (cnt_zero 48 57 c r).2 hd
  exact first_mark (by omega) (by omega) (by omega) hm
theorem other_none {c : UInt8} {r : List UInt8} (hc : ¬ (97 ≤ (c.toNat : Int) ∧ (c.toNat : Int) ≤ 122)) (hd : ¬ (48 ≤ (c.toNat : Int) ∧ (c.toNat : Int) ≤ 57)) (hm : ¬ c ∈ marks) : first (c :: r) = nothing := by
  have h1 := (cnt_zero 97 122 c r).2 hc
  have h2 := (cnt_zero 48 57 c r).2 hd
  exact first_none (by omega) (by omega) (by omega) hm

/-- What the first k digits say, digit by digit; of more than two only the first two count. -/
def valueTo (l : List UInt8) : Nat → Int
  | 0 => 0
  | k + 1 => if k < 2 then valueTo l k * 10 + digit (l.getD k 0) else valueTo l k

theorem valueTo_value (l : List UInt8) (k : Nat) (h0 : 0 < k) (h2 : k ≤ 2) (hk : k ≤ l.length) : valueTo l k = value (l.take k) := by
  match l, k, h0, h2 with
  | a :: r, 1, _, _ => simp [valueTo, value]
  | [a], 2, _, _ => simp at hk
  | a :: b :: r, 2, _, _ => simp [valueTo, value]; omega
  | [], 1, _, _ => simp at hk
  | [], 2, _, _ => simp at hk

theorem first_size (l : List UInt8) : (first l).size ≤ l.length := by
  unfold first
  split
  · simp [nothing]
  · rename_i c r
    have h1 := cnt_le 97 122 (c :: r)
    have h2 := cnt_le 48 57 (c :: r)
    repeat' split
    all_goals simp [nothing] at *
    all_goals omega

/-- A word in its place. -/
structure Word where
  kind : Int
  text : List UInt8
  num : Int
  place : Nat

/-- The words from a place on. -/
def scan (l : List UInt8) : Nat → Nat → List Word → List Word × Nat × Bool
  | 0, _, acc => (acc, 0, true)
  | f + 1, p, acc =>
    match l.drop p with
    | [] => (acc, 0, true)
    | c :: r =>
      if c = 32 then scan l f (p + 1) acc
      else if (first (c :: r)).size = 0 ∨ acc.length = 60 then ([], p, false)
      else scan l f (p + (first (c :: r)).size) (acc ++ [⟨(first (c :: r)).kind, (first (c :: r)).text, (first (c :: r)).num, p⟩])

theorem scan_end (l : List UInt8) (f p : Nat) (acc : List Word) (h : l.length ≤ p) : scan l f p acc = (acc, 0, true) := by
  cases f with
  | zero => rfl
  | succ f => unfold scan; rw [List.drop_of_length_le h]

/-- Fuel enough is fuel enough. -/
theorem scan_fuel (l : List UInt8) (f : Nat) : ∀ (g p : Nat) (acc : List Word), l.length ≤ p + f → l.length ≤ p + g → scan l f p acc = scan l g p acc := by
  induction f with
  | zero => intro g p acc h1 _; rw [scan_end l g p acc (by omega)]; rfl
  | succ f ih =>
    intro g p acc h1 h2
    by_cases hp : l.length ≤ p
    · rw [scan_end l _ p acc hp, scan_end l _ p acc hp]
    · cases g with
      | zero => omega
      | succ g =>
        unfold scan
        split
        · rfl
        · rename_i c r _
          split
          · exact ih g _ _ (by omega) (by omega)
          · split
            · rfl
            · have h : ¬ ((first (c :: r)).size = 0 ∨ acc.length = 60) := by assumption
              exact ih g _ _ (by omega) (by omega)

/-- The words of a text. -/
def all (l : List UInt8) : List Word × Nat × Bool := if 80 < l.length then ([], 0, false) else scan l l.length 0 []

/-- The same from a place on: what a round does. -/
def rest (l : List UInt8) (p : Nat) (acc : List Word) : List Word × Nat × Bool := scan l l.length p acc

theorem rest_end (l : List UInt8) (p : Nat) (acc : List Word) (h : l.length ≤ p) : rest l p acc = (acc, 0, true) := scan_end l _ p acc h

theorem rest_step (l : List UInt8) (p : Nat) (acc : List Word) (c : UInt8) (r : List UInt8) (h : l.drop p = c :: r) :
    rest l p acc = if c = 32 then rest l (p + 1) acc else if (first (c :: r)).size = 0 ∨ acc.length = 60 then ([], p, false)
      else rest l (p + (first (c :: r)).size) (acc ++ [⟨(first (c :: r)).kind, (first (c :: r)).text, (first (c :: r)).num, p⟩]) := by
  have hp : p < l.length := by
    by_cases hp : p < l.length
    · exact hp
    · rw [List.drop_of_length_le (by omega)] at h; cases h
  have e : rest l p acc = scan l (l.length + 1) p acc := scan_fuel l _ _ _ _ (by omega) (by omega)
  rw [e]
  conv => lhs; unfold scan
  rw [h]
  rfl

theorem all_small (l : List UInt8) (h : ¬ 80 < l.length) : all l = rest l 0 [] := by unfold all rest; rw [if_neg h]

end Go.Proofs.YtdeojcodbojmoaaGreatDoor.Wd
