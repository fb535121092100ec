/- Words written one by one, with blanks behind each: they are read. No Go, no program. -/
import Derived.Test.YtakfoljpehlmgaaPlain
namespace Go.Proofs.Ytakfoljpehlmgaa.Wd

/-- The bytes of a word by its number. -/
def bytesOf (z : Nat) : List UInt8 :=
  if z % 3 = 0 then [UInt8.ofNat (97 + z / 3 % 26), UInt8.ofNat (97 + z / 80 % 26)]
  else if z % 3 = 1 then [UInt8.ofNat (48 + z / 3 % 10), UInt8.ofNat (48 + z / 30 % 10)]
  else [marks.getD (z / 3 % 11) 0]

/-- The word by its number, at its place. -/
def wordOf (z p : Nat) : Word :=
  if z % 3 = 0 then ⟨1, [UInt8.ofNat (97 + z / 3 % 26), UInt8.ofNat (97 + z / 80 % 26)], 0, p⟩
  else if z % 3 = 1 then ⟨2, [], (z / 3 % 10 : Nat) * 10 + (z / 30 % 10 : Nat), p⟩
  else ⟨3, [marks.getD (z / 3 % 11) 0], 0, p⟩

theorem toNat_ofNat (n : Nat) (h : n < 256) : (UInt8.ofNat n).toNat = n := by
  rw [UInt8.toNat_ofNat']
  exact Nat.mod_eq_of_lt h

/-- A word that stands ahead of a blank is read as it was written. -/
theorem first_written (z : Nat) (r : List UInt8) (p : Nat) :
    first (bytesOf z ++ 32 :: r) = ⟨(wordOf z p).kind, (wordOf z p).text, (wordOf z p).num, (bytesOf z).length⟩ := by
  unfold bytesOf wordOf
  by_cases h0 : z % 3 = 0
  · rw [if_pos h0, if_pos h0]
    have ha := toNat_ofNat (97 + z / 3 % 26) (by omega)
    have hb := toNat_ofNat (97 + z / 80 % 26) (by omega)
    generalize UInt8.ofNat (97 + z / 3 % 26) = a at *
    generalize UInt8.ofNat (97 + z / 80 % 26) = b at *
    have hc : cnt 97 122 (a :: b :: 32 :: r) = 2 := by
      simp only [cnt]
      rw [if_pos (by omega), if_pos (by omega), if_neg (by decide)]
    exact (letter_few (by omega) (by omega) hc (by omega)).trans rfl
  · rw [if_neg h0, if_neg h0]
    by_cases h1 : z % 3 = 1
    · rw [if_pos h1, if_pos h1]
      have ha := toNat_ofNat (48 + z / 3 % 10) (by omega)
      have hb := toNat_ofNat (48 + z / 30 % 10) (by omega)
      generalize UInt8.ofNat (48 + z / 3 % 10) = a at *
      generalize UInt8.ofNat (48 + z / 30 % 10) = b at *
      have hc : cnt 48 57 (a :: b :: 32 :: r) = 2 := by
        simp only [cnt]
        rw [if_pos (by omega), if_pos (by omega), if_neg (by decide)]
      refine (digit_few (by omega) (by omega) hc (by omega)).trans ?_
      show One.mk 2 [] (10 * ((a.toNat : Int) - 48) + ((b.toNat : Int) - 48)) 2 = One.mk 2 [] _ 2
      have e : 10 * ((a.toNat : Int) - 48) + ((b.toNat : Int) - 48) = ((z / 3 % 10 : Nat) : Int) * 10 + ((z / 30 % 10 : Nat) : Int) := by omega
      rw [e]
    · rw [if_neg h1, if_neg h1]
      have hk : z / 3 % 11 < 11 := by omega
      have hm : ∀ k : Fin 11, marks.getD k 0 ∈ marks ∧ ¬ (97 ≤ ((marks.getD k 0).toNat : Int) ∧ ((marks.getD k 0).toNat : Int) ≤ 122) ∧ ¬ (48 ≤ ((marks.getD k 0).toNat : Int) ∧ ((marks.getD k 0).toNat : Int) ≤ 57) := by decide
      obtain ⟨m1, m2, m3⟩ := hm ⟨z / 3 % 11, hk⟩
      exact (other_mark m2 m3 m1).trans rfl

theorem bytesOf_head (z : Nat) : ∃ c r, bytesOf z = c :: r ∧ c ≠ 32 := by
  unfold bytesOf
  by_cases h0 : z % 3 = 0
  · rw [if_pos h0]
    refine ⟨_, _, rfl, fun e => ?_⟩
    have ha := toNat_ofNat (97 + z / 3 % 26) (by omega)
    rw [e] at ha
    have : (32 : UInt8).toNat = 32 := rfl
    omega
  · rw [if_neg h0]
    by_cases h1 : z % 3 = 1
    · rw [if_pos h1]
      refine ⟨_, _, rfl, fun e => ?_⟩
      have ha := toNat_ofNat (48 + z / 3 % 10) (by omega)
      rw [e] at ha
      have : (32 : UInt8).toNat = 32 := rfl
      omega
    · rw [if_neg h1]
      have hm : ∀ k : Fin 11, marks.getD k 0 ≠ 32 := by decide
      exact ⟨_, _, rfl, hm ⟨z / 3 % 11, by omega⟩⟩

theorem bytesOf_len (z : Nat) : (bytesOf z).length = if z % 3 = 0 ∨ z % 3 = 1 then 2 else 1 := by
  unfold bytesOf
  by_cases h0 : z % 3 = 0
  · rw [if_pos h0, if_pos (.inl h0)]; rfl
  · rw [if_neg h0]
    by_cases h1 : z % 3 = 1
    · rw [if_pos h1, if_pos (.inr h1)]; rfl
    · rw [if_neg h1, if_neg (by omega)]; rfl

theorem bytesOf_le (z : Nat) : 0 < (bytesOf z).length ∧ (bytesOf z).length ≤ 2 := by rw [bytesOf_len]; split <;> omega

theorem wordOf_eta (z p : Nat) : (⟨(wordOf z p).kind, (wordOf z p).text, (wordOf z p).num, p⟩ : Word) = wordOf z p := by
  unfold wordOf
  repeat' split
  all_goals rfl

/-- The text of some words, b blanks behind each. -/
def text (b : Nat) : List Nat → List UInt8
  | [] => []
  | z :: r => bytesOf z ++ (List.replicate b 32 ++ text b r)

/-- The words of such a text, from a place on. -/
def wordsFrom (b p : Nat) : List Nat → List Word
  | [] => []
  | z :: r => wordOf z p :: wordsFrom b (p + (bytesOf z).length + b) r

theorem drop_more {l a r : List UInt8} {p : Nat} (h : l.drop p = a ++ r) : l.drop (p + a.length) = r := by
  rw [← List.drop_drop, h]
  simp

/-- Blanks are passed over. -/
theorem rest_blanks (l : List UInt8) (acc : List Word) (r : List UInt8) : ∀ (b p : Nat), l.drop p = List.replicate b 32 ++ r → rest l p acc = rest l (p + b) acc := by
  intro b
  induction b with
  | zero => intro p _; rfl
  | succ b ih =>
    intro p h
    have h' : l.drop p = 32 :: (List.replicate b 32 ++ r) := by rw [h]; rfl
    rw [rest_step l p acc _ _ h', if_pos rfl, ih (p + 1) (drop_more (a := [32]) h')]
    congr 1
    omega

/-- What was written is read. -/
theorem rest_written (l : List UInt8) (b : Nat) (hb : 0 < b) : ∀ (zs : List Nat) (p : Nat) (acc : List Word), l.drop p = text b zs → acc.length + zs.length ≤ 60 → rest l p acc = (acc ++ wordsFrom b p zs, 0, true) := by
  intro zs
  induction zs with
  | nil =>
    intro p acc h _
    rw [rest_end l p acc (by simpa [text] using h)]
    simp [wordsFrom]
  | cons z r ih =>
    intro p acc h h60
    obtain ⟨b', rfl⟩ : ∃ b', b = b' + 1 := ⟨b - 1, by omega⟩
    obtain ⟨c, t, hc, hne⟩ := bytesOf_head z
    have hl : l.drop p = bytesOf z ++ 32 :: (List.replicate b' 32 ++ text (b' + 1) r) := by rw [h]; rfl
    have hl' : l.drop p = c :: (t ++ 32 :: (List.replicate b' 32 ++ text (b' + 1) r)) := by rw [hl, hc]; rfl
    have hf := first_written z (List.replicate b' 32 ++ text (b' + 1) r) p
    have e : c :: (t ++ 32 :: (List.replicate b' 32 ++ text (b' + 1) r)) = bytesOf z ++ 32 :: (List.replicate b' 32 ++ text (b' + 1) r) := by rw [hc]; rfl
    have hlen := bytesOf_le z
    have h6 : acc.length + (r.length + 1) ≤ 60 := by simpa using h60
    rw [rest_step l p acc _ _ hl', if_neg hne, e, hf]
    rw [if_neg (by show ¬ ((bytesOf z).length = 0 ∨ acc.length = 60); omega)]
    show rest l (p + (bytesOf z).length) (acc ++ [(⟨(wordOf z p).kind, (wordOf z p).text, (wordOf z p).num, p⟩ : Word)]) = _
    rw [wordOf_eta]
    have hd : l.drop (p + (bytesOf z).length) = List.replicate (b' + 1) 32 ++ text (b' + 1) r := drop_more hl
    rw [rest_blanks l _ _ _ _ hd]
    have hd2 : l.drop (p + (bytesOf z).length + (b' + 1)) = text (b' + 1) r := by
      have := drop_more hd
      simpa using this
    rw [ih _ _ hd2 (by simp; omega)]
    simp [wordsFrom]

theorem text_len (b : Nat) (zs : List Nat) : (text b zs).length ≤ zs.length * (2 + b) := by
  induction zs with
  | nil => simp [text]
  | cons z r ih =>
    have := bytesOf_le z
    simp only [text, List.length_append, List.length_replicate, List.length_cons]
    rw [Nat.add_mul]
    omega

theorem all_written (b : Nat) (hb : 0 < b) (hb3 : b ≤ 3) (zs : List Nat) (h : zs.length ≤ 15) : all (text b zs) = (wordsFrom b 0 zs, 0, true) := by
  have hl := text_len b zs
  have h80 : zs.length * (2 + b) ≤ 15 * 5 := Nat.mul_le_mul h (by omega)
  rw [all_small _ (by omega), rest_written _ b hb zs 0 [] rfl (by simp; omega)]
  simp

theorem text_snoc (b : Nat) (zs : List Nat) (z : Nat) : text b (zs ++ [z]) = text b zs ++ bytesOf z ++ List.replicate b 32 := by
  induction zs with
  | nil => simp [text]
  | cons y r ih => simp [text, ih]

theorem words_snoc (b : Nat) (zs : List Nat) (z : Nat) : ∀ p, wordsFrom b p (zs ++ [z]) = wordsFrom b p zs ++ [wordOf z (p + (text b zs).length)] := by
  induction zs with
  | nil => intro p; simp [wordsFrom, text]
  | cons y r ih =>
    intro p
    simp only [List.cons_append, wordsFrom, ih, text, List.length_append, List.length_replicate]
    congr 4
    omega

theorem words_len (b : Nat) (zs : List Nat) : ∀ p, (wordsFrom b p zs).length = zs.length := by
  induction zs with
  | nil => intro p; rfl
  | cons y r ih => intro p; simp [wordsFrom, ih]

end Go.Proofs.Ytakfoljpehlmgaa.Wd
