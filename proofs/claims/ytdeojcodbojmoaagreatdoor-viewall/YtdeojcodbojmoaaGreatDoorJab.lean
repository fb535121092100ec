/- Small facts on what the call itself has laid, and a word's cells. -/
/- Small facts on what the call itself has laid, and a word's cells. -/
import Derived.Test.YtdeojcodbojmoaaGreatDoorJaa
import Derived.WalkKit
namespace Go.Proofs.YtdeojcodbojmoaaGreatDoor
namespace Rf
open Go.RowKit
set_option maxRecDepth 100000

/-- What is owned stays owned where nothing that was there has turned. -/
theorem wown_below {w w' : World} {base : Nat} {e : TypeId} {size : Nat} {v : Value} {n : Nat} {xs : List Value} (h : w.ownsRow base e size v n xs) (hb : Below w.heap.size w w') : w'.ownsRow base e size v n xs := by
  obtain ⟨h1, h2⟩ := h
  refine ⟨h1, ?_⟩
  rcases h2 with h2 | ⟨g, cap, cur, hv, hg, hh, r⟩
  · exact Or.inl h2
  · have hlt : g < w.heap.size := by
      by_cases hlt : g < w.heap.size
      · exact hlt
      · rw [Array.getElem?_eq_none (by omega)] at hh; cases hh
    exact Or.inr ⟨g, cap, cur, hv, hg, by rw [hb.block g hlt]; exact hh, r⟩

theorem wown_base {w : World} {base base' : Nat} {e : TypeId} {size : Nat} {v : Value} {n : Nat} {xs : List Value} (h : w.ownsRow base e size v n xs) (hb : base' ≤ base) : w.ownsRow base' e size v n xs := by
  obtain ⟨h1, h2⟩ := h
  refine ⟨h1, ?_⟩
  rcases h2 with h2 | ⟨g, cap, cur, hv, hg, r⟩
  · exact Or.inl h2
  · exact Or.inr ⟨g, cap, cur, hv, by omega, r⟩

/-- What an owned slice is. -/
theorem wown_form {w : World} {base size n : Nat} {e : TypeId} {v : Value} {xs : List Value} (h : w.ownsRow base e size v n xs) : (v = .slice none 0 0 ∧ n = 0) ∨ ∃ g cap, v = .slice (some ⟨g, 0, none⟩) n cap := by
  rcases h.2 with h | ⟨g, cap, cur, hv, r⟩
  · exact .inl h
  · exact .inr ⟨g, cap, hv⟩

theorem wown_slice {w : World} {base size n : Nat} {e : TypeId} {v : Value} {xs : List Value} (h : w.ownsRow base e size v n xs) : ∃ ao cap, v = .slice ao n cap := by
  rcases wown_form h with ⟨rfl, rfl⟩ | ⟨g, cap, rfl⟩
  · exact ⟨none, 0, rfl⟩
  · exact ⟨_, cap, rfl⟩

/-- A word's cells. -/
def wordCells (x : Wd.Word) : List Value := [.int .i64 x.kind, .string ⟨x.text.toArray⟩, .int .i64 x.num, .int .i64 x.place]

/-- All words' cells. -/
def cellsOf : List Wd.Word → List Value
  | [] => []
  | x :: r => wordCells x ++ cellsOf r

theorem cellsOf_length (l : List Wd.Word) : (cellsOf l).length = l.length * 4 := by
  induction l with
  | nil => rfl
  | cons x r ih => simp [cellsOf, wordCells, ih]; omega

theorem cellsOf_append (l m : List Wd.Word) : cellsOf (l ++ m) = cellsOf l ++ cellsOf m := by
  induction l with
  | nil => rfl
  | cons x r ih => simp [cellsOf, ih]

theorem cellsOf_one (x : Wd.Word) : cellsOf [x] = wordCells x := by simp [cellsOf]

/-- A cell of one of the words. -/
theorem cellsOf_get (l : List Wd.Word) (i k : Nat) (x : Wd.Word) (h : l[i]? = some x) (hk : k < 4) : (cellsOf l)[i * 4 + k]? = (wordCells x)[k]? := by
  induction l generalizing i with
  | nil => simp at h
  | cons y r ih =>
    cases i with
    | zero =>
      simp at h
      subst h
      simp only [cellsOf, Nat.zero_mul, Nat.zero_add]
      rw [List.getElem?_append_left (by simp [wordCells]; omega)]
    | succ i =>
      simp at h
      simp only [cellsOf]
      rw [List.getElem?_append_right (by simp [wordCells]; omega)]
      have e : (i + 1) * 4 + k - (wordCells y).length = i * 4 + k := by simp [wordCells]; omega
      rw [e]
      exact ih i h

/-- A place in a text: what is left from there on. -/
theorem drop_at (s : ByteArray) (p : Nat) (h : p < s.size) : ∃ r, s.data.toList.drop p = s[p] :: r ∧ (s.extract p s.size).data.toList = s[p] :: r := by
  have e : s.data.toList[p]'(by simpa using h) = s[p] := by simp [ByteArray.getElem_eq_getElem_data]
  have hd : s.data.toList.drop p = s[p] :: s.data.toList.drop (p + 1) := by
    rw [List.drop_eq_getElem_cons (by simpa using h), e]
  refine ⟨_, hd, ?_⟩
  rw [← hd]
  simp
  exact List.take_of_length_le (by simp)
end Rf
end Go.Proofs.YtdeojcodbojmoaaGreatDoor
namespace Go.Proofs.YtdeojcodbojmoaaGreatDoor
open Go.RowKit
set_option maxRecDepth 100000

/-- What is owned stays owned where nothing that was there has turned. -/
theorem own_below {w w' : World} {base : Nat} {e : TypeId} {size : Nat} {v : Value} {n : Nat} {xs : List Value} (h : w.ownsRow base e size v n xs) (hb : Below w.heap.size w w') : w'.ownsRow base e size v n xs := by
  obtain ⟨h1, h2⟩ := h
  refine ⟨h1, ?_⟩
  rcases h2 with h2 | ⟨g, cap, cur, hv, hg, hh, r⟩
  · exact Or.inl h2
  · have hlt : g < w.heap.size := by
      by_cases hlt : g < w.heap.size
      · exact hlt
      · rw [Array.getElem?_eq_none (by omega)] at hh; cases hh
    exact Or.inr ⟨g, cap, cur, hv, hg, by rw [hb.block g hlt]; exact hh, r⟩

theorem own_base {w : World} {base base' : Nat} {e : TypeId} {size : Nat} {v : Value} {n : Nat} {xs : List Value} (h : w.ownsRow base e size v n xs) (hb : base' ≤ base) : w.ownsRow base' e size v n xs := by
  obtain ⟨h1, h2⟩ := h
  refine ⟨h1, ?_⟩
  rcases h2 with h2 | ⟨g, cap, cur, hv, hg, r⟩
  · exact Or.inl h2
  · exact Or.inr ⟨g, cap, cur, hv, by omega, r⟩

/-- What an owned slice is. -/
theorem own_form {w : World} {base size n : Nat} {e : TypeId} {v : Value} {xs : List Value} (h : w.ownsRow base e size v n xs) : (v = .slice none 0 0 ∧ n = 0) ∨ ∃ g cap, v = .slice (some ⟨g, 0, none⟩) n cap := by
  rcases h.2 with h | ⟨g, cap, cur, hv, r⟩
  · exact .inl h
  · exact .inr ⟨g, cap, hv⟩

theorem own_slice {w : World} {base size n : Nat} {e : TypeId} {v : Value} {xs : List Value} (h : w.ownsRow base e size v n xs) : ∃ ao cap, v = .slice ao n cap := by
  rcases own_form h with ⟨rfl, rfl⟩ | ⟨g, cap, rfl⟩
  · exact ⟨none, 0, rfl⟩
  · exact ⟨_, cap, rfl⟩

/-- A word's cells. -/
def wordCells (x : Wd.Word) : List Value := [.int .i64 x.kind, .string ⟨x.text.toArray⟩, .int .i64 x.num, .int .i64 x.place]

/-- All words' cells. -/
def cellsOf : List Wd.Word → List Value
  | [] => []
  | x :: r => wordCells x ++ cellsOf r

theorem cellsOf_length (l : List Wd.Word) : (cellsOf l).length = l.length * 4 := by
  induction l with
  | nil => rfl
  | cons x r ih => simp [cellsOf, wordCells, ih]; omega

theorem cellsOf_append (l m : List Wd.Word) : cellsOf (l ++ m) = cellsOf l ++ cellsOf m := by
  induction l with
  | nil => rfl
  | cons x r ih => simp [cellsOf, ih]

theorem cellsOf_one (x : Wd.Word) : cellsOf [x] = wordCells x := by simp [cellsOf]

/-- A cell of one of the words. -/
theorem cellsOf_get (l : List Wd.Word) (i k : Nat) (x : Wd.Word) (h : l[i]? = some x) (hk : k < 4) : (cellsOf l)[i * 4 + k]? = (wordCells x)[k]? := by
  induction l generalizing i with
  | nil => simp at h
  | cons y r ih =>
    cases i with
    | zero =>
      simp at h
      subst h
      simp only [cellsOf, Nat.zero_mul, Nat.zero_add]
      rw [List.getElem?_append_left (by simp [wordCells]; omega)]
    | succ i =>
      simp at h
      simp only [cellsOf]
      rw [List.getElem?_append_right (by simp [wordCells]; omega)]
      have e : (i + 1) * 4 + k - (wordCells y).length = i * 4 + k := by simp [wordCells]; omega
      rw [e]
      exact ih i h

/-- A place in a text: what is left from there on. -/
theorem drop_at (s : ByteArray) (p : Nat) (h : p < s.size) : ∃ r, s.data.toList.drop p = s[p] :: r ∧ (s.extract p s.size).data.toList = s[p] :: r := by
  have e : s.data.toList[p]'(by simpa using h) = s[p] := by simp [ByteArray.getElem_eq_getElem_data]
  have hd : s.data.toList.drop p = s[p] :: s.data.toList.drop (p + 1) := by
    rw [List.drop_eq_getElem_cons (by simpa using h), e]
  refine ⟨_, hd, ?_⟩
  rw [← hd]
  simp
  exact List.take_of_length_le (by simp)
end Go.Proofs.YtdeojcodbojmoaaGreatDoor
