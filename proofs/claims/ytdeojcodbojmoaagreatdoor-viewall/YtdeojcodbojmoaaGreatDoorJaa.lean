/- The plain mathematics of a filter's text in words: no Go, no program. -/
/- A filter out of words, as plain mathematics: what is right is told, what is not is told to be none. -/
/- A filter out of words: fuel enough is fuel enough. -/
/- Reading goes on. -/
namespace Go.Proofs.YtdeojcodbojmoaaGreatDoor.Wd

/-- How many bytes from lo to hi a text begins with. -/
def cnt (lo hi : Int) : List UInt8 → Nat
  | [] => 0
  | c :: r => if lo ≤ (c.toNat : Int) ∧ (c.toNat : Int) ≤ hi then cnt lo hi r + 1 else 0

theorem cnt_le (lo hi : Int) (l : List UInt8) : cnt lo hi l ≤ l.length := by
  induction l with
  | nil => simp [cnt]
  | cons c r ih => unfold cnt; split <;> simp <;> omega

/-- Where the first k bytes are such, and the next one, if there is one, is not: k. -/
theorem cnt_eq (lo hi : Int) (l : List UInt8) (k : Nat) (hk : k ≤ l.length)
    (hall : ∀ j (h : j < l.length), j < k → lo ≤ (l[j].toNat : Int) ∧ (l[j].toNat : Int) ≤ hi)
    (hstop : ∀ h : k < l.length, ¬ (lo ≤ (l[k].toNat : Int) ∧ (l[k].toNat : Int) ≤ hi)) : cnt lo hi l = k := by
  induction l generalizing k with
  | nil => simp at hk; subst hk; rfl
  | cons c r ih =>
    cases k with
    | zero =>
      have := hstop (by simp)
      simp at this
      unfold cnt
      rw [if_neg (by simpa using this)]
    | succ k =>
      have h0 := hall 0 (by simp) (by omega)
      simp at h0
      unfold cnt
      rw [if_pos h0]
      rw [ih k (by simpa using hk) (fun j h hj => by have := hall (j + 1) (by simpa using h) (by omega); simpa using this) (fun h => by have := hstop (by simpa using h); simpa using this)]

theorem cnt_all (lo hi : Int) (l : List UInt8) (j : Nat) (h : j < l.length) (hj : j < cnt lo hi l) : lo ≤ (l[j].toNat : Int) ∧ (l[j].toNat : Int) ≤ hi := by
  induction l generalizing j with
  | nil => simp at h
  | cons c r ih =>
    unfold cnt at hj
    split at hj
    · cases j with
      | zero => simpa using by assumption
      | succ j => simpa using ih j (by simpa using h) (by omega)
    · omega

theorem cnt_zero (lo hi : Int) (c : UInt8) (r : List UInt8) : cnt lo hi (c :: r) = 0 ↔ ¬ (lo ≤ (c.toNat : Int) ∧ (c.toNat : Int) ≤ hi) := by
  unfold cnt
  by_cases h : lo ≤ (c.toNat : Int) ∧ (c.toNat : Int) ≤ hi
  · rw [if_pos h]; exact ⟨fun e => by omega, fun e => absurd h e⟩
  · rw [if_neg h]; exact ⟨fun _ => h, fun _ => rfl⟩

/-- Is c from lo to hi? -/
def within (lo hi c : Int) : Bool := decide (lo ≤ c ∧ c ≤ hi)
theorem within_yes {lo hi c : Int} (h1 : lo ≤ c) (h2 : c ≤ hi) : within lo hi c = true := decide_eq_true ⟨h1, h2⟩
theorem within_no {lo hi c : Int} (h : ¬ (lo ≤ c ∧ c ≤ hi)) : within lo hi c = false := decide_eq_false h
theorem within_iff {lo hi c : Int} : within lo hi c = true ↔ lo ≤ c ∧ c ≤ hi := by unfold within; exact decide_eq_true_iff

/-- The marks. -/
def marks : List UInt8 := [40, 41, 33, 38, 124, 42, 61, 58, 45, 64, 94]

/-- A word of a text, without its place: kind, text, number; and how many bytes it has. -/
structure One where
  kind : Int
  text : List UInt8
  num : Int
  size : Nat

/-- A digit's value. -/
def digit (c : UInt8) : Int := (c.toNat : Int) - 48

/-- What one or two digits say. -/
def value : List UInt8 → Int
  | [a] => digit a
  | [a, b] => 10 * digit a + digit b
  | _ => 0

def nothing : One := ⟨0, [], 0, 0⟩

/-- The word that a text which is not empty begins with. -/
def first : List UInt8 → One
  | [] => nothing
  | c :: r =>
    if 6 < cnt 97 122 (c :: r) ∨ 2 < cnt 48 57 (c :: r) then nothing
    else if 0 < cnt 97 122 (c :: r) then ⟨1, (c :: r).take (cnt 97 122 (c :: r)), 0, cnt 97 122 (c :: r)⟩
    else if 0 < cnt 48 57 (c :: r) then ⟨2, [], value ((c :: r).take (cnt 48 57 (c :: r))), cnt 48 57 (c :: r)⟩
    else if c ∈ marks then ⟨3, [c], 0, 1⟩
    else nothing

theorem first_many {c : UInt8} {r : List UInt8} (h : 6 < cnt 97 122 (c :: r) ∨ 2 < cnt 48 57 (c :: r)) : first (c :: r) = nothing := by
  show (if _ then _ else _) = _
  rw [if_pos h]
theorem first_name {c : UInt8} {r : List UInt8} (h : ¬ (6 < cnt 97 122 (c :: r) ∨ 2 < cnt 48 57 (c :: r))) (h1 : 0 < cnt 97 122 (c :: r)) : first (c :: r) = ⟨1, (c :: r).take (cnt 97 122 (c :: r)), 0, cnt 97 122 (c :: r)⟩ := by
  show (if _ then _ else _) = _
  rw [if_neg h, if_pos h1]
theorem first_number {c : UInt8} {r : List UInt8} (h : ¬ (6 < cnt 97 122 (c :: r) ∨ 2 < cnt 48 57 (c :: r))) (h1 : ¬ 0 < cnt 97 122 (c :: r)) (h2 : 0 < cnt 48 57 (c :: r)) : first (c :: r) = ⟨2, [], value ((c :: r).take (cnt 48 57 (c :: r))), cnt 48 57 (c :: r)⟩ := by
  show (if _ then _ else _) = _
  rw [if_neg h, if_neg h1, if_pos h2]
theorem first_mark {c : UInt8} {r : List UInt8} (h : ¬ (6 < cnt 97 122 (c :: r) ∨ 2 < cnt 48 57 (c :: r))) (h1 : ¬ 0 < cnt 97 122 (c :: r)) (h2 : ¬ 0 < cnt 48 57 (c :: r)) (h3 : c ∈ marks) : first (c :: r) = ⟨3, [c], 0, 1⟩ := by
  show (if _ then _ else _) = _
  rw [if_neg h, if_neg h1, if_neg h2, if_pos h3]
theorem first_none {c : UInt8} {r : List UInt8} (h : ¬ (6 < cnt 97 122 (c :: r) ∨ 2 < cnt 48 57 (c :: r))) (h1 : ¬ 0 < cnt 97 122 (c :: r)) (h2 : ¬ 0 < cnt 48 57 (c :: r)) (h3 : ¬ c ∈ marks) : first (c :: r) = nothing := by
  show (if _ then _ else _) = _
  rw [if_neg h, if_neg h1, if_neg h2, if_neg h3]

/-- A letter first: by how many there are. -/
theorem letter_many {c : UInt8} {r : List UInt8} {k : Nat} (he : cnt 97 122 (c :: r) = k) (h6 : 6 < k) : first (c :: r) = nothing := first_many (.inl (by omega))
theorem letter_few {c : UInt8} {r : List UInt8} {k : Nat} (hc : 97 ≤ (c.toNat : Int)) (h0 : (c.toNat : Int) ≤ 122) (he : cnt 97 122 (c :: r) = k) (h6 : ¬ 6 < k) : first (c :: r) = ⟨1, (c :: r).take k, 0, k⟩ := by
  have hd : cnt 48 57 (c :: r) = 0 := (cnt_zero 48 57 c r).2 (by omega)
  have hl : cnt 97 122 (c :: r) ≠ 0 := fun e => (cnt_zero 97 122 c r).1 e ⟨hc, h0⟩
  rw [first_name (by omega) (by omega), he]

/-- A digit first: by how many there are. -/
theorem digit_many {c : UInt8} {r : List UInt8} {k : Nat} (he : cnt 48 57 (c :: r) = k) (h2 : 2 < k) : first (c :: r) = nothing := first_many (.inr (by omega))
theorem digit_few {c : UInt8} {r : List UInt8} {k : Nat} (hc : 48 ≤ (c.toNat : Int)) (h0 : (c.toNat : Int) ≤ 57) (he : cnt 48 57 (c :: r) = k) (h2 : ¬ 2 < k) : first (c :: r) = ⟨2, [], value ((c :: r).take k), k⟩ := by
  have hd : cnt 97 122 (c :: r) = 0 := (cnt_zero 97 122 c r).2 (by omega)
  have hl : cnt 48 57 (c :: r) ≠ 0 := fun e => (cnt_zero 48 57 c r).1 e ⟨hc, h0⟩
  rw [first_number (by omega) (by omega) (by omega), he]

/-- Neither: a mark, or nothing. -/
theorem other_mark {c : UInt8} {r : List UInt8} (hc : ¬ (97 ≤ (c.toNat : Int) ∧ (c.toNat : Int) ≤ 122)) (hd : ¬ (48 ≤ (c.toNat : Int) ∧ (c.toNat : Int) ≤ 57)) (hm : c ∈ marks) : first (c :: r) = ⟨3, [c], 0, 1⟩ := by
  have h1 := (cnt_zero 97 122 c r).2 hc
  have h2 := (cnt_zero 48 57 c r).2 hd
  exact first_mark (by omega) (by omega) (by omega) hm
theorem other_none {c : UInt8} {r : List UInt8} (hc : ¬ (97 ≤ (c.toNat : Int) ∧ (c.toNat : Int) ≤ 122)) (hd : ¬ (48 ≤ (c.toNat : Int) ∧ (c.toNat : Int) ≤ 57)) (hm : ¬ c ∈ marks) : first (c :: r) = nothing := by
  have h1 := (cnt_zero 97 122 c r).2 hc
  have h2 := (cnt_zero 48 57 c r).2 hd
  exact first_none (by omega) (by omega) (by omega) hm

/-- What the first k digits say, digit by digit; of more than two only the first two count. -/
def valueTo (l : List UInt8) : Nat → Int
  | 0 => 0
  | k + 1 => if k < 2 then valueTo l k * 10 + digit (l.getD k 0) else valueTo l k

theorem valueTo_value (l : List UInt8) (k : Nat) (h0 : 0 < k) (h2 : k ≤ 2) (hk : k ≤ l.length) : valueTo l k = value (l.take k) := by
  match l, k, h0, h2 with
  | a :: r, 1, _, _ => simp [valueTo, value]
  | [a], 2, _, _ => simp at hk
  | a :: b :: r, 2, _, _ => simp [valueTo, value]; omega
  | [], 1, _, _ => simp at hk
  | [], 2, _, _ => simp at hk

theorem first_size (l : List UInt8) : (first l).size ≤ l.length := by
  unfold first
  split
  · simp [nothing]
  · rename_i c r
    have h1 := cnt_le 97 122 (c :: r)
    have h2 := cnt_le 48 57 (c :: r)
    repeat' split
    all_goals simp [nothing] at *
    all_goals omega

/-- A word in its place. -/
structure Word where
  kind : Int
  text : List UInt8
  num : Int
  place : Nat

/-- The words from a place on. -/
def scan (l : List UInt8) : Nat → Nat → List Word → List Word × Nat × Bool
  | 0, _, acc => (acc, 0, true)
  | f + 1, p, acc =>
    match l.drop p with
    | [] => (acc, 0, true)
    | c :: r =>
      if c = 32 then scan l f (p + 1) acc
      else if (first (c :: r)).size = 0 ∨ acc.length = 60 then ([], p, false)
      else scan l f (p + (first (c :: r)).size) (acc ++ [⟨(first (c :: r)).kind, (first (c :: r)).text, (first (c :: r)).num, p⟩])

theorem scan_end (l : List UInt8) (f p : Nat) (acc : List Word) (h : l.length ≤ p) : scan l f p acc = (acc, 0, true) := by
  cases f with
  | zero => rfl
  | succ f => unfold scan; rw [List.drop_of_length_le h]

/-- Fuel enough is fuel enough. -/
theorem scan_fuel (l : List UInt8) (f : Nat) : ∀ (g p : Nat) (acc : List Word), l.length ≤ p + f → l.length ≤ p + g → scan l f p acc = scan l g p acc := by
  induction f with
  | zero => intro g p acc h1 _; rw [scan_end l g p acc (by omega)]; rfl
  | succ f ih =>
    intro g p acc h1 h2
    by_cases hp : l.length ≤ p
    · rw [scan_end l _ p acc hp, scan_end l _ p acc hp]
    · cases g with
      | zero => omega
      | succ g =>
        unfold scan
        split
        · rfl
        · rename_i c r _
          split
          · exact ih g _ _ (by omega) (by omega)
          · split
            · rfl
            · have h : ¬ ((first (c :: r)).size = 0 ∨ acc.length = 60) := by assumption
              exact ih g _ _ (by omega) (by omega)

/-- The words of a text. -/
def all (l : List UInt8) : List Word × Nat × Bool := if 80 < l.length then ([], 0, false) else scan l l.length 0 []

/-- The same from a place on: what a round does. -/
def rest (l : List UInt8) (p : Nat) (acc : List Word) : List Word × Nat × Bool := scan l l.length p acc

theorem rest_end (l : List UInt8) (p : Nat) (acc : List Word) (h : l.length ≤ p) : rest l p acc = (acc, 0, true) := scan_end l _ p acc h

theorem rest_step (l : List UInt8) (p : Nat) (acc : List Word) (c : UInt8) (r : List UInt8) (h : l.drop p = c :: r) :
    rest l p acc = if c = 32 then rest l (p + 1) acc else if (first (c :: r)).size = 0 ∨ acc.length = 60 then ([], p, false)
      else rest l (p + (first (c :: r)).size) (acc ++ [⟨(first (c :: r)).kind, (first (c :: r)).text, (first (c :: r)).num, p⟩]) := by
  have hp : p < l.length := by
    by_cases hp : p < l.length
    · exact hp
    · rw [List.drop_of_length_le (by omega)] at h; cases h
  have e : rest l p acc = scan l (l.length + 1) p acc := scan_fuel l _ _ _ _ (by omega) (by omega)
  rw [e]
  conv => lhs; unfold scan
  rw [h]
  rfl

theorem all_small (l : List UInt8) (h : ¬ 80 < l.length) : all l = rest l 0 [] := by unfold all rest; rw [if_neg h]

end Go.Proofs.YtdeojcodbojmoaaGreatDoor.Wd
namespace Go.Proofs.YtdeojcodbojmoaaGreatDoor
namespace Ps
set_option linter.unusedVariables false

/-- A filter: without parts, of one, of two. -/
inductive Ft where
  | leaf (op key lo hi : Int) (tag : ByteArray)
  | non (f : Ft)
  | two (op : Int) (f g : Ft)

/-- How deep it is. -/
def Ft.deep : Ft → Nat
  | .leaf .. => 1
  | .non f => 1 + f.deep
  | .two _ f g => 1 + max f.deep g.deep

theorem Ft.deep_pos (f : Ft) : 1 ≤ f.deep := by cases f <;> simp [Ft.deep] <;> omega

/-- A tag of letters. -/
def Tag (l : List UInt8) : Prop := 1 ≤ l.length ∧ l.length ≤ 6 ∧ ∀ j (h : j < l.length), 97 ≤ (l[j].toNat : Int) ∧ (l[j].toNat : Int) ≤ 122

/-- It may be, its depth aside. -/
def Ft.wf : Ft → Prop
  | .leaf op k lo hi t => (op = 1 ∧ k = 0 ∧ lo = 0 ∧ hi = 0 ∧ t = ⟨#[]⟩) ∨ (op = 2 ∧ 0 ≤ k ∧ k < 4 ∧ 0 ≤ lo ∧ lo ≤ 99 ∧ hi = lo ∧ t = ⟨#[]⟩) ∨
      (op = 3 ∧ 0 ≤ k ∧ k < 4 ∧ 0 ≤ lo ∧ lo ≤ hi ∧ hi ≤ 99 ∧ t = ⟨#[]⟩) ∨ (op = 4 ∧ k = 0 ∧ lo = 0 ∧ hi = 0 ∧ ∃ l, t = ⟨l.toArray⟩ ∧ Tag l)
  | .non f => f.wf
  | .two op f g => (op = 5 ∨ op = 6) ∧ f.wf ∧ g.wf

/-- The word at p is the mark c. -/
def isMark (ws : List Wd.Word) (p : Nat) (c : UInt8) : Bool :=
  match ws[p]? with
  | some x => x.kind == 3 && x.text == [c]
  | none => false

/-- The number at p. -/
def num (ws : List Wd.Word) (p : Nat) (below : Int) : Option Int :=
  match ws[p]? with
  | some x => if x.kind = 2 ∧ x.num < below then some x.num else none
  | none => none

/-- The name at p. -/
def name (ws : List Wd.Word) (p : Nat) : Option (List UInt8) :=
  match ws[p]? with
  | some x => if x.kind = 1 then some x.text else none
  | none => none

inductive Job where
  | or
  | and
  | not
  | orM (f : Ft)
  | andM (f : Ft)

def key (ws : List Wd.Word) (p : Nat) : Option (Ft × Nat) :=
  match num ws p 4 with
  | none => none
  | some k =>
    if isMark ws (p + 1) 61 then
      match num ws (p + 2) 100 with
      | none => none
      | some a => some (.leaf 2 k a a ⟨#[]⟩, p + 3)
    else if isMark ws (p + 1) 58 then
      match num ws (p + 2) 100 with
      | none => none
      | some a =>
        if isMark ws (p + 3) 45 then
          match num ws (p + 4) 100 with
          | none => none
          | some b => if a ≤ b then some (.leaf 3 k a b ⟨#[]⟩, p + 5) else none
        else none
    else none

def pars (ws : List Wd.Word) : Nat → Job → Nat → Option (Ft × Nat)
  | 0, _, _ => none
  | n + 1, .or, p =>
    match pars ws n .and p with
    | none => none
    | some (f, q) => pars ws n (.orM f) q
  | n + 1, .orM f, p =>
    if isMark ws p 124 then
      match pars ws n .and (p + 1) with
      | none => none
      | some (g, q) => pars ws n (.orM (.two 6 f g)) q
    else some (f, p)
  | n + 1, .and, p =>
    match pars ws n .not p with
    | none => none
    | some (f, q) => pars ws n (.andM f) q
  | n + 1, .andM f, p =>
    if isMark ws p 38 then
      match pars ws n .not (p + 1) with
      | none => none
      | some (g, q) => pars ws n (.andM (.two 5 f g)) q
    else some (f, p)
  | n + 1, .not, p =>
    if isMark ws p 33 then
      match pars ws n .not (p + 1) with
      | none => none
      | some (f, q) => some (.non f, q)
    else if isMark ws p 40 then
      match pars ws n .or (p + 1) with
      | none => none
      | some (f, q) => if isMark ws q 41 then some (f, q + 1) else none
    else if isMark ws p 42 then some (.leaf 1 0 0 0 ⟨#[]⟩, p + 1)
    else if isMark ws p 94 then
      match name ws (p + 1) with
      | none => none
      | some t => some (.leaf 4 0 0 0 ⟨t.toArray⟩, p + 2)
    else if isMark ws p 64 then key ws (p + 1)
    else none

/-- A mark is one of the words. -/
theorem isMark_lt {ws : List Wd.Word} {p : Nat} {c : UInt8} (h : isMark ws p c = true) : p < ws.length := by
  unfold isMark at h
  cases e : ws[p]? with
  | none => rw [e] at h; cases h
  | some x => exact (List.getElem?_eq_some_iff.1 e).1

/-- One word is one mark at most. -/
theorem isMark_one {ws : List Wd.Word} {p : Nat} {c d : UInt8} (h : isMark ws p c = true) (hd : c ≠ d) : isMark ws p d = false := by
  unfold isMark at h ⊢
  cases e : ws[p]? with
  | none => rfl
  | some x =>
    rw [e] at h
    simp only [Bool.and_eq_true, beq_iff_eq] at h
    simp [h.2, hd]

/-- What a word may be. -/
def Good (x : Wd.Word) : Prop := (x.kind = 1 ∨ x.kind = 2 ∨ x.kind = 3) ∧ (x.kind = 1 → Tag x.text) ∧ (x.kind = 2 → 0 ≤ x.num ∧ x.num ≤ 99)
def Goods (ws : List Wd.Word) : Prop := ws.length ≤ 60 ∧ ∀ x ∈ ws, Good x

theorem num_some {ws : List Wd.Word} {p : Nat} {b a : Int} (hg : Goods ws) (h : num ws p b = some a) : p < ws.length ∧ 0 ≤ a ∧ a ≤ 99 ∧ a < b := by
  unfold num at h
  cases e : ws[p]? with
  | none => rw [e] at h; cases h
  | some x =>
    rw [e] at h
    simp only at h
    split at h
    · rename_i hx
      cases h
      obtain ⟨hp, hx2⟩ := List.getElem?_eq_some_iff.1 e
      have hgx := hg.2 x (by rw [← hx2]; exact List.getElem_mem hp)
      have := hgx.2.2 hx.1
      exact ⟨hp, this.1, this.2, hx.2⟩
    · cases h

theorem name_some {ws : List Wd.Word} {p : Nat} {t : List UInt8} (hg : Goods ws) (h : name ws p = some t) : p < ws.length ∧ Tag t := by
  unfold name at h
  cases e : ws[p]? with
  | none => rw [e] at h; cases h
  | some x =>
    rw [e] at h
    simp only at h
    split at h
    · rename_i hx
      cases h
      obtain ⟨hp, hx2⟩ := List.getElem?_eq_some_iff.1 e
      have hgx := hg.2 x (by rw [← hx2]; exact List.getElem_mem hp)
      exact ⟨hp, hgx.2.1 hx⟩
    · cases h

theorem key_some {ws : List Wd.Word} {p q : Nat} {f : Ft} (hg : Goods ws) (h : key ws p = some (f, q)) : f.wf ∧ f.deep = 1 ∧ q ≤ ws.length ∧ p < q := by
  unfold key at h
  cases e1 : num ws p 4 with
  | none => rw [e1] at h; cases h
  | some k =>
    obtain ⟨h0, h1, h2, h3⟩ := num_some hg e1
    rw [e1] at h
    simp only at h
    split at h
    · rename_i em
      cases e2 : num ws (p + 2) 100 with
      | none => rw [e2] at h; cases h
      | some a =>
        rw [e2] at h
        obtain ⟨g0, g1, g2, g3⟩ := num_some hg e2
        cases h
        exact ⟨.inr (.inl ⟨rfl, h1, h3, g1, g2, rfl, rfl⟩), rfl, by omega, by omega⟩
    · split at h
      · cases e2 : num ws (p + 2) 100 with
        | none => rw [e2] at h; cases h
        | some a =>
          rw [e2] at h
          obtain ⟨g0, g1, g2, g3⟩ := num_some hg e2
          simp only at h
          split at h
          · cases e3 : num ws (p + 4) 100 with
            | none => rw [e3] at h; cases h
            | some b =>
              rw [e3] at h
              obtain ⟨k0, k1, k2, k3⟩ := num_some hg e3
              simp only at h
              split at h
              · cases h
                exact ⟨.inr (.inr (.inl ⟨rfl, h1, h3, g1, by assumption, k2, rfl⟩)), rfl, by omega, by omega⟩
              · cases h
          · cases h
      · cases h

/-- What stands when a job begins. -/
def pre (j : Job) (s p : Nat) : Prop := match j with
  | .orM f => f.wf ∧ f.deep + s ≤ p
  | .andM f => f.wf ∧ f.deep + s ≤ p
  | _ => s = p

theorem pars_some (ws : List Wd.Word) (hg : Goods ws) (n : Nat) : ∀ (j : Job) (s p q : Nat) (g : Ft), pars ws n j p = some (g, q) → pre j s p → p ≤ ws.length → g.wf ∧ g.deep + s ≤ q ∧ q ≤ ws.length ∧ p ≤ q := by
  induction n with
  | zero => intro j s p q g h; cases h
  | succ n ih =>
    intro j s p q g h hp hl
    cases j with
    | or =>
      simp only [pars] at h
      have hs : s = p := hp
      split at h
      · cases h
      · rename_i f r e
        obtain ⟨a1, a2, a3, a4⟩ := ih .and p p r f e rfl hl
        obtain ⟨b1, b2, b3, b4⟩ := ih (.orM f) s r q g h ⟨a1, by omega⟩ a3
        exact ⟨b1, b2, b3, by omega⟩
    | and =>
      simp only [pars] at h
      have hs : s = p := hp
      split at h
      · cases h
      · rename_i f r e
        obtain ⟨a1, a2, a3, a4⟩ := ih .not p p r f e rfl hl
        obtain ⟨b1, b2, b3, b4⟩ := ih (.andM f) s r q g h ⟨a1, by omega⟩ a3
        exact ⟨b1, b2, b3, by omega⟩
    | orM f =>
      simp only [pars] at h
      obtain ⟨hw, hd⟩ : f.wf ∧ f.deep + s ≤ p := hp
      split at h
      · rename_i hm
        have := isMark_lt hm
        split at h
        · cases h
        · rename_i g' r e
          obtain ⟨a1, a2, a3, a4⟩ := ih .and (p + 1) (p + 1) r g' e rfl (by omega)
          obtain ⟨b1, b2, b3, b4⟩ := ih (.orM (.two 6 f g')) s r q g h ⟨⟨.inr rfl, hw, a1⟩, by simp only [Ft.deep]; omega⟩ a3
          exact ⟨b1, b2, b3, by omega⟩
      · cases h; exact ⟨hw, hd, hl, Nat.le_refl _⟩
    | andM f =>
      simp only [pars] at h
      obtain ⟨hw, hd⟩ : f.wf ∧ f.deep + s ≤ p := hp
      split at h
      · rename_i hm
        have := isMark_lt hm
        split at h
        · cases h
        · rename_i g' r e
          obtain ⟨a1, a2, a3, a4⟩ := ih .not (p + 1) (p + 1) r g' e rfl (by omega)
          obtain ⟨b1, b2, b3, b4⟩ := ih (.andM (.two 5 f g')) s r q g h ⟨⟨.inl rfl, hw, a1⟩, by simp only [Ft.deep]; omega⟩ a3
          exact ⟨b1, b2, b3, by omega⟩
      · cases h; exact ⟨hw, hd, hl, Nat.le_refl _⟩
    | not =>
      simp only [pars] at h
      have hs : s = p := hp
      subst hs
      split at h
      · rename_i hm
        have := isMark_lt hm
        split at h
        · cases h
        · rename_i f r e
          obtain ⟨a1, a2, a3, a4⟩ := ih .not (s + 1) (s + 1) r f e rfl (by omega)
          cases h
          exact ⟨a1, by simp only [Ft.deep]; omega, a3, by omega⟩
      · split at h
        · rename_i hm
          have := isMark_lt hm
          split at h
          · cases h
          · rename_i f r e
            obtain ⟨a1, a2, a3, a4⟩ := ih .or (s + 1) (s + 1) r f e rfl (by omega)
            split at h
            · rename_i hm2
              have := isMark_lt hm2
              cases h
              exact ⟨a1, by omega, by omega, by omega⟩
            · cases h
        · split at h
          · rename_i hm
            have := isMark_lt hm
            cases h
            exact ⟨.inl ⟨rfl, rfl, rfl, rfl, rfl⟩, by simp only [Ft.deep]; omega, by omega, by omega⟩
          · split at h
            · rename_i hm
              have := isMark_lt hm
              cases e : name ws (s + 1) with
              | none => rw [e] at h; cases h
              | some t =>
                rw [e] at h
                obtain ⟨n1, n2⟩ := name_some hg e
                cases h
                exact ⟨.inr (.inr (.inr ⟨rfl, rfl, rfl, rfl, t, rfl, n2⟩)), by simp only [Ft.deep]; omega, by omega, by omega⟩
            · split at h
              · obtain ⟨k1, k2, k3, k4⟩ := key_some hg h
                exact ⟨k1, by omega, k3, by omega⟩
              · cases h

/-- Fuel that is enough. -/
def need (j : Job) (m : Nat) : Nat := match j with
  | .not => 3 * m + 1
  | .and => 3 * m + 2
  | .or => 3 * m + 3
  | .orM _ => 3 * m + 1
  | .andM _ => 3 * m + 1

/-- What a text of words says: none if it is no filter's. -/
def whole (ws : List Wd.Word) : Option Ft := match pars ws 200 .or 0 with
  | some (f, q) => if q = ws.length then some f else none
  | none => none

/-- Is a text a filter's? -/
def okP (l : List UInt8) : Bool := (Wd.all l).2.2 && (match whole (Wd.all l).1 with
  | some f => decide (f.deep ≤ 6)
  | none => false)

/-- The first word of a text is a good one. -/
theorem first_good (l : List UInt8) (p : Nat) (h : ¬ (Wd.first l).size = 0) : Good ⟨(Wd.first l).kind, (Wd.first l).text, (Wd.first l).num, p⟩ := by
  cases l with
  | nil => exact absurd rfl h
  | cons c r =>
    by_cases h0 : 6 < Wd.cnt 97 122 (c :: r) ∨ 2 < Wd.cnt 48 57 (c :: r)
    · rw [Wd.first_many h0] at h; exact absurd rfl h
    · by_cases h1 : 0 < Wd.cnt 97 122 (c :: r)
      · rw [Wd.first_name h0 h1]
        have hle := Wd.cnt_le 97 122 (c :: r)
        refine ⟨.inl rfl, fun _ => ⟨?_, ?_, fun j hj => ?_⟩, fun h => by cases h⟩
        · simp only [List.length_take]; omega
        · simp only [List.length_take]; omega
        · simp only [List.length_take] at hj
          have := Wd.cnt_all 97 122 (c :: r) j (by omega) (by omega)
          simpa using this
      · by_cases h2 : 0 < Wd.cnt 48 57 (c :: r)
        · rw [Wd.first_number h0 h1 h2]
          have hle := Wd.cnt_le 48 57 (c :: r)
          refine ⟨.inr (.inl rfl), (fun h => by cases h), fun _ => ?_⟩
          have ha := fun j hj => Wd.cnt_all 48 57 (c :: r) j hj
          generalize hk : Wd.cnt 48 57 (c :: r) = k at *
          have hk2 : k = 1 ∨ k = 2 := by omega
          rcases hk2 with rfl | rfl
          · have := ha 0 (by simp) (by omega)
            simp only [List.getElem_cons_zero] at this
            simp [Wd.value, Wd.digit]
            omega
          · match r, hle, ha with
            | d :: r', _, ha =>
              have a0 := ha 0 (by simp) (by omega)
              have a1 := ha 1 (by simp) (by omega)
              simp only [List.getElem_cons_zero, List.getElem_cons_succ] at a0 a1
              simp [Wd.value, Wd.digit]
              omega
        · by_cases h3 : c ∈ Wd.marks
          · rw [Wd.first_mark h0 h1 h2 h3]
            exact ⟨.inr (.inr rfl), (fun h => by cases h), fun h => by cases h⟩
          · rw [Wd.first_none h0 h1 h2 h3] at h; exact absurd rfl h

theorem scan_good (l : List UInt8) (f : Nat) : ∀ (p : Nat) (acc : List Wd.Word), Goods acc → Goods (Wd.scan l f p acc).1 := by
  induction f with
  | zero => intro p acc h; exact h
  | succ f ih =>
    intro p acc h
    unfold Wd.scan
    split
    · exact h
    · rename_i c r _
      split
      · exact ih _ _ h
      · split
        · exact ⟨by simp, fun x hx => (List.not_mem_nil hx).elim⟩
        · rename_i hn
          refine ih _ _ ⟨?_, fun x hx => ?_⟩
          · have := h.1
            simp only [List.length_append, List.length_cons, List.length_nil]; omega
          · rcases List.mem_append.1 hx with hx | hx
            · exact h.2 x hx
            · rw [List.mem_singleton.1 hx]
              exact first_good (c :: r) p (by omega)

theorem all_good (l : List UInt8) : Goods (Wd.all l).1 := by
  unfold Wd.all
  split
  · exact ⟨by simp, fun x hx => (List.not_mem_nil hx).elim⟩
  · exact scan_good l _ _ _ ⟨by simp, fun x hx => (List.not_mem_nil hx).elim⟩

end Ps
end Go.Proofs.YtdeojcodbojmoaaGreatDoor
namespace Go.Proofs.YtdeojcodbojmoaaGreatDoor
namespace Ps
set_option linter.unusedVariables false

theorem pars_fuel (ws : List Wd.Word) (hg : Goods ws) (n : Nat) : ∀ (m : Nat) (j : Job) (p : Nat), p ≤ ws.length → need j (ws.length - p) ≤ n → need j (ws.length - p) ≤ m → (∀ f, j = .orM f ∨ j = .andM f → f.wf) → pars ws n j p = pars ws m j p := by
  induction n with
  | zero => intro m j p _ h; cases j <;> simp [need] at h
  | succ n ih =>
    intro m j p hp h1 h2 hw
    cases m with
    | zero => cases j <;> simp [need] at h2
    | succ m =>
      have nw : ∀ j : Job, (j = .or ∨ j = .and ∨ j = .not) → ∀ f, j = .orM f ∨ j = .andM f → f.wf := fun j hj f hf => by
        rcases hj with rfl | rfl | rfl <;> rcases hf with hf | hf <;> cases hf
      cases j with
      | or =>
        simp only [need] at h1 h2
        simp only [pars]
        rw [ih m .and p hp (by simp only [need]; omega) (by simp only [need]; omega) (nw _ (.inr (.inl rfl)))]
        cases e : pars ws m .and p with
        | none => rfl
        | some x =>
          obtain ⟨f, q⟩ := x
          obtain ⟨a1, a2, a3, a4⟩ := pars_some ws hg m .and p p q f e rfl hp
          simp only
          exact ih m (.orM f) q a3 (by simp only [need]; omega) (by simp only [need]; omega) (fun f' hf => by rcases hf with hf | hf <;> cases hf; exact a1)
      | and =>
        simp only [need] at h1 h2
        simp only [pars]
        rw [ih m .not p hp (by simp only [need]; omega) (by simp only [need]; omega) (nw _ (.inr (.inr rfl)))]
        cases e : pars ws m .not p with
        | none => rfl
        | some x =>
          obtain ⟨f, q⟩ := x
          obtain ⟨a1, a2, a3, a4⟩ := pars_some ws hg m .not p p q f e rfl hp
          simp only
          exact ih m (.andM f) q a3 (by simp only [need]; omega) (by simp only [need]; omega) (fun f' hf => by rcases hf with hf | hf <;> cases hf; exact a1)
      | orM g =>
        simp only [need] at h1 h2
        simp only [pars]
        by_cases hm : isMark ws p 124 = true
        · rw [if_pos hm, if_pos hm]
          have hl := isMark_lt hm
          rw [ih m .and (p + 1) (by omega) (by simp only [need]; omega) (by simp only [need]; omega) (nw _ (.inr (.inl rfl)))]
          cases e : pars ws m .and (p + 1) with
          | none => rfl
          | some x =>
            obtain ⟨f, q⟩ := x
            obtain ⟨a1, a2, a3, a4⟩ := pars_some ws hg m .and (p + 1) (p + 1) q f e rfl (by omega)
            simp only
            exact ih m (.orM (.two 6 g f)) q a3 (by simp only [need]; omega) (by simp only [need]; omega) (fun f' hf => by rcases hf with hf | hf <;> cases hf; exact ⟨.inr rfl, hw g (.inl rfl), a1⟩)
        · rw [if_neg hm, if_neg hm]
      | andM g =>
        simp only [need] at h1 h2
        simp only [pars]
        by_cases hm : isMark ws p 38 = true
        · rw [if_pos hm, if_pos hm]
          have hl := isMark_lt hm
          rw [ih m .not (p + 1) (by omega) (by simp only [need]; omega) (by simp only [need]; omega) (nw _ (.inr (.inr rfl)))]
          cases e : pars ws m .not (p + 1) with
          | none => rfl
          | some x =>
            obtain ⟨f, q⟩ := x
            obtain ⟨a1, a2, a3, a4⟩ := pars_some ws hg m .not (p + 1) (p + 1) q f e rfl (by omega)
            simp only
            exact ih m (.andM (.two 5 g f)) q a3 (by simp only [need]; omega) (by simp only [need]; omega) (fun f' hf => by rcases hf with hf | hf <;> cases hf; exact ⟨.inl rfl, hw g (.inr rfl), a1⟩)
        · rw [if_neg hm, if_neg hm]
      | not =>
        simp only [need] at h1 h2
        simp only [pars]
        by_cases h33 : isMark ws p 33 = true
        · rw [if_pos h33, if_pos h33]
          have hl := isMark_lt h33
          rw [ih m .not (p + 1) (by omega) (by simp only [need]; omega) (by simp only [need]; omega) (nw _ (.inr (.inr rfl)))]
        · rw [if_neg h33, if_neg h33]
          by_cases h40 : isMark ws p 40 = true
          · rw [if_pos h40, if_pos h40]
            have hl := isMark_lt h40
            rw [ih m .or (p + 1) (by omega) (by simp only [need]; omega) (by simp only [need]; omega) (nw _ (.inl rfl))]
          · rw [if_neg h40, if_neg h40]

/-- What reading from p on tells. -/
def P (ws : List Wd.Word) (j : Job) (p : Nat) : Option (Ft × Nat) := pars ws 200 j p

/-- One round of it. -/
def step (A : Job → Nat → Option (Ft × Nat)) (ws : List Wd.Word) : Job → Nat → Option (Ft × Nat)
  | .or, p =>
    match A .and p with
    | none => none
    | some (f, q) => A (.orM f) q
  | .orM f, p =>
    if isMark ws p 124 then
      match A .and (p + 1) with
      | none => none
      | some (g, q) => A (.orM (.two 6 f g)) q
    else some (f, p)
  | .and, p =>
    match A .not p with
    | none => none
    | some (f, q) => A (.andM f) q
  | .andM f, p =>
    if isMark ws p 38 then
      match A .not (p + 1) with
      | none => none
      | some (g, q) => A (.andM (.two 5 f g)) q
    else some (f, p)
  | .not, p =>
    if isMark ws p 33 then
      match A .not (p + 1) with
      | none => none
      | some (f, q) => some (.non f, q)
    else if isMark ws p 40 then
      match A .or (p + 1) with
      | none => none
      | some (f, q) => if isMark ws q 41 then some (f, q + 1) else none
    else if isMark ws p 42 then some (.leaf 1 0 0 0 ⟨#[]⟩, p + 1)
    else if isMark ws p 94 then
      match name ws (p + 1) with
      | none => none
      | some t => some (.leaf 4 0 0 0 ⟨t.toArray⟩, p + 2)
    else if isMark ws p 64 then key ws (p + 1)
    else none

theorem pars_step (ws : List Wd.Word) (n : Nat) (j : Job) (p : Nat) : pars ws (n + 1) j p = step (pars ws n) ws j p := by
  cases j <;> simp only [pars, step] <;> rfl

theorem P_step (ws : List Wd.Word) (j : Job) (p : Nat) : P ws j p = step (pars ws 199) ws j p := pars_step ws 199 j p

theorem need_le (ws : List Wd.Word) (hg : Goods ws) (j : Job) (p : Nat) : need j (ws.length - p) ≤ 199 := by
  have := hg.1
  cases j <;> simp only [need] <;> omega

theorem P_199 {ws : List Wd.Word} (hg : Goods ws) (j : Job) (p : Nat) (hp : p ≤ ws.length) (hw : ∀ f, j = .orM f ∨ j = .andM f → f.wf) : pars ws 199 j p = P ws j p := by
  have h := need_le ws hg j p
  exact pars_fuel ws hg 199 200 j p hp h (by omega) hw

theorem P_some {ws : List Wd.Word} (hg : Goods ws) {j : Job} {s p q : Nat} {g : Ft} (h : P ws j p = some (g, q)) (hpre : pre j s p) (hp : p ≤ ws.length) : g.wf ∧ g.deep + s ≤ q ∧ q ≤ ws.length ∧ p ≤ q := pars_some ws hg 200 j s p q g h hpre hp

theorem plain_j (j : Job) (hj : j = .or ∨ j = .and ∨ j = .not) : ∀ f, j = .orM f ∨ j = .andM f → f.wf := fun f hf => by
  rcases hj with rfl | rfl | rfl <;> rcases hf with hf | hf <;> cases hf

theorem P_or {ws : List Wd.Word} (hg : Goods ws) (p : Nat) (hp : p ≤ ws.length) : P ws .or p = match P ws .and p with
    | none => none
    | some (f, q) => P ws (.orM f) q := by
  have e : P ws .or p = match pars ws 199 .and p with
    | none => none
    | some (f, q) => pars ws 199 (.orM f) q := by rw [P_step]; simp only [step]
  rw [e, P_199 hg .and p hp (plain_j _ (.inr (.inl rfl)))]
  cases h : P ws .and p with
  | none => rfl
  | some x =>
    obtain ⟨f, q⟩ := x
    obtain ⟨a1, a2, a3, a4⟩ := P_some hg h (s := p) rfl hp
    simp only
    exact P_199 hg (.orM f) q a3 (fun f' hf => by rcases hf with hf | hf <;> cases hf; exact a1)

theorem P_and {ws : List Wd.Word} (hg : Goods ws) (p : Nat) (hp : p ≤ ws.length) : P ws .and p = match P ws .not p with
    | none => none
    | some (f, q) => P ws (.andM f) q := by
  have e : P ws .and p = match pars ws 199 .not p with
    | none => none
    | some (f, q) => pars ws 199 (.andM f) q := by rw [P_step]; simp only [step]
  rw [e, P_199 hg .not p hp (plain_j _ (.inr (.inr rfl)))]
  cases h : P ws .not p with
  | none => rfl
  | some x =>
    obtain ⟨f, q⟩ := x
    obtain ⟨a1, a2, a3, a4⟩ := P_some hg h (s := p) rfl hp
    simp only
    exact P_199 hg (.andM f) q a3 (fun f' hf => by rcases hf with hf | hf <;> cases hf; exact a1)

theorem P_orM_no {ws : List Wd.Word} (f : Ft) (p : Nat) (h : isMark ws p 124 = false) : P ws (.orM f) p = some (f, p) := by
  rw [P_step]; simp only [step, h, Bool.false_eq_true, if_false]
theorem P_andM_no {ws : List Wd.Word} (f : Ft) (p : Nat) (h : isMark ws p 38 = false) : P ws (.andM f) p = some (f, p) := by
  rw [P_step]; simp only [step, h, Bool.false_eq_true, if_false]
theorem P_orM_bad {ws : List Wd.Word} (hg : Goods ws) (f : Ft) (p : Nat) (h : isMark ws p 124 = true) (hn : P ws .and (p + 1) = none) : P ws (.orM f) p = none := by
  rw [← P_199 hg .and (p + 1) (isMark_lt h) (plain_j _ (.inr (.inl rfl)))] at hn
  rw [P_step]; simp only [step, h, if_true, hn]
theorem P_andM_bad {ws : List Wd.Word} (hg : Goods ws) (f : Ft) (p : Nat) (h : isMark ws p 38 = true) (hn : P ws .not (p + 1) = none) : P ws (.andM f) p = none := by
  rw [← P_199 hg .not (p + 1) (isMark_lt h) (plain_j _ (.inr (.inr rfl)))] at hn
  rw [P_step]; simp only [step, h, if_true, hn]
theorem P_orM_yes {ws : List Wd.Word} (hg : Goods ws) (f g : Ft) (p q : Nat) (hf : f.wf) (h : isMark ws p 124 = true) (hn : P ws .and (p + 1) = some (g, q)) : P ws (.orM f) p = P ws (.orM (.two 6 f g)) q := by
  obtain ⟨a1, a2, a3, a4⟩ := P_some hg hn (s := p + 1) rfl (isMark_lt h)
  rw [← P_199 hg .and (p + 1) (isMark_lt h) (plain_j _ (.inr (.inl rfl)))] at hn
  have e : P ws (.orM f) p = pars ws 199 (.orM (.two 6 f g)) q := by rw [P_step]; simp only [step, h, if_true, hn]
  rw [e]
  exact P_199 hg _ q a3 (fun f' hf' => by rcases hf' with hf' | hf' <;> cases hf'; exact ⟨.inr rfl, hf, a1⟩)
theorem P_andM_yes {ws : List Wd.Word} (hg : Goods ws) (f g : Ft) (p q : Nat) (hf : f.wf) (h : isMark ws p 38 = true) (hn : P ws .not (p + 1) = some (g, q)) : P ws (.andM f) p = P ws (.andM (.two 5 f g)) q := by
  obtain ⟨a1, a2, a3, a4⟩ := P_some hg hn (s := p + 1) rfl (isMark_lt h)
  rw [← P_199 hg .not (p + 1) (isMark_lt h) (plain_j _ (.inr (.inr rfl)))] at hn
  have e : P ws (.andM f) p = pars ws 199 (.andM (.two 5 f g)) q := by rw [P_step]; simp only [step, h, if_true, hn]
  rw [e]
  exact P_199 hg _ q a3 (fun f' hf' => by rcases hf' with hf' | hf' <;> cases hf'; exact ⟨.inl rfl, hf, a1⟩)

/-- What binds most, once. -/
theorem P_not {ws : List Wd.Word} (hg : Goods ws) (p : Nat) (hp : p ≤ ws.length) : P ws .not p =
    if isMark ws p 33 then (match P ws .not (p + 1) with
      | none => none
      | some (f, q) => some (.non f, q))
    else if isMark ws p 40 then (match P ws .or (p + 1) with
      | none => none
      | some (f, q) => if isMark ws q 41 then some (f, q + 1) else none)
    else if isMark ws p 42 then some (.leaf 1 0 0 0 ⟨#[]⟩, p + 1)
    else if isMark ws p 94 then (match name ws (p + 1) with
      | none => none
      | some t => some (.leaf 4 0 0 0 ⟨t.toArray⟩, p + 2))
    else if isMark ws p 64 then key ws (p + 1)
    else none := by
  by_cases h33 : isMark ws p 33 = true
  · rw [← P_199 hg .not (p + 1) (isMark_lt h33) (plain_j _ (.inr (.inr rfl)))]
    rw [P_step]; simp only [step, h33, if_true] <;> rfl
  · by_cases h40 : isMark ws p 40 = true
    · rw [← P_199 hg .or (p + 1) (isMark_lt h40) (plain_j _ (.inl rfl))]
      rw [P_step]; simp only [step, h33, h40, Bool.false_eq_true, if_true, if_false] <;> rfl
    · rw [P_step]; simp only [step, h33, h40, Bool.false_eq_true, if_false] <;> rfl

end Ps
end Go.Proofs.YtdeojcodbojmoaaGreatDoor
namespace Go.Proofs.YtdeojcodbojmoaaGreatDoor
namespace Ps

theorem key_gt {ws : List Wd.Word} {p q : Nat} {f : Ft} (h : key ws p = some (f, q)) : p < q := by
  unfold key at h
  repeat (first | (split at h) | (cases h; omega) | cases h)

theorem pars_ge (ws : List Wd.Word) (n : Nat) : ∀ (j : Job) (p q : Nat) (f : Ft), pars ws n j p = some (f, q) → p ≤ q := by
  induction n with
  | zero => intro j p q f h; cases h
  | succ n ih =>
    intro j p q f h
    cases j with
    | or =>
      simp only [pars] at h
      split at h
      · cases h
      · rename_i g r e
        exact Nat.le_trans (ih _ _ _ _ e) (ih _ _ _ _ h)
    | and =>
      simp only [pars] at h
      split at h
      · cases h
      · rename_i g r e
        exact Nat.le_trans (ih _ _ _ _ e) (ih _ _ _ _ h)
    | orM g =>
      simp only [pars] at h
      split at h
      · split at h
        · cases h
        · rename_i e
          have := ih _ _ _ _ e
          have := ih _ _ _ _ h
          omega
      · cases h; omega
    | andM g =>
      simp only [pars] at h
      split at h
      · split at h
        · cases h
        · rename_i e
          have := ih _ _ _ _ e
          have := ih _ _ _ _ h
          omega
      · cases h; omega
    | not =>
      simp only [pars] at h
      split at h
      · split at h
        · cases h
        · rename_i e
          have := ih _ _ _ _ e
          cases h
          omega
      · split at h
        · split at h
          · cases h
          · rename_i e
            have := ih _ _ _ _ e
            split at h
            · cases h; omega
            · cases h
        · split at h
          · cases h; omega
          · split at h
            · split at h
              · cases h
              · cases h; omega
            · split at h
              · have := key_gt h; omega
              · cases h

end Ps
end Go.Proofs.YtdeojcodbojmoaaGreatDoor
