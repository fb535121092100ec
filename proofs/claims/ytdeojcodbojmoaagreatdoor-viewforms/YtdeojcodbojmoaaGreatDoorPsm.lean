/- A filter out of words, as plain mathematics: what is right is told, what is not is told to be none. -/
import Derived.Test.YtdeojcodbojmoaaGreatDoorPlain
namespace Go.Proofs.YtdeojcodbojmoaaGreatDoor
namespace Ps
set_option linter.unusedVariables false

/-- A filter: without parts, of one, of two. -/
inductive Ft where
  | leaf (op key lo hi : Int) (tag : ByteArray)
  | non (f : Ft)
  | two (op : Int) (f g : Ft)

/-- How deep it is. -/
def Ft.deep : Ft → Nat
  | .leaf .. => 1
  | .non f => 1 + f.deep
  | .two _ f g => 1 + max f.deep g.deep

theorem Ft.deep_pos (f : Ft) : 1 ≤ f.deep := by cases f <;> simp [Ft.deep] <;> omega

/-- A tag of letters. -/
def Tag (l : List UInt8) : Prop := 1 ≤ l.length ∧ l.length ≤ 6 ∧ ∀ j (h : j < l.length), 97 ≤ (l[j].toNat : Int) ∧ (l[j].toNat : Int) ≤ 122

/-- It may be, its depth aside. -/
def Ft.wf : Ft → Prop
  | .leaf op k lo hi t => (op = 1 ∧ k = 0 ∧ lo = 0 ∧ hi = 0 ∧ t = ⟨#[]⟩) ∨ (op = 2 ∧ 0 ≤ k ∧ k < 4 ∧ 0 ≤ lo ∧ lo ≤ 99 ∧ hi = lo ∧ t = ⟨#[]⟩) ∨
      (op = 3 ∧ 0 ≤ k ∧ k < 4 ∧ 0 ≤ lo ∧ lo ≤ hi ∧ hi ≤ 99 ∧ t = ⟨#[]⟩) ∨ (op = 4 ∧ k = 0 ∧ lo = 0 ∧ hi = 0 ∧ ∃ l, t = ⟨l.toArray⟩ ∧ Tag l)
  | .non f => f.wf
  | .two op f g => (op = 5 ∨ op = 6) ∧ f.wf ∧ g.wf

/-- The word at p is the mark c. -/
def isMark (ws : List Wd.Word) (p : Nat) (c : UInt8) : Bool :=
  match ws[p]? with
  | some x => x.kind == 3 && x.text == [c]
  | none => false

/-- The number at p. -/
def num (ws : List Wd.Word) (p : Nat) (below : Int) : Option Int :=
  match ws[p]? with
  | some x => if x.kind = 2 ∧ x.num < below then some x.num else none
  | none => none

/-- The name at p. -/
def name (ws : List Wd.Word) (p : Nat) : Option (List UInt8) :=
  match ws[p]? with
  | some x => if x.kind = 1 then some x.text else none
  | none => none

inductive Job where
  | or
  | and
  | not
  | orM (f : Ft)
  | andM (f : Ft)

def key (ws : List Wd.Word) (p : Nat) : Option (Ft × Nat) :=
  match num ws p 4 with
  | none => none
  | some k =>
    if isMark ws (p + 1) 61 then
      match num ws (p + 2) 100 with
      | none => none
      | some a => some (.leaf 2 k a a ⟨#[]⟩, p + 3)
    else if isMark ws (p + 1) 58 then
      match num ws (p + 2) 100 with
      | none => none
      | some a =>
        if isMark ws (p + 3) 45 then
          match num ws (p + 4) 100 with
          | none => none
          | some b => if a ≤ b then some (.leaf 3 k a b ⟨#[]⟩, p + 5) else none
        else none
    else none

def pars (ws : List Wd.Word) : Nat → Job → Nat → Option (Ft × Nat)
  | 0, _, _ => none
  | n + 1, .or, p =>
    match pars ws n .and p with
    | none => none
    | some (f, q) => pars ws n (.orM f) q
  | n + 1, .orM f, p =>
    if isMark ws p 124 then
      match pars ws n .and (p + 1) with
      | none => none
      | some (g, q) => pars ws n (.orM (.two 6 f g)) q
    else some (f, p)
  | n + 1, .and, p =>
    match pars ws n .not p with
    | none => none
    | some (f, q) => pars ws n (.andM f) q
  | n + 1, .andM f, p =>
    if isMark ws p 38 then
      match pars ws n .not (p + 1) with
      | none => none
      | some (g, q) => pars ws n (.andM (.two 5 f g)) q
    else some (f, p)
  | n + 1, .not, p =>
    if isMark ws p 33 then
      match pars ws n .not (p + 1) with
      | none => none
      | some (f, q) => some (.non f, q)
    else if isMark ws p 40 then
      match pars ws n .or (p + 1) with
      | none => none
      | some (f, q) => if isMark ws q 41 then some (f, q + 1) else none
    else if isMark ws p 42 then some (.leaf 1 0 0 0 ⟨#[]⟩, p + 1)
    else if isMark ws p 94 then
      match name ws (p + 1) with
      | none => none
      | some t => some (.leaf 4 0 0 0 ⟨t.toArray⟩, p + 2)
    else if isMark ws p 64 then key ws (p + 1)
    else none

/-- A mark is one of the words. -/
theorem isMark_lt {ws : List Wd.Word} {p : Nat} {c : UInt8} (h : isMark ws p c = true) : p < ws.length := by
  unfold isMark at h
  cases e : ws[p]? with
  | none => rw [e] at h; cases h
  | some x => exact (List.getElem?_eq_some_iff.1 e).1

/-- One word is one mark at most. -/
theorem isMark_one {ws : List Wd.Word} {p : Nat} {c d : UInt8} (h : isMark ws p c = true) (hd : c ≠ d) : isMark ws p d = false := by
  unfold isMark at h ⊢
  cases e : ws[p]? with
  | none => rfl
  | some x =>
    rw [e] at h
    simp only [Bool.and_eq_true, beq_iff_eq] at h
    simp [h.2, hd]

/-- What a word may be. -/
def Good (x : Wd.Word) : Prop := (x.kind = 1 ∨ x.kind = 2 ∨ x.kind = 3) ∧ (x.kind = 1 → Tag x.text) ∧ (x.kind = 2 → 0 ≤ x.num ∧ x.num ≤ 99)
def Goods (ws : List Wd.Word) : Prop := ws.length ≤ 60 ∧ ∀ x ∈ ws, Good x

theorem num_some {ws : List Wd.Word} {p : Nat} {b a : Int} (hg : Goods ws) (h : num ws p b = some a) : p < ws.length ∧ 0 ≤ a ∧ a ≤ 99 ∧ a < b := by
  unfold num at h
  cases e : ws[p]? with
  | none => rw [e] at h; cases h
  | some x =>
    rw [e] at h
    simp only at h
    split at h
    · rename_i hx
      cases h
      obtain ⟨hp, hx2⟩ := List.getElem?_eq_some_iff.1 e
      have hgx := hg.2 x (by rw [← hx2]; exact List.getElem_mem hp)
      have := hgx.2.2 hx.1
      exact ⟨hp, this.1, this.2, hx.2⟩
    · cases h

theorem name_some {ws : List Wd.Word} {p : Nat} {t : List UInt8} (hg : Goods ws) (h : name ws p = some t) : p < ws.length ∧ Tag t := by
  unfold name at h
  cases e : ws[p]? with
  | none => rw [e] at h; cases h
  | some x =>
    rw [e] at h
    simp only at h
    split at h
    · rename_i hx
      cases h
      obtain ⟨hp, hx2⟩ := List.getElem?_eq_some_iff.1 e
      have hgx := hg.2 x (by rw [← hx2]; exact List.getElem_mem hp)
      exact ⟨hp, hgx.2.1 hx⟩
    · cases h

theorem key_some {ws : List Wd.Word} {p q : Nat} {f : Ft} (hg : Goods ws) (h : key ws p = some (f, q)) : f.wf ∧ f.deep = 1 ∧ q ≤ ws.length ∧ p < q := by
  unfold key at h
  cases e1 : num ws p 4 with
  | none => rw [e1] at h; cases h
  | some k =>
    obtain ⟨h0, h1, h2, h3⟩ := num_some hg e1
    rw [e1] at h
    simp only at h
    split at h
    · rename_i em
      cases e2 : num ws (p + 2) 100 with
      | none => rw [e2] at h; cases h
      | some a =>
        rw [e2] at h
        obtain ⟨g0, g1, g2, g3⟩ := num_some hg e2
        cases h
        exact ⟨.inr (.inl ⟨rfl, h1, h3, g1, g2, rfl, rfl⟩), rfl, by omega, by omega⟩
    · split at h
      · cases e2 : num ws (p + 2) 100 with
        | none => rw [e2] at h; cases h
        | some a =>
          rw [e2] at h
          obtain ⟨g0, g1, g2, g3⟩ := num_some hg e2
          simp only at h
          split at h
          · cases e3 : num ws (p + 4) 100 with
            | none => rw [e3] at h; cases h
            | some b =>
              rw [e3] at h
              obtain ⟨k0, k1, k2, k3⟩ := num_some hg e3
              simp only at h
              split at h
              · cases h
                exact ⟨.inr (.inr (.inl ⟨rfl, h1, h3, g1, by assumption, k2, rfl⟩)), rfl, by omega, by omega⟩
              · cases h
          · cases h
      · cases h

/-- What stands when a job begins. -/
def pre (j : Job) (s p : Nat) : Prop := match j with
  | .orM f => f.wf ∧ f.deep + s ≤ p
  | .andM f => f.wf ∧ f.deep + s ≤ p
  | _ => s = p

theorem pars_some (ws : List Wd.Word) (hg : Goods ws) (n : Nat) : ∀ (j : Job) (s p q : Nat) (g : Ft), pars ws n j p = some (g, q) → pre j s p → p ≤ ws.length → g.wf ∧ g.deep + s ≤ q ∧ q ≤ ws.length ∧ p ≤ q := by
  induction n with
  | zero => intro j s p q g h; cases h
  | succ n ih =>
    intro j s p q g h hp hl
    cases j with
    | or =>
      simp only [pars] at h
      have hs : s = p := hp
      split at h
      · cases h
      · rename_i f r e
        obtain ⟨a1, a2, a3, a4⟩ := ih .and p p r f e rfl hl
        obtain ⟨b1, b2, b3, b4⟩ := ih (.orM f) s r q g h ⟨a1, by omega⟩ a3
        exact ⟨b1, b2, b3, by omega⟩
    | and =>
      simp only [pars] at h
      have hs : s = p := hp
      split at h
      · cases h
      · rename_i f r e
        obtain ⟨a1, a2, a3, a4⟩ := ih .not p p r f e rfl hl
        obtain ⟨b1, b2, b3, b4⟩ := ih (.andM f) s r q g h ⟨a1, by omega⟩ a3
        exact ⟨b1, b2, b3, by omega⟩
    | orM f =>
      simp only [pars] at h
      obtain ⟨hw, hd⟩ : f.wf ∧ f.deep + s ≤ p := hp
      split at h
      · rename_i hm
        have := isMark_lt hm
        split at h
        · cases h
        · rename_i g' r e
          obtain ⟨a1, a2, a3, a4⟩ := ih .and (p + 1) (p + 1) r g' e rfl (by omega)
          obtain ⟨b1, b2, b3, b4⟩ := ih (.orM (.two 6 f g')) s r q g h ⟨⟨.inr rfl, hw, a1⟩, by simp only [Ft.deep]; omega⟩ a3
          exact ⟨b1, b2, b3, by omega⟩
      · cases h; exact ⟨hw, hd, hl, Nat.le_refl _⟩
    | andM f =>
      simp only [pars] at h
      obtain ⟨hw, hd⟩ : f.wf ∧ f.deep + s ≤ p := hp
      split at h
      · rename_i hm
        have := isMark_lt hm
        split at h
        · cases h
        · rename_i g' r e
          obtain ⟨a1, a2, a3, a4⟩ := ih .not (p + 1) (p + 1) r g' e rfl (by omega)
          obtain ⟨b1, b2, b3, b4⟩ := ih (.andM (.two 5 f g')) s r q g h ⟨⟨.inl rfl, hw, a1⟩, by simp only [Ft.deep]; omega⟩ a3
          exact ⟨b1, b2, b3, by omega⟩
      · cases h; exact ⟨hw, hd, hl, Nat.le_refl _⟩
    | not =>
      simp only [pars] at h
      have hs : s = p := hp
      subst hs
      split at h
      · rename_i hm
        have := isMark_lt hm
        split at h
        · cases h
        · rename_i f r e
          obtain ⟨a1, a2, a3, a4⟩ := ih .not (s + 1) (s + 1) r f e rfl (by omega)
          cases h
          exact ⟨a1, by simp only [Ft.deep]; omega, a3, by omega⟩
      · split at h
        · rename_i hm
          have := isMark_lt hm
          split at h
          · cases h
          · rename_i f r e
            obtain ⟨a1, a2, a3, a4⟩ := ih .or (s + 1) (s + 1) r f e rfl (by omega)
            split at h
            · rename_i hm2
              have := isMark_lt hm2
              cases h
              exact ⟨a1, by omega, by omega, by omega⟩
            · cases h
        · split at h
          · rename_i hm
            have := isMark_lt hm
            cases h
            exact ⟨.inl ⟨rfl, rfl, rfl, rfl, rfl⟩, by simp only [Ft.deep]; omega, by omega, by omega⟩
          · split at h
            · rename_i hm
              have := isMark_lt hm
              cases e : name ws (s + 1) with
              | none => rw [e] at h; cases h
              | some t =>
                rw [e] at h
                obtain ⟨n1, n2⟩ := name_some hg e
                cases h
                exact ⟨.inr (.inr (.inr ⟨rfl, rfl, rfl, rfl, t, rfl, n2⟩)), by simp only [Ft.deep]; omega, by omega, by omega⟩
            · split at h
              · obtain ⟨k1, k2, k3, k4⟩ := key_some hg h
                exact ⟨k1, by omega, k3, by omega⟩
              · cases h

/-- Fuel that is enough. -/
def need (j : Job) (m : Nat) : Nat := match j with
  | .not => 3 * m + 1
  | .and => 3 * m + 2
  | .or => 3 * m + 3
  | .orM _ => 3 * m + 1
  | .andM _ => 3 * m + 1

/-- What a text of words says: none if it is no filter's. -/
def whole (ws : List Wd.Word) : Option Ft := match pars ws 200 .or 0 with
  | some (f, q) => if q = ws.length then some f else none
  | none => none

/-- Is a text a filter's? -/
def okP (l : List UInt8) : Bool := (Wd.all l).2.2 && (match whole (Wd.all l).1 with
  | some f => decide (f.deep ≤ 6)
  | none => false)

/-- The first word of a text is a good one. -/
theorem first_good (l : List UInt8) (p : Nat) (h : ¬ (Wd.first l).size = 0) : Good ⟨(Wd.first l).kind, (Wd.first l).text, (Wd.first l).num, p⟩ := by
  cases l with
  | nil => exact absurd rfl h
  | cons c r =>
    by_cases h0 : 6 < Wd.cnt 97 122 (c :: r) ∨ 2 < Wd.cnt 48 57 (c :: r)
    · rw [Wd.first_many h0] at h; exact absurd rfl h
    · by_cases h1 : 0 < Wd.cnt 97 122 (c :: r)
      · rw [Wd.first_name h0 h1]
        have hle := Wd.cnt_le 97 122 (c :: r)
        refine ⟨.inl rfl, fun _ => ⟨?_, ?_, fun j hj => ?_⟩, fun h => by cases h⟩
        · simp only [List.length_take]; omega
        · simp only [List.length_take]; omega
        · simp only [List.length_take] at hj
          have := Wd.cnt_all 97 122 (c :: r) j (by omega) (by omega)
          simpa using this
      · by_cases h2 : 0 < Wd.cnt 48 57 (c :: r)
        · rw [Wd.first_number h0 h1 h2]
          have hle := Wd.cnt_le 48 57 (c :: r)
          refine ⟨.inr (.inl rfl), (fun h => by cases h), fun _ => ?_⟩
          have ha := fun j hj => Wd.cnt_all 48 57 (c :: r) j hj
          generalize hk : Wd.cnt 48 57 (c :: r) = k at *
          have hk2 : k = 1 ∨ k = 2 := by omega
          rcases hk2 with rfl | rfl
          · have := ha 0 (by simp) (by omega)
            simp only [List.getElem_cons_zero] at this
            simp [Wd.value, Wd.digit]
            omega
          · match r, hle, ha with
            | d :: r', _, ha =>
              have a0 := ha 0 (by simp) (by omega)
              have a1 := ha 1 (by simp) (by omega)
              simp only [List.getElem_cons_zero, List.getElem_cons_succ] at a0 a1
              simp [Wd.value, Wd.digit]
              omega
        · by_cases h3 : c ∈ Wd.marks
          · rw [Wd.first_mark h0 h1 h2 h3]
            exact ⟨.inr (.inr rfl), (fun h => by cases h), fun h => by cases h⟩
          · rw [Wd.first_none h0 h1 h2 h3] at h; exact absurd rfl h

theorem scan_good (l : List UInt8) (f : Nat) : ∀ (p : Nat) (acc : List Wd.Word), Goods acc → Goods (Wd.scan l f p acc).1 := by
  induction f with
  | zero => intro p acc h; exact h
  | succ f ih =>
    intro p acc h
    unfold Wd.scan
    split
    · exact h
    · rename_i c r _
      split
      · exact ih _ _ h
      · split
        · exact ⟨by simp, fun x hx => (List.not_mem_nil hx).elim⟩
        · rename_i hn
          refine ih _ _ ⟨?_, fun x hx => ?_⟩
          · have := h.1
            simp only [List.length_append, List.length_cons, List.length_nil]; omega
          · rcases List.mem_append.1 hx with hx | hx
            · exact h.2 x hx
            · rw [List.mem_singleton.1 hx]
              exact first_good (c :: r) p (by omega)

theorem all_good (l : List UInt8) : Goods (Wd.all l).1 := by
  unfold Wd.all
  split
  · exact ⟨by simp, fun x hx => (List.not_mem_nil hx).elim⟩
  · exact scan_good l _ _ _ ⟨by simp, fun x hx => (List.not_mem_nil hx).elim⟩

end Ps
end Go.Proofs.YtdeojcodbojmoaaGreatDoor
