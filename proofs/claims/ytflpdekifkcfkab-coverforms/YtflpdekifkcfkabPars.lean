/- A filter out of words, as plain mathematics: only what is right is told. -/
import Derived.Test.YtflpdekifkcfkabPlain
import Derived.Test.YtflpdekifkcfkabWplain
namespace Go.Proofs.Ytflpdekifkcfkab
namespace Ps
open Ev (Ft)

/-- The word at p is the mark c. -/
def isMark (ws : List Wd.Word) (p : Nat) (c : UInt8) : Bool :=
  match ws[p]? with
  | some x => x.kind == 3 && x.text == [c]
  | none => false

/-- The number at p. -/
def num (ws : List Wd.Word) (p : Nat) (below : Int) : Option Int :=
  match ws[p]? with
  | some x => if x.kind = 2 ∧ x.num < below then some x.num else none
  | none => none

/-- The name at p. -/
def name (ws : List Wd.Word) (p : Nat) : Option (List UInt8) :=
  match ws[p]? with
  | some x => if x.kind = 1 then some x.text else none
  | none => none

inductive Job where
  | or
  | and
  | not
  | orM (f : Ft)
  | andM (f : Ft)

def key (ws : List Wd.Word) (p : Nat) : Option (Ft × Nat) :=
  match num ws p 4 with
  | none => none
  | some k =>
    if isMark ws (p + 1) 61 then
      match num ws (p + 2) 100 with
      | none => none
      | some a => some (.leaf 2 k a a ⟨#[]⟩, p + 3)
    else if isMark ws (p + 1) 58 then
      match num ws (p + 2) 100 with
      | none => none
      | some a =>
        if isMark ws (p + 3) 45 then
          match num ws (p + 4) 100 with
          | none => none
          | some b => if a ≤ b then some (.leaf 3 k a b ⟨#[]⟩, p + 5) else none
        else none
    else none

def pars (ws : List Wd.Word) : Nat → Job → Nat → Option (Ft × Nat)
  | 0, _, _ => none
  | n + 1, .or, p =>
    match pars ws n .and p with
    | none => none
    | some (f, q) => pars ws n (.orM f) q
  | n + 1, .orM f, p =>
    if isMark ws p 124 then
      match pars ws n .and (p + 1) with
      | none => none
      | some (g, q) => pars ws n (.orM (.two 6 f g)) q
    else some (f, p)
  | n + 1, .and, p =>
    match pars ws n .not p with
    | none => none
    | some (f, q) => pars ws n (.andM f) q
  | n + 1, .andM f, p =>
    if isMark ws p 38 then
      match pars ws n .not (p + 1) with
      | none => none
      | some (g, q) => pars ws n (.andM (.two 5 f g)) q
    else some (f, p)
  | n + 1, .not, p =>
    if isMark ws p 33 then
      match pars ws n .not (p + 1) with
      | none => none
      | some (f, q) => some (.non f, q)
    else if isMark ws p 40 then
      match pars ws n .or (p + 1) with
      | none => none
      | some (f, q) => if isMark ws q 41 then some (f, q + 1) else none
    else if isMark ws p 42 then some (.leaf 1 0 0 0 ⟨#[]⟩, p + 1)
    else if isMark ws p 94 then
      match name ws (p + 1) with
      | none => none
      | some t => some (.leaf 4 0 0 0 ⟨t.toArray⟩, p + 2)
    else if isMark ws p 64 then key ws (p + 1)
    else none

/-- A mark is one of the words. -/
theorem isMark_lt {ws : List Wd.Word} {p : Nat} {c : UInt8} (h : isMark ws p c = true) : p < ws.length := by
  unfold isMark at h
  cases e : ws[p]? with
  | none => rw [e] at h; cases h
  | some x => exact (List.getElem?_eq_some_iff.1 e).1

theorem key_gt {ws : List Wd.Word} {p q : Nat} {f : Ft} (h : key ws p = some (f, q)) : p < q := by
  unfold key at h
  repeat (first | (split at h) | (cases h; omega) | cases h)

theorem pars_ge (ws : List Wd.Word) (n : Nat) : ∀ (j : Job) (p q : Nat) (f : Ft), pars ws n j p = some (f, q) → p ≤ q := by
  induction n with
  | zero => intro j p q f h; cases h
  | succ n ih =>
    intro j p q f h
    cases j with
    | or =>
      simp only [pars] at h
      split at h
      · cases h
      · rename_i g r e
        exact Nat.le_trans (ih _ _ _ _ e) (ih _ _ _ _ h)
    | and =>
      simp only [pars] at h
      split at h
      · cases h
      · rename_i g r e
        exact Nat.le_trans (ih _ _ _ _ e) (ih _ _ _ _ h)
    | orM g =>
      simp only [pars] at h
      split at h
      · split at h
        · cases h
        · rename_i e
          have := ih _ _ _ _ e
          have := ih _ _ _ _ h
          omega
      · cases h; omega
    | andM g =>
      simp only [pars] at h
      split at h
      · split at h
        · cases h
        · rename_i e
          have := ih _ _ _ _ e
          have := ih _ _ _ _ h
          omega
      · cases h; omega
    | not =>
      simp only [pars] at h
      split at h
      · split at h
        · cases h
        · rename_i e
          have := ih _ _ _ _ e
          cases h
          omega
      · split at h
        · split at h
          · cases h
          · rename_i e
            have := ih _ _ _ _ e
            split at h
            · cases h; omega
            · cases h
        · split at h
          · cases h; omega
          · split at h
            · split at h
              · cases h
              · cases h; omega
            · split at h
              · have := key_gt h; omega
              · cases h

end Ps
end Go.Proofs.Ytflpdekifkcfkab
