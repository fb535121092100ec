/- Filters, attributes and tags as plain mathematics: what a filter lets through. -/
import Derived.WalkKit
namespace Go.Proofs.Ytflpdekifkcfkab
namespace Ev

/-- A filter: without parts, of one, of two. -/
inductive Ft where
  | leaf (op key lo hi : Int) (tag : ByteArray)
  | non (f : Ft)
  | two (op : Int) (f g : Ft)

/-- The value of a key. -/
def attr : List (Int × Int) → Int → Option Int
  | [], _ => none
  | a :: r, k => if a.1 = k then some a.2 else attr r k

/-- It is there, from lo to hi. -/
def between (al : List (Int × Int)) (key lo hi : Int) : Bool :=
  match attr al key with
  | some n => decide (lo ≤ n) && decide (n ≤ hi)
  | none => false

/-- s begins with p. -/
def begins (s p : ByteArray) : Bool := decide (p.size ≤ s.size) && ((s.extract 0 p.size).toList == p.toList)

/-- What a filter lets through. -/
def Ft.lets (al : List (Int × Int)) (t : ByteArray) : Ft → Bool
  | .leaf op key lo hi tag => if op = 1 then true else if op = 2 ∨ op = 3 then between al key lo hi else if op = 4 then begins t tag else false
  | .non f => !(f.lets al t)
  | .two op f g => if op = 5 then f.lets al t && g.lets al t else f.lets al t || g.lets al t

/-- How deep it is. -/
def Ft.deep : Ft → Nat
  | .leaf .. => 1
  | .non f => 1 + f.deep
  | .two _ f g => 1 + max f.deep g.deep

/-- It may be, as far as anything hangs on it. -/
def Ft.ok : Ft → Prop
  | .leaf op _ _ _ tag => 1 ≤ op ∧ op ≤ 4 ∧ tag.size ≤ 1000
  | .non f => f.ok
  | .two op f g => (op = 5 ∨ op = 6) ∧ f.ok ∧ g.ok

theorem Ft.deep_pos (f : Ft) : 1 ≤ f.deep := by cases f <;> simp [Ft.deep] <;> omega

/-- None of the first k has the key. -/
def Unseen (al : List (Int × Int)) (key : Int) (k : Nat) : Prop := attr al key = attr (al.drop k) key

theorem Unseen.zero (al : List (Int × Int)) (key : Int) : Unseen al key 0 := rfl

theorem drop_cons (al : List (Int × Int)) (k : Nat) (h : k < al.length) : al.drop k = al[k] :: al.drop (k + 1) := List.drop_eq_getElem_cons h

theorem Unseen.succ {al : List (Int × Int)} {key : Int} {k : Nat} (h : Unseen al key k) (hk : k < al.length) (hn : ¬ (al[k]).1 = key) : Unseen al key (k + 1) := by
  unfold Unseen at *
  rw [h, drop_cons al k hk]
  show (if _ then _ else _) = _
  rw [if_neg hn]

theorem Unseen.found {al : List (Int × Int)} {key : Int} {k : Nat} (h : Unseen al key k) (hk : k < al.length) (hn : (al[k]).1 = key) : attr al key = some (al[k]).2 := by
  unfold Unseen at *
  rw [h, drop_cons al k hk]
  show (if _ then _ else _) = _
  rw [if_pos hn]

theorem Unseen.none {al : List (Int × Int)} {key : Int} {k : Nat} (h : Unseen al key k) (hk : al.length ≤ k) : attr al key = none := by
  unfold Unseen at h
  rw [h, List.drop_eq_nil_of_le hk]
  rfl

end Ev
end Go.Proofs.Ytflpdekifkcfkab
