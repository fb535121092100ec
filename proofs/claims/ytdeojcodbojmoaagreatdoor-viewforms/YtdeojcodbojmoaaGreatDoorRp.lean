/- How filters lie in memory; errors in parts. -/
import Derived.Test.YtdeojcodbojmoaaGreatDoorPsm
import Derived.Test.YtdeojcodbojmoaaGreatDoorStr
namespace Go.Proofs.YtdeojcodbojmoaaGreatDoor
open Go.RowKit
set_option maxRecDepth 100000
set_option linter.unusedVariables false

/-- A filter's six fields, in six cells from cell j of block b on. -/
def Six (w : World) (b j : Nat) (o k l h : Int) (t : ByteArray) (x : Option Addr) (n : Nat) : Prop :=
  w.cell? ⟨b, j, none⟩ = some (.int .i64 o) ∧ w.cell? ⟨b, j + 1, none⟩ = some (.int .i64 k) ∧ w.cell? ⟨b, j + 2, none⟩ = some (.int .i64 l) ∧
  w.cell? ⟨b, j + 3, none⟩ = some (.int .i64 h) ∧ w.cell? ⟨b, j + 4, none⟩ = some (.string t) ∧ w.cell? ⟨b, j + 5, none⟩ = some (.slice x n n)

theorem Six.lt {w : World} {b j : Nat} {o k l h : Int} {t : ByteArray} {x : Option Addr} {n : Nat} (s : Six w b j o k l h t x n) : b < w.heap.size :=
  World.block_lt_of_cell? w ⟨b, j, none⟩ s.1

theorem Six.of {w w' : World} {b j : Nat} {o k l h : Int} {t : ByteArray} {x : Option Addr} {n : Nat} (s : Six w b j o k l h t x n) (e : ∀ i, w'.cell? ⟨b, i, none⟩ = w.cell? ⟨b, i, none⟩) : Six w' b j o k l h t x n := by
  obtain ⟨h0, h1, h2, h3, h4, h5⟩ := s
  exact ⟨(e _).trans h0, (e _).trans h1, (e _).trans h2, (e _).trans h3, (e _).trans h4, (e _).trans h5⟩

/-- Six fields are the filter f; all its blocks are of P. -/
def Lies (P : Nat → Prop) (w : World) : Ps.Ft → Int → Int → Int → Int → ByteArray → Option Addr → Nat → Prop
  | .leaf op key lo hi tag, o, k, l, h, t, x, n => o = op ∧ k = key ∧ l = lo ∧ h = hi ∧ t = tag ∧ x = none ∧ n = 0
  | .non f, o, k, l, h, t, x, n => o = 7 ∧ k = 0 ∧ l = 0 ∧ h = 0 ∧ t = ⟨#[]⟩ ∧
      ∃ b o1 k1 l1 h1 t1 x1 n1, x = some ⟨b, 0, none⟩ ∧ n = 1 ∧ P b ∧ Six w b 0 o1 k1 l1 h1 t1 x1 n1 ∧ Lies P w f o1 k1 l1 h1 t1 x1 n1
  | .two op f g, o, k, l, h, t, x, n => o = op ∧ k = 0 ∧ l = 0 ∧ h = 0 ∧ t = ⟨#[]⟩ ∧
      ∃ b o1 k1 l1 h1 t1 x1 n1 o2 k2 l2 h2 t2 x2 n2, x = some ⟨b, 0, none⟩ ∧ n = 2 ∧ P b ∧
        Six w b 0 o1 k1 l1 h1 t1 x1 n1 ∧ Lies P w f o1 k1 l1 h1 t1 x1 n1 ∧ Six w b 6 o2 k2 l2 h2 t2 x2 n2 ∧ Lies P w g o2 k2 l2 h2 t2 x2 n2

theorem Lies.kept {P : Nat → Prop} {w w' : World} (hk : Kept P w w') (f : Ps.Ft) : ∀ {o k l h : Int} {t : ByteArray} {x : Option Addr} {n : Nat}, Lies P w f o k l h t x n → Lies P w' f o k l h t x n := by
  induction f with
  | leaf op key lo hi tag => intro o k l h t x n y; exact y
  | non f ih =>
    rintro o k l h t x n ⟨e1, e2, e3, e4, e5, b, o1, k1, l1, h1, t1, x1, n1, e6, e7, hp, s, y⟩
    exact ⟨e1, e2, e3, e4, e5, b, o1, k1, l1, h1, t1, x1, n1, e6, e7, hp, s.of (fun i => hk.cell s.lt hp), ih y⟩
  | two op f g ihf ihg =>
    rintro o k l h t x n ⟨e1, e2, e3, e4, e5, b, o1, k1, l1, h1, t1, x1, n1, o2, k2, l2, h2, t2, x2, n2, e6, e7, hp, s, y, s', z⟩
    exact ⟨e1, e2, e3, e4, e5, b, o1, k1, l1, h1, t1, x1, n1, o2, k2, l2, h2, t2, x2, n2, e6, e7, hp, s.of (fun i => hk.cell s.lt hp), ihf y, s'.of (fun i => hk.cell s.lt hp), ihg z⟩

theorem Lies.mono {P P' : Nat → Prop} {w : World} (hp' : ∀ b, b < w.heap.size → P b → P' b) (f : Ps.Ft) : ∀ {o k l h : Int} {t : ByteArray} {x : Option Addr} {n : Nat}, Lies P w f o k l h t x n → Lies P' w f o k l h t x n := by
  induction f with
  | leaf op key lo hi tag => intro o k l h t x n y; exact y
  | non f ih =>
    rintro o k l h t x n ⟨e1, e2, e3, e4, e5, b, o1, k1, l1, h1, t1, x1, n1, e6, e7, hp, s, y⟩
    exact ⟨e1, e2, e3, e4, e5, b, o1, k1, l1, h1, t1, x1, n1, e6, e7, hp' b s.lt hp, s, ih y⟩
  | two op f g ihf ihg =>
    rintro o k l h t x n ⟨e1, e2, e3, e4, e5, b, o1, k1, l1, h1, t1, x1, n1, o2, k2, l2, h2, t2, x2, n2, e6, e7, hp, s, y, s', z⟩
    exact ⟨e1, e2, e3, e4, e5, b, o1, k1, l1, h1, t1, x1, n1, o2, k2, l2, h2, t2, x2, n2, e6, e7, hp' b s.lt hp, s, ihf y, s', ihg z⟩

theorem Lies.below {w w' : World} {f : Ps.Ft} {o k l h : Int} {t : ByteArray} {x : Option Addr} {n : Nat} (y : Lies Any w f o k l h t x n) (hb : Below w.heap.size w w') : Lies Any w' f o k l h t x n := Lies.kept (Kept.of_below hb) f y


/-- All blocks from m on. -/
def Past (m : Nat) : Nat → Prop := fun b => m ≤ b

/-- An error that a word does not fit, in some part of some part. -/
def Mis : Nat → Value → Prop
  | 0, v => ∃ x : Int, v = .iface 69 (.agg #[.int .i64 x])
  | n + 1, v => ∃ p v', v = .iface 124 (.agg #[.string p, v']) ∧ Mis n v'

/-- An error that a filter may not be. -/
def Fau : Nat → Value → Prop
  | 0, v => ∃ x : ByteArray, v = .iface 129 (.agg #[.string x])
  | n + 1, v => ∃ p v', v = .iface 124 (.agg #[.string p, v']) ∧ Fau n v'

theorem Mis.iface {n : Nat} {v : Value} (h : Mis n v) : ∃ T x, v = .iface T x := by
  cases n with
  | zero => obtain ⟨x, rfl⟩ := h; exact ⟨_, _, rfl⟩
  | succ n => obtain ⟨p, v', rfl, _⟩ := h; exact ⟨_, _, rfl⟩

theorem Fau.iface {n : Nat} {v : Value} (h : Fau n v) : ∃ T x, v = .iface T x := by
  cases n with
  | zero => obtain ⟨x, rfl⟩ := h; exact ⟨_, _, rfl⟩
  | succ n => obtain ⟨p, v', rfl, _⟩ := h; exact ⟨_, _, rfl⟩

end Go.Proofs.YtdeojcodbojmoaaGreatDoor
