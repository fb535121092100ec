/- How filters and versions lie in memory. -/
import Derived.Test.YtflpdekifkcfkabPlain
import Derived.Below
import Derived.WalkKit
namespace Go.Proofs.Ytflpdekifkcfkab
open Go.RowKit

/-- The blocks of P that were there are as they were; the streams are as they were; no block has gone. -/
structure Kept (P : Nat → Prop) (w w' : World) : Prop where
  os : w'.os = w.os
  tape : w'.tape = w.tape
  output : w'.output = w.output
  size : w.heap.size ≤ w'.heap.size
  block : ∀ k, k < w.heap.size → P k → w'.heap[k]? = w.heap[k]?

theorem Kept.refl (P : Nat → Prop) (w : World) : Kept P w w := ⟨rfl, rfl, rfl, Nat.le_refl _, fun _ _ _ => rfl⟩

theorem Kept.trans {P : Nat → Prop} {a b c : World} (h : Kept P a b) (k : Kept P b c) : Kept P a c :=
  ⟨k.os.trans h.os, k.tape.trans h.tape, k.output.trans h.output, Nat.le_trans h.size k.size, fun i hi hp => (k.block i (Nat.lt_of_lt_of_le hi h.size) hp).trans (h.block i hi hp)⟩

theorem Kept.of_below {P : Nat → Prop} {w w' : World} (h : Below w.heap.size w w') : Kept P w w' := ⟨h.os, h.tape, h.output, h.size, fun k hk _ => h.block k hk⟩

theorem Kept.mono {P P' : Nat → Prop} {w w' : World} (h : Kept P w w') (hp : ∀ k, k < w.heap.size → P' k → P k) : Kept P' w w' := ⟨h.os, h.tape, h.output, h.size, fun k hk q => h.block k hk (hp k hk q)⟩

theorem Kept.below {P : Nat → Prop} {w w' : World} {B : Nat} (h : Kept P w w') (hB : B ≤ w.heap.size) (hp : ∀ k, k < B → P k) : Below B w w' :=
  ⟨h.os, h.tape, h.output, h.size, fun k hk => h.block k (Nat.lt_of_lt_of_le hk hB) (hp k hk)⟩

theorem Kept.drew {P : Nat → Prop} {a w : World} (h : Kept P a w) : Kept P a w.drew := ⟨h.os, h.tape, h.output, h.size, h.block⟩

theorem Kept.alloc {P : Nat → Prop} {a w : World} (h : Kept P a w) (o : Obj) : Kept P a (w.alloc o) :=
  h.trans ⟨rfl, rfl, rfl, by simp, fun k hk _ => Below.heap_alloc _ _ _ hk⟩

theorem Kept.setCell {P : Nat → Prop} {a w : World} (h : Kept P a w) {p : Addr} (hp : ∀ k, k < a.heap.size → P k → k ≠ p.block) (u : Value) : Kept P a (w.setCell p u) :=
  ⟨h.os, h.tape, h.output, Nat.le_trans h.size (by simp [World.setCell]), fun k hk q => (Below.heap_setCell _ _ _ _ (hp k hk q)).trans (h.block k hk q)⟩

theorem Kept.cell {P : Nat → Prop} {w w' : World} (h : Kept P w w') {b o : Nat} (hb : b < w.heap.size) (hp : P b) : w'.cell? ⟨b, o, none⟩ = w.cell? ⟨b, o, none⟩ := World.cell?_of_block (w := w) (h.block b hb hp)

theorem Kept.frozen {P : Nat → Prop} {w w' : World} (h : Kept P w w') {b o : Nat} (hb : b < w.heap.size) (hp : P b) : w'.frozen? ⟨b, o, none⟩ = w.frozen? ⟨b, o, none⟩ := World.frozen?_of_block (w := w) (h.block b hb hp)

/-- A filter's six fields, in six cells from cell j of block b on. -/
def Six (w : World) (b j : Nat) (o k l h : Int) (t : ByteArray) (x : Option Addr) (n : Nat) : Prop :=
  w.cell? ⟨b, j, none⟩ = some (.int .i64 o) ∧ w.cell? ⟨b, j + 1, none⟩ = some (.int .i64 k) ∧ w.cell? ⟨b, j + 2, none⟩ = some (.int .i64 l) ∧
  w.cell? ⟨b, j + 3, none⟩ = some (.int .i64 h) ∧ w.cell? ⟨b, j + 4, none⟩ = some (.string t) ∧ w.cell? ⟨b, j + 5, none⟩ = some (.slice x n n)

theorem Six.lt {w : World} {b j : Nat} {o k l h : Int} {t : ByteArray} {x : Option Addr} {n : Nat} (s : Six w b j o k l h t x n) : b < w.heap.size :=
  World.block_lt_of_cell? w ⟨b, j, none⟩ s.1

theorem Six.of {w w' : World} {b j : Nat} {o k l h : Int} {t : ByteArray} {x : Option Addr} {n : Nat} (s : Six w b j o k l h t x n) (e : ∀ i, w'.cell? ⟨b, i, none⟩ = w.cell? ⟨b, i, none⟩) : Six w' b j o k l h t x n := by
  obtain ⟨h0, h1, h2, h3, h4, h5⟩ := s
  exact ⟨(e _).trans h0, (e _).trans h1, (e _).trans h2, (e _).trans h3, (e _).trans h4, (e _).trans h5⟩

/-- Six fields are the filter f; all its blocks are of P. -/
def Lies (P : Nat → Prop) (w : World) : Ev.Ft → Int → Int → Int → Int → ByteArray → Option Addr → Nat → Prop
  | .leaf op key lo hi tag, o, k, l, h, t, x, n => o = op ∧ k = key ∧ l = lo ∧ h = hi ∧ t = tag ∧ x = none ∧ n = 0
  | .non f, o, k, l, h, t, x, n => o = 7 ∧ k = 0 ∧ l = 0 ∧ h = 0 ∧ t = ⟨#[]⟩ ∧
      ∃ b o1 k1 l1 h1 t1 x1 n1, x = some ⟨b, 0, none⟩ ∧ n = 1 ∧ P b ∧ Six w b 0 o1 k1 l1 h1 t1 x1 n1 ∧ Lies P w f o1 k1 l1 h1 t1 x1 n1
  | .two op f g, o, k, l, h, t, x, n => o = op ∧ k = 0 ∧ l = 0 ∧ h = 0 ∧ t = ⟨#[]⟩ ∧
      ∃ b o1 k1 l1 h1 t1 x1 n1 o2 k2 l2 h2 t2 x2 n2, x = some ⟨b, 0, none⟩ ∧ n = 2 ∧ P b ∧
        Six w b 0 o1 k1 l1 h1 t1 x1 n1 ∧ Lies P w f o1 k1 l1 h1 t1 x1 n1 ∧ Six w b 6 o2 k2 l2 h2 t2 x2 n2 ∧ Lies P w g o2 k2 l2 h2 t2 x2 n2

theorem Lies.kept {P : Nat → Prop} {w w' : World} (hk : Kept P w w') (f : Ev.Ft) : ∀ {o k l h : Int} {t : ByteArray} {x : Option Addr} {n : Nat}, Lies P w f o k l h t x n → Lies P w' f o k l h t x n := by
  induction f with
  | leaf op key lo hi tag => intro o k l h t x n y; exact y
  | non f ih =>
    rintro o k l h t x n ⟨e1, e2, e3, e4, e5, b, o1, k1, l1, h1, t1, x1, n1, e6, e7, hp, s, y⟩
    exact ⟨e1, e2, e3, e4, e5, b, o1, k1, l1, h1, t1, x1, n1, e6, e7, hp, s.of (fun i => hk.cell s.lt hp), ih y⟩
  | two op f g ihf ihg =>
    rintro o k l h t x n ⟨e1, e2, e3, e4, e5, b, o1, k1, l1, h1, t1, x1, n1, o2, k2, l2, h2, t2, x2, n2, e6, e7, hp, s, y, s', z⟩
    exact ⟨e1, e2, e3, e4, e5, b, o1, k1, l1, h1, t1, x1, n1, o2, k2, l2, h2, t2, x2, n2, e6, e7, hp, s.of (fun i => hk.cell s.lt hp), ihf y, s'.of (fun i => hk.cell s.lt hp), ihg z⟩

theorem Lies.mono {P P' : Nat → Prop} {w : World} (hp' : ∀ b, b < w.heap.size → P b → P' b) (f : Ev.Ft) : ∀ {o k l h : Int} {t : ByteArray} {x : Option Addr} {n : Nat}, Lies P w f o k l h t x n → Lies P' w f o k l h t x n := by
  induction f with
  | leaf op key lo hi tag => intro o k l h t x n y; exact y
  | non f ih =>
    rintro o k l h t x n ⟨e1, e2, e3, e4, e5, b, o1, k1, l1, h1, t1, x1, n1, e6, e7, hp, s, y⟩
    exact ⟨e1, e2, e3, e4, e5, b, o1, k1, l1, h1, t1, x1, n1, e6, e7, hp' b s.lt hp, s, ih y⟩
  | two op f g ihf ihg =>
    rintro o k l h t x n ⟨e1, e2, e3, e4, e5, b, o1, k1, l1, h1, t1, x1, n1, o2, k2, l2, h2, t2, x2, n2, e6, e7, hp, s, y, s', z⟩
    exact ⟨e1, e2, e3, e4, e5, b, o1, k1, l1, h1, t1, x1, n1, o2, k2, l2, h2, t2, x2, n2, e6, e7, hp' b s.lt hp, s, ihf y, s', ihg z⟩

/-- All blocks. -/
def Any : Nat → Prop := fun _ => True

theorem Lies.below {w w' : World} {f : Ev.Ft} {o k l h : Int} {t : ByteArray} {x : Option Addr} {n : Nat} (y : Lies Any w f o k l h t x n) (hb : Below w.heap.size w w') : Lies Any w' f o k l h t x n := Lies.kept (Kept.of_below hb) f y

/-- A version's fields. -/
structure Vs where
  it : Int
  L : Int
  R : Int
  N : Int
  dead : Bool
  ao : Option Addr
  len : Nat
  cap : Nat
  tag : ByteArray
  body : ByteArray

/-- A version's attributes lie in a block of P; its tag is short. -/
def Has (P : Nat → Prop) (w : World) (v : Vs) (al : List (Int × Int)) : Prop :=
  v.len = al.length ∧ v.len ≤ 1000 ∧ v.tag.size ≤ 1000 ∧
  (0 < v.len → ∃ b, v.ao = some ⟨b, 0, none⟩ ∧ P b ∧ b < w.heap.size ∧ ∀ j (hj : j < al.length), w.cell? ⟨b, j * 2, none⟩ = some (.int .i64 (al[j]).1) ∧ w.cell? ⟨b, j * 2 + 1, none⟩ = some (.int .i64 (al[j]).2))

theorem Has.kept {P : Nat → Prop} {w w' : World} {v : Vs} {al : List (Int × Int)} (h : Has P w v al) (hk : Kept P w w') : Has P w' v al := by
  obtain ⟨h1, h2, h3, h4⟩ := h
  refine ⟨h1, h2, h3, fun hl => ?_⟩
  obtain ⟨b, e, hp, hb, hc⟩ := h4 hl
  exact ⟨b, e, hp, Nat.lt_of_lt_of_le hb hk.size, fun j hj => ⟨(hk.cell hb hp).trans (hc j hj).1, (hk.cell hb hp).trans (hc j hj).2⟩⟩

theorem Has.mono {P P' : Nat → Prop} {w : World} {v : Vs} {al : List (Int × Int)} (h : Has P w v al) (hp' : ∀ b, b < w.heap.size → P b → P' b) : Has P' w v al := by
  obtain ⟨h1, h2, h3, h4⟩ := h
  refine ⟨h1, h2, h3, fun hl => ?_⟩
  obtain ⟨b, e, hp, hb, hc⟩ := h4 hl
  exact ⟨b, e, hp' b hb hp, hb, hc⟩

theorem Has.below {w w' : World} {v : Vs} {al : List (Int × Int)} (h : Has Any w v al) (hb : Below w.heap.size w w') : Has Any w' v al := h.kept (Kept.of_below hb)

end Go.Proofs.Ytflpdekifkcfkab
