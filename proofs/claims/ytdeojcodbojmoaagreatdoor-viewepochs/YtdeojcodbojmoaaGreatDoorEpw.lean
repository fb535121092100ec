/- ViewEpochs: how often filters were set is the most that any view tells, and merging loses nothing of it. -/
import Derived.Test.YtdeojcodbojmoaaGreatDoorEpl
import Derived.Test.YtdeojcodbojmoaaGreatDoorOrd
import Derived.BigRegion
namespace Go.Proofs.YtdeojcodbojmoaaGreatDoor
open Go.RowKit
set_option maxRecDepth 100000
set_option linter.unusedVariables false

/-- What is asked of one view. -/
structure Gw (n i : Nat) (v : Vw) : Prop where
  R : v.R = (i : Int) + 1
  none : v.Rev = 0 → v.ep = []
  some : 0 < v.Rev → v.ep.length = n
  lo : 0 ≤ v.Rev
  pos : ∀ e ∈ v.ep, 0 ≤ e

def Gs (n : Nat) (A : List (Vc × Vw)) : Prop := ∀ (i : Nat) (a : Vc × Vw), A[i]? = some a → Gw n i a.2

/-- Below k the later view tells no less. -/
def Tt (k : Nat) (a b : Vw) : Prop := 0 < a.Rev → 0 < b.Rev → (a.Rev < b.Rev → ∀ j, j < k → tell a j ≤ tell b j) ∧ (¬ a.Rev < b.Rev → ∀ j, j < k → tell b j ≤ tell a j)
def TT (r n : Nat) (A B : List (Vc × Vw)) : Prop := ∀ (i : Nat) (a b : Vc × Vw), A[i]? = some a → B[i]? = some b → i < r → Tt n a.2 b.2

theorem tell_set (v : Vw) (k : Nat) (x : Int) (hk : k < v.ep.length) (j : Nat) : tell { v with ep := v.ep.set k x } j = if j = k then x else tell v j := by
  unfold tell
  simp only [List.getElem?_set]
  by_cases e : k = j
  · subst e; simp [hk]
  · rw [if_neg e, if_neg (by omega)]

theorem Gw.set {n i : Nat} {v : Vw} (h : Gw n i v) (k : Nat) (x : Int) (hx : 0 ≤ x) (hr : 0 < v.Rev) : Gw n i { v with ep := v.ep.set k x } := by
  refine ⟨h.R, fun e => ?_, fun e => by simpa using h.some e, h.lo, fun e he => ?_⟩
  · have e' : v.Rev = 0 := e
    omega
  · rcases List.mem_or_eq_of_mem_set he with he | rfl
    · exact h.pos e he
    · exact hx

theorem Gs.set {n : Nat} {A : List (Vc × Vw)} (h : Gs n A) {r : Nat} {c : Vc} {v v' : Vw} (hr : A[r]? = Option.some (c, v)) (hv : Gw n r v') : Gs n (A.set r (c, v')) := fun i a ha => by
  rw [List.getElem?_set] at ha
  by_cases e : r = i
  · subst e
    rw [if_pos rfl] at ha
    split at ha
    · cases ha; exact hv
    · cases ha
  · rw [if_neg e] at ha
    exact h i a ha

theorem set_get {A : List (Vc × Vw)} {r : Nat} {p q : Vc × Vw} (h : A[r]? = some q) : (A.set r p)[r]? = some p := by
  rw [List.getElem?_set, if_pos rfl, if_pos (List.getElem?_eq_some_iff.1 h).1]

theorem TT.setA {r n : Nat} {A B : List (Vc × Vw)} (h : TT r n A B) (p : Vc × Vw) : TT r n (A.set r p) B := fun i a b ha hb hi => by
  rw [List.getElem?_set, if_neg (by omega)] at ha
  exact h i a b ha hb hi
theorem TT.setB {r n : Nat} {A B : List (Vc × Vw)} (h : TT r n A B) (p : Vc × Vw) : TT r n A (B.set r p) := fun i a b ha hb hi => by
  rw [List.getElem?_set, if_neg (by omega)] at hb
  exact h i a b ha hb hi
theorem TT.succ {r n : Nat} {A B : List (Vc × Vw)} (h : TT r n A B) (e : ∀ a b, A[r]? = some a → B[r]? = some b → Tt n a.2 b.2) : TT (r + 1) n A B := fun i a b ha hb hi => by
  by_cases hir : i < r
  · exact h i a b ha hb hir
  · have : i = r := by omega
    subst this
    exact e a b ha hb

/-- What the rounds keep. -/
structure Ro (w0 w : World) (g0 g1 n lo hi r k : Nat) (A B : List (Vc × Vw)) : Prop where
  e : E2 w g0 g1 n lo hi A B
  ga : Gs n A
  gb : Gs n B
  t : TT r n A B
  tk : ∀ a b, A[r]? = some a → B[r]? = some b → Tt k a.2 b.2
  bel : Below w0.heap.size w0 w

theorem Ro.putB {w0 w : World} {g0 g1 n lo hi r k : Nat} {A B : List (Vc × Vw)} {x y : Vc} {xv yv : Vw} (h : Ro w0 w g0 g1 n lo hi r k A B) (hx : A[r]? = some (x, xv)) (hy : B[r]? = some (y, yv)) {b off : Nat} (hb : y.ea = some ⟨b, off, none⟩) (hk : k < yv.ep.length) (hr : 0 < yv.Rev) (hlo : w0.heap.size ≤ lo) (hlt : xv.Rev < yv.Rev) (hxn : 0 ≤ tell xv k) :
    Ro w0 (w.setCell ⟨b, off + k, none⟩ (.int .i64 (max (tell xv k) (tell yv k)))) g0 g1 n lo hi r (k + 1) A (B.set r (y, { yv with ep := yv.ep.set k (max (tell xv k) (tell yv k)) })) := by
  have hlb : lo ≤ b := by
    have hq : (y, yv) ∈ A ++ B := List.mem_append_right _ (List.mem_of_getElem? hy)
    have := (h.e.sep.range.2 _ hq).2 b off (by have := (h.e.v _ hq).en; simp only at this ⊢; omega) hb
    exact this.1
  refine ⟨h.e.putB hy hb hk _, h.ga, h.gb.set hy ((h.gb r _ hy).set k _ (by omega) hr), h.t.setB _, fun a b' ha hb' => ?_, h.bel.setCell (by show w0.heap.size ≤ b; omega) _⟩
  rw [hx] at ha; cases ha
  rw [set_get hy] at hb'; cases hb'
  intro h1 h2
  refine ⟨fun h3 j hj => ?_, fun h3 => absurd hlt h3⟩
  have ht := (h.tk _ _ hx hy h1 h2).1 hlt
  simp only
  rw [tell_set yv k _ hk j]
  by_cases ej : j = k
  · rw [if_pos ej, ej]; omega
  · rw [if_neg ej]; exact ht j (by omega)

theorem Ro.putA {w0 w : World} {g0 g1 n lo hi r k : Nat} {A B : List (Vc × Vw)} {x y : Vc} {xv yv : Vw} (h : Ro w0 w g0 g1 n lo hi r k A B) (hx : A[r]? = some (x, xv)) (hy : B[r]? = some (y, yv)) {b off : Nat} (hb : x.ea = some ⟨b, off, none⟩) (hk : k < xv.ep.length) (hr : 0 < xv.Rev) (hlo : w0.heap.size ≤ lo) (hlt : ¬ xv.Rev < yv.Rev) (hxn : 0 ≤ tell xv k) :
    Ro w0 (w.setCell ⟨b, off + k, none⟩ (.int .i64 (max (tell xv k) (tell yv k)))) g0 g1 n lo hi r (k + 1) (A.set r (x, { xv with ep := xv.ep.set k (max (tell xv k) (tell yv k)) })) B := by
  have hlb : lo ≤ b := by
    have hq : (x, xv) ∈ A ++ B := List.mem_append_left _ (List.mem_of_getElem? hx)
    have := (h.e.sep.range.2 _ hq).2 b off (by have := (h.e.v _ hq).en; simp only at this ⊢; omega) hb
    exact this.1
  refine ⟨h.e.putA hx hb hk _, h.ga.set hx ((h.ga r _ hx).set k _ (by omega) hr), h.gb, h.t.setA _, fun a b' ha hb' => ?_, h.bel.setCell (by show w0.heap.size ≤ b; omega) _⟩
  rw [hy] at hb'; cases hb'
  rw [set_get hx] at ha; cases ha
  intro h1 h2
  refine ⟨fun h3 => absurd h3 hlt, fun h3 j hj => ?_⟩
  have ht := (h.tk _ _ hx hy h1 h2).2 hlt
  simp only
  rw [tell_set xv k _ hk j]
  by_cases ej : j = k
  · rw [if_pos ej, ej]; omega
  · rw [if_neg ej]; exact ht j (by omega)

theorem Ro.below {w0 w w' : World} {g0 g1 n lo hi r k : Nat} {A B : List (Vc × Vw)} (h : Ro w0 w g0 g1 n lo hi r k A B) (hb : Below w.heap.size w w') : Ro w0 w' g0 g1 n lo hi r k A B :=
  ⟨h.e.below hb, h.ga, h.gb, h.t, h.tk, h.bel.trans (hb.mono h.bel.size)⟩

/-- One view of these rows that tells: where its Epochs lie. -/
theorem E2.ep {P : Nat → Prop} {w : World} {c : Vc} {v : Vw} (l : Lv P w c v) (k : Nat) (hk : k < v.ep.length) : ∃ b off, c.ea = some ⟨b, off, none⟩ ∧ P b ∧ b < w.heap.size ∧ c.en = v.ep.length ∧ c.en ≤ c.ec ∧ w.cell? ⟨b, off + k, none⟩ = some (.int .i64 (tell v k)) := by
  rcases l.ints with h | ⟨h1, h2, h3, h4, b, off, e, hp, hl, hc⟩
  · have := l.en; omega
  · exact ⟨b, off, e, hp, hl, l.en, h2, hc k _ (by simp [icells, tell, hk])⟩

theorem tell_pos {n i : Nat} {v : Vw} (h : Gw n i v) (k : Nat) : 0 ≤ tell v k := by
  unfold tell
  cases e : v.ep[k]? with
  | none => simp
  | some x => simpa using h.pos x (List.mem_of_getElem? e)

end Go.Proofs.YtdeojcodbojmoaaGreatDoor
