/- Two rows of views whose Epochs are written in place. -/
import Derived.Test.YtdeojcodbojmoaaGreatDoorVwf
import Derived.Test.YtdeojcodbojmoaaGreatDoorEpg
namespace Go.Proofs.YtdeojcodbojmoaaGreatDoor
open Go.RowKit
set_option maxRecDepth 100000
set_option linter.unusedVariables false

theorem Sep.append {A B : List (Vc × Vw)} : ∀ {lo mid mid' hi : Nat}, Sep lo A mid → mid ≤ mid' → Sep mid' B hi → Sep lo (A ++ B) hi := by
  induction A with
  | nil =>
    intro lo mid mid' hi h h1 h2
    have h' : lo ≤ mid := h
    cases B with
    | nil => have h2' : mid' ≤ hi := h2; show lo ≤ hi; omega
    | cons q r =>
      obtain ⟨k1, k2, a1, a2, a3, a4, a5⟩ := h2
      refine ⟨k1, k2, by omega, a2, fun hn => ?_, a4, a5⟩
      obtain ⟨b, off, e, h3, h4⟩ := a3 hn
      exact ⟨b, off, e, by omega, h4⟩
  | cons q r ih =>
    rintro lo mid mid' hi ⟨k1, k2, a1, a2, a3, a4, a5⟩ h1 h2
    exact ⟨k1, k2, a1, a2, a3, a4, ih a5 h1 h2⟩

theorem Sep.range {ps : List (Vc × Vw)} : ∀ {lo hi : Nat}, Sep lo ps hi → lo ≤ hi ∧ ∀ q ∈ ps, (∀ b o, 0 < q.1.sn → q.1.sa = some ⟨b, o, none⟩ → lo ≤ b ∧ b < hi) ∧ (∀ b o, 0 < q.1.en → q.1.ea = some ⟨b, o, none⟩ → lo ≤ b ∧ b < hi) := by
  induction ps with
  | nil => intro lo hi h; exact ⟨h, fun q hq => (List.not_mem_nil hq).elim⟩
  | cons p r ih =>
    rintro lo hi ⟨k1, k2, a1, a2, a3, a4, a5⟩
    obtain ⟨h1, h2⟩ := ih a5
    refine ⟨by omega, fun q hq => ?_⟩
    rcases List.mem_cons.1 hq with rfl | hq
    · refine ⟨fun b o hn e => ?_, fun b o hn e => ?_⟩
      · obtain ⟨b', o', e', x1, x2⟩ := a3 hn
        rw [e'] at e; cases e; omega
      · obtain ⟨b', o', e', x1, x2⟩ := a4 hn
        rw [e'] at e; cases e; omega
    · obtain ⟨y1, y2⟩ := h2 q hq
      exact ⟨fun b o hn e => by have := y1 b o hn e; omega, fun b o hn e => by have := y2 b o hn e; omega⟩

/-- The Epochs of one view lie apart from all else. -/
theorem Sep.apart {ps : List (Vc × Vw)} : ∀ {lo hi i : Nat} {p : Vc × Vw} {b off : Nat}, Sep lo ps hi → ps[i]? = some p → 0 < p.1.en → p.1.ea = some ⟨b, off, none⟩ → ∀ j q, ps[j]? = some q → (∀ b' o', 0 < q.1.sn → q.1.sa = some ⟨b', o', none⟩ → b' ≠ b) ∧ (j ≠ i → ∀ b' o', 0 < q.1.en → q.1.ea = some ⟨b', o', none⟩ → b' ≠ b) := by
  induction ps with
  | nil => intro lo hi i p b off _ h; simp at h
  | cons x r ih =>
    rintro lo hi i p b off ⟨k1, k2, a1, a2, a3, a4, a5⟩ hi' hn he j q hq
    have hrg := a5.range
    cases i with
    | zero =>
      simp at hi'
      subst hi'
      obtain ⟨b1, o1, e1, x1, x2⟩ := a4 hn
      rw [e1] at he; cases he
      cases j with
      | zero =>
        simp at hq; subst hq
        refine ⟨fun b' o' hs es => ?_, fun h => absurd rfl h⟩
        obtain ⟨b2, o2, e2, y1, y2⟩ := a3 hs
        rw [e2] at es; cases es; omega
      | succ j =>
        simp at hq
        obtain ⟨z1, z2⟩ := hrg.2 q (List.mem_of_getElem? hq)
        exact ⟨fun b' o' hs es => by have := z1 b' o' hs es; omega, fun _ b' o' hs es => by have := z2 b' o' hs es; omega⟩
    | succ i =>
      simp at hi'
      obtain ⟨w1, w2⟩ := hrg.2 p (List.mem_of_getElem? hi')
      have hb := w2 b off hn he
      cases j with
      | zero =>
        simp at hq; subst hq
        refine ⟨fun b' o' hs es => ?_, fun _ b' o' hs es => ?_⟩
        · obtain ⟨b2, o2, e2, y1, y2⟩ := a3 hs
          rw [e2] at es; cases es; omega
        · obtain ⟨b2, o2, e2, y1, y2⟩ := a4 hs
          rw [e2] at es; cases es; omega
      | succ j =>
        simp at hq
        obtain ⟨c1, c2⟩ := ih a5 hi' hn he j q hq
        exact ⟨c1, fun h => c2 (by omega)⟩

theorem Sep.set {ps : List (Vc × Vw)} : ∀ {lo hi r : Nat} {c : Vc} {v v' : Vw}, Sep lo ps hi → ps[r]? = some (c, v) → Sep lo (ps.set r (c, v')) hi := by
  induction ps with
  | nil => intro lo hi r c v v' _ h; simp at h
  | cons x l ih =>
    rintro lo hi r c v v' ⟨k1, k2, a1, a2, a3, a4, a5⟩ h
    cases r with
    | zero => simp at h; subst h; exact ⟨k1, k2, a1, a2, a3, a4, a5⟩
    | succ r => simp at h; exact ⟨k1, k2, a1, a2, a3, a4, ih a5 h⟩

theorem pcells_same {ps : List (Vc × Vw)} : ∀ {r : Nat} {c : Vc} {v v' : Vw}, ps[r]? = some (c, v) → pcells (ps.set r (c, v')) = pcells ps := by
  induction ps with
  | nil => intro r c v v' h; simp at h
  | cons x l ih =>
    intro r c v v' h
    cases r with
    | zero => simp at h; subst h; rfl
    | succ r => simp at h; simp only [List.set_cons_succ, pcells, ih h]

theorem Rds.apart {P : Nat → Prop} {w : World} {k : Nat} {ao : Option Addr} {n cap b : Nat} {xs : List Value} (h : Rds P w k ao n cap xs) (hb : ∀ b' o', 0 < n → ao = some ⟨b', o', none⟩ → b' ≠ b) : Rds (fun x => P x ∧ x ≠ b) w k ao n cap xs := by
  rcases h with h | ⟨h1, h2, h3, h4, b', off, e, hp, hl, hc⟩
  · exact .inl h
  · exact .inr ⟨h1, h2, h3, h4, b', off, e, ⟨hp, hb b' off h1 e⟩, hl, hc⟩

/-- One number of one view's Epochs is written. -/
theorem ep_put {P : Nat → Prop} {w : World} {ps : List (Vc × Vw)} {lo hi : Nat} (hs : Sep lo ps hi) (lv : Lvs P w ps) {r : Nat} {c : Vc} {v : Vw} (hr : ps[r]? = some (c, v)) {b off : Nat} (hb : c.ea = some ⟨b, off, none⟩) {k : Nat} (hk : k < v.ep.length) (x : Int) :
    Lvs P (w.setCell ⟨b, off + k, none⟩ (.int .i64 x)) (ps.set r (c, { v with ep := v.ep.set k x })) := by
  have lc := lv _ (List.mem_of_getElem? hr)
  have hen : 0 < c.en := by have := lc.en; simp only at this; omega
  have hap := hs.apart hr hen hb
  have hkp : Kept (fun y => P y ∧ y ≠ b) w (w.setCell ⟨b, off + k, none⟩ (.int .i64 x)) := (Kept.refl _ w).setCell (p := ⟨b, off + k, none⟩) (fun y _ h => h.2) _
  intro q hq
  obtain ⟨j, hj⟩ := List.mem_iff_getElem?.1 hq
  rw [List.getElem?_set] at hj
  by_cases e : r = j
  · subst e
    rw [if_pos rfl] at hj
    split at hj
    · cases hj
      refine ⟨lc.R, lc.Rev, lc.f, lc.fs, lc.sn, by simpa using lc.en, ?_, ?_⟩
      · exact ((lc.heads.apart (b := b) (fun b' o' h1 h2 => (hap r _ hr).1 b' o' h1 h2)).kept hkp).mono (fun y _ h => h.1)
      · rcases lc.ints with h | ⟨h1, h2, h3, h4, b', off', e', hp, hl, hc⟩
        · have h0 : c.en = 0 := h.1
          omega
        · simp only at hb e'
          rw [hb] at e'; cases e'
          refine .inr ⟨h1, h2, h3, by simpa [icells] using h4, b, off, hb, hp, by simpa using hl, fun m u hu => ?_⟩
          by_cases em : m = k
          · subst em
            have hu' : u = .int .i64 x := by simp [icells, hk] at hu; exact hu.symm
            subst hu'
            exact World.cell?_setCell_same _ _ _ (u := .int .i64 v.ep[m]) (hc m _ (by simp [icells, hk]))
          · rw [World.cell?_setCell_other _ _ _ _ (by simp <;> omega)]
            apply hc m u
            simp only [icells, List.getElem?_map, List.getElem?_set] at hu ⊢
            rw [if_neg (by omega)] at hu
            exact hu
    · cases hj
  · rw [if_neg e] at hj
    have lq := lv _ (List.mem_of_getElem? hj)
    have ap := hap j _ hj
    refine ⟨lq.R, lq.Rev, lq.f, lq.fs, lq.sn, lq.en, ?_, ?_⟩
    · exact ((lq.heads.apart (b := b) (fun b' o' h1 h2 => ap.1 b' o' h1 h2)).kept hkp).mono (fun y _ h => h.1)
    · exact ((lq.ints.apart (b := b) (fun b' o' h1 h2 => ap.2 (by omega) b' o' h1 h2)).kept hkp).mono (fun y _ h => h.1)

theorem Fz.set {w : World} {ps : List (Vc × Vw)} (h : Fz w ps) {r : Nat} {c : Vc} {v v' : Vw} (hr : ps[r]? = some (c, v)) : Fz w (ps.set r (c, v')) := fun p hp b off e => by
  rcases List.mem_or_eq_of_mem_set hp with hp | rfl
  · exact h p hp b off e
  · exact h _ (List.mem_of_getElem? hr) b off e

theorem Fz.setCell {w : World} {ps : List (Vc × Vw)} (h : Fz w ps) (p : Addr) (u : Value) : Fz (w.setCell p u) ps := fun q hq b off e => by
  obtain ⟨h1, h2⟩ := h q hq b off e
  exact ⟨by simpa using h1, fun j => by simpa using h2 j⟩

/-- Two rows, their lists apart. -/
structure E2 (w : World) (g0 g1 n lo hi : Nat) (A B : List (Vc × Vw)) : Prop where
  a : Rr w g0 A
  b : Rr w g1 B
  la : A.length = n
  lb : B.length = n
  v : Lvs (fun k => k ≠ g0 ∧ k ≠ g1) w (A ++ B)
  sep : Sep lo (A ++ B) hi
  f : Fz w (A ++ B)

theorem E2.below {w w' : World} {g0 g1 n lo hi : Nat} {A B : List (Vc × Vw)} (h : E2 w g0 g1 n lo hi A B) (hb : Below w.heap.size w w') : E2 w' g0 g1 n lo hi A B :=
  have hk : Kept Any w w' := Kept.of_below hb
  ⟨h.a.kept hk trivial, h.b.kept hk trivial, h.la, h.lb, h.v.below hb, h.sep, h.f.kept (P := Any) (h.v.mono (fun _ _ _ => trivial)) hk⟩

theorem rr_put {w : World} {g : Nat} {ps : List (Vc × Vw)} (h : Rr w g ps) {b o : Nat} (hne : g ≠ b) (u : Value) : Rr (w.setCell ⟨b, o, none⟩ u) g ps :=
  h.kept (P := fun k => k ≠ b) ((Kept.refl _ w).setCell (p := ⟨b, o, none⟩) (fun k _ h => h) _) hne

theorem E2.put {w : World} {g0 g1 n lo hi : Nat} {A B : List (Vc × Vw)} (h : E2 w g0 g1 n lo hi A B) {i : Nat} {c : Vc} {v : Vw} (hr : (A ++ B)[i]? = some (c, v)) {b off : Nat} (hb : c.ea = some ⟨b, off, none⟩) {k : Nat} (hk : k < v.ep.length) (x : Int) :
    b ≠ g0 ∧ b ≠ g1 ∧ Lvs (fun k => k ≠ g0 ∧ k ≠ g1) (w.setCell ⟨b, off + k, none⟩ (.int .i64 x)) ((A ++ B).set i (c, { v with ep := v.ep.set k x })) := by
  have lc := h.v _ (List.mem_of_getElem? hr)
  have hp : b ≠ g0 ∧ b ≠ g1 := by
    rcases lc.ints with hi | ⟨_, _, _, _, b', off', e', hP, _⟩
    · have := lc.en; simp only at this hi; omega
    · simp only at e' hb; rw [hb] at e'; cases e'; exact hP
  exact ⟨hp.1, hp.2, ep_put h.sep h.v hr hb hk x⟩

theorem E2.putA {w : World} {g0 g1 n lo hi : Nat} {A B : List (Vc × Vw)} (h : E2 w g0 g1 n lo hi A B) {r : Nat} {c : Vc} {v : Vw} (hr : A[r]? = some (c, v)) {b off : Nat} (hb : c.ea = some ⟨b, off, none⟩) {k : Nat} (hk : k < v.ep.length) (x : Int) :
    E2 (w.setCell ⟨b, off + k, none⟩ (.int .i64 x)) g0 g1 n lo hi (A.set r (c, { v with ep := v.ep.set k x })) B := by
  have hrl : r < A.length := (List.getElem?_eq_some_iff.1 hr).1
  have hr' : (A ++ B)[r]? = some (c, v) := by rw [List.getElem?_append_left hrl]; exact hr
  obtain ⟨h1, h2, h3⟩ := h.put hr' hb hk x
  have es : (A ++ B).set r (c, { v with ep := v.ep.set k x }) = A.set r (c, { v with ep := v.ep.set k x }) ++ B := by rw [List.set_append]; simp [hrl]
  rw [es] at h3
  have hA := rr_put h.a (b := b) (o := off + k) (Ne.symm h1) (.int .i64 x)
  have hB := rr_put h.b (b := b) (o := off + k) (Ne.symm h2) (.int .i64 x)
  refine ⟨⟨hA.lt, by rw [pcells_same hr]; exact hA.cells, hA.free⟩, hB, by simp [h.la], h.lb, h3, ?_, ?_⟩
  · rw [← es]; exact h.sep.set hr'
  · rw [← es]; exact (h.f.set hr').setCell _ _

theorem E2.putB {w : World} {g0 g1 n lo hi : Nat} {A B : List (Vc × Vw)} (h : E2 w g0 g1 n lo hi A B) {r : Nat} {c : Vc} {v : Vw} (hr : B[r]? = some (c, v)) {b off : Nat} (hb : c.ea = some ⟨b, off, none⟩) {k : Nat} (hk : k < v.ep.length) (x : Int) :
    E2 (w.setCell ⟨b, off + k, none⟩ (.int .i64 x)) g0 g1 n lo hi A (B.set r (c, { v with ep := v.ep.set k x })) := by
  have hr' : (A ++ B)[A.length + r]? = some (c, v) := by rw [List.getElem?_append_right (by omega)]; simpa using hr
  obtain ⟨h1, h2, h3⟩ := h.put hr' hb hk x
  have es : (A ++ B).set (A.length + r) (c, { v with ep := v.ep.set k x }) = A ++ B.set r (c, { v with ep := v.ep.set k x }) := by rw [List.set_append, if_neg (by omega)]; simp
  rw [es] at h3
  have hA := rr_put h.a (b := b) (o := off + k) (Ne.symm h1) (.int .i64 x)
  have hB := rr_put h.b (b := b) (o := off + k) (Ne.symm h2) (.int .i64 x)
  refine ⟨hA, ⟨hB.lt, by rw [pcells_same hr]; exact hB.cells, hB.free⟩, h.la, by simp [h.lb], h3, ?_, ?_⟩
  · rw [← es]; exact h.sep.set hr'
  · rw [← es]; exact (h.f.set hr').setCell _ _

end Go.Proofs.YtdeojcodbojmoaaGreatDoor
