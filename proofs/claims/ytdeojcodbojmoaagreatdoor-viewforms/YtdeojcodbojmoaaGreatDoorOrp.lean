/- Three rows in whichever order: plain mathematics; and three rows side by side in memory. -/
import Derived.Test.YtdeojcodbojmoaaGreatDoorRvw
import Derived.Test.YtdeojcodbojmoaaGreatDoorMgp
namespace Go.Proofs.YtdeojcodbojmoaaGreatDoor
open Go.RowKit
set_option maxRecDepth 100000
set_option linter.unusedVariables false

/-- Of one number, one view. -/
structure Q3 (x y z : Vw) : Prop where
  xy : x.Rev = y.Rev → x = y
  xz : x.Rev = z.Rev → x = z
  yz : y.Rev = z.Rev → y = z

theorem pick_stay {x y : Vw} (h : y.Rev ≤ x.Rev) : pick x y = x := by unfold pick; rw [if_pos h]
theorem pick_go {x y : Vw} (h : ¬ y.Rev ≤ x.Rev) : pick x y = y := by unfold pick; rw [if_neg h]

theorem pick_flip {x z : Vw} (h : x.Rev = z.Rev → x = z) : pick x z = pick z x := by
  by_cases c : z.Rev ≤ x.Rev
  · rw [pick_stay c]
    by_cases d : x.Rev ≤ z.Rev
    · rw [pick_stay d]; exact h (by omega)
    · rw [pick_go d]
  · rw [pick_go c, pick_stay (by omega)]

theorem pick_order {x y z : Vw} (q : Q3 x y z) : pick (pick x y) z = pick z (pick y x) := by
  obtain ⟨h1, h2, h3⟩ := q
  rw [pick_flip h1]
  apply pick_flip
  by_cases a : x.Rev ≤ y.Rev
  · rw [pick_stay a]; exact h3
  · rw [pick_go a]; exact h2

theorem pick_Rev (x y : Vw) : (pick x y).Rev = max x.Rev y.Rev := by
  unfold pick
  split <;> omega

theorem zip3 (A B C : List Vw) (hB : B.length = A.length) (hC : C.length = A.length) (q : ∀ i (h : i < A.length), Q3 A[i] (B[i]'(by omega)) (C[i]'(by omega))) :
    List.zipWith pick (List.zipWith pick A B) C = List.zipWith pick C (List.zipWith pick B A) := by
  apply List.ext_getElem
  · simp [hB, hC]
  · intro i h1 h2
    simp only [List.getElem_zipWith]
    exact pick_order (q i (by simp at h1; omega))

theorem zip_mid (A B C : List Vw) (hB : B.length = A.length) (hC : C.length = A.length) :
    List.zipWith pick (List.zipWith pick (List.zipWith pick A B) C) B = List.zipWith pick (List.zipWith pick A B) C := by
  apply List.ext_getElem
  · simp [hB, hC]
  · intro i h1 h2
    simp only [List.getElem_zipWith]
    exact pick_stay (by rw [pick_Rev, pick_Rev]; omega)

/-- A row of views in block g, which may be written. -/
structure Rr (w : World) (g : Nat) (ps : List (Vc × Vw)) : Prop where
  lt : g < w.heap.size
  cells : ∀ j u, (pcells ps)[j]? = some u → w.cell? ⟨g, j, none⟩ = some u
  free : ∀ j, w.frozen? ⟨g, j, none⟩ = false

theorem Rr.kept {P : Nat → Prop} {w w' : World} {g : Nat} {ps : List (Vc × Vw)} (h : Rr w g ps) (hk : Kept P w w') (hp : P g) : Rr w' g ps :=
  ⟨Nat.lt_of_lt_of_le h.lt hk.size, fun j u hu => (hk.cell h.lt hp).trans (h.cells j u hu), fun j => (hk.frozen h.lt hp).trans (h.free j)⟩

/-- Three rows; none of their views' lists lies in one of their blocks. -/
structure St (w : World) (g0 g1 g2 n : Nat) (A B C : List (Vc × Vw)) : Prop where
  a : Rr w g0 A
  b : Rr w g1 B
  c : Rr w g2 C
  la : A.length = n
  lb : B.length = n
  lc : C.length = n
  va : Lvs (fun k => k ≠ g0 ∧ k ≠ g1 ∧ k ≠ g2) w A
  vb : Lvs (fun k => k ≠ g0 ∧ k ≠ g1 ∧ k ≠ g2) w B
  vc : Lvs (fun k => k ≠ g0 ∧ k ≠ g1 ∧ k ≠ g2) w C
  ab : g0 ≠ g1
  ac : g0 ≠ g2
  bc : g1 ≠ g2

theorem St.below {w w' : World} {g0 g1 g2 n : Nat} {A B C : List (Vc × Vw)} (h : St w g0 g1 g2 n A B C) (hb : Below w.heap.size w w') : St w' g0 g1 g2 n A B C :=
  have hk : Kept Any w w' := Kept.of_below hb
  ⟨h.a.kept hk trivial, h.b.kept hk trivial, h.c.kept hk trivial, h.la, h.lb, h.lc, h.va.below hb, h.vb.below hb, h.vc.below hb, h.ab, h.ac, h.bc⟩

/-- Five cells of one view put in another one's place. -/
def put5 (w : World) (g j : Nat) (c : Vc) : World :=
  ((((w.setCell ⟨g, j, none⟩ (.int .i64 c.R)).setCell ⟨g, j + 1, none⟩ (.int .i64 c.Rev)).setCell ⟨g, j + 2, none⟩ (.string c.f)).setCell ⟨g, j + 3, none⟩ (.slice c.sa c.sn c.sc)).setCell ⟨g, j + 4, none⟩ (.slice c.ea c.en c.ec)

theorem put5_kept (w : World) (g j : Nat) (c : Vc) : Kept (fun k => k ≠ g) w (put5 w g j c) :=
  (((((Kept.refl _ w).setCell (p := ⟨g, j, none⟩) (fun k _ h => h) _).setCell (p := ⟨g, j + 1, none⟩) (fun k _ h => h) _).setCell (p := ⟨g, j + 2, none⟩) (fun k _ h => h) _).setCell (p := ⟨g, j + 3, none⟩) (fun k _ h => h) _).setCell (p := ⟨g, j + 4, none⟩) (fun k _ h => h) _

theorem pcells_set (ps : List (Vc × Vw)) (r : Nat) (p : Vc × Vw) (h : r < ps.length) (j : Nat) : (pcells (ps.set r p))[j]? = if r * 5 ≤ j ∧ j < r * 5 + 5 then p.1.vals[j - r * 5]? else (pcells ps)[j]? := by
  induction ps generalizing r j with
  | nil => simp at h
  | cons q ps ih =>
    cases r with
    | zero =>
      simp only [List.set_cons_zero, pcells, Nat.zero_mul, Nat.zero_le, true_and, Nat.zero_add, Nat.sub_zero]
      by_cases hj : j < 5
      · rw [if_pos hj, List.getElem?_append_left (by simp [Vc.vals]; omega)]
      · rw [if_neg hj, List.getElem?_append_right (by simp [Vc.vals]; omega), List.getElem?_append_right (by simp [Vc.vals]; omega)]
        simp [Vc.vals]
    | succ r =>
      simp only [List.set_cons_succ, pcells]
      by_cases hj : j < 5
      · rw [if_neg (by omega), List.getElem?_append_left (by simp [Vc.vals]; omega), List.getElem?_append_left (by simp [Vc.vals]; omega)]
      · rw [List.getElem?_append_right (by simp [Vc.vals]; omega), List.getElem?_append_right (by simp [Vc.vals]; omega)]
        have e : (q.1.vals).length = 5 := by simp [Vc.vals]
        rw [e, ih r (by simpa using h) (j - 5)]
        by_cases hr : r * 5 ≤ j - 5 ∧ j - 5 < r * 5 + 5
        · rw [if_pos hr, if_pos (by omega)]
          congr 1; omega
        · rw [if_neg hr, if_neg (by omega)]

theorem put5_rr {w : World} {g : Nat} {ps : List (Vc × Vw)} (h : Rr w g ps) (r : Nat) (hr : r < ps.length) (p : Vc × Vw) : Rr (put5 w g (r * 5) p.1) g (ps.set r p) := by
  have hold := view_at (P := Any) (w := w) (b := g) (off := 0) (ps := ps) (fun j u hu => by rw [Nat.zero_add]; exact h.cells j u hu) r hr
  simp only [Nat.zero_add] at hold
  obtain ⟨o0, o1, o2, o3, o4⟩ := hold
  refine ⟨by simpa [put5] using h.lt, fun j u hu => ?_, fun j => by simpa [put5] using h.free j⟩
  rw [pcells_set ps r p hr j] at hu
  unfold put5
  by_cases hj : r * 5 ≤ j ∧ j < r * 5 + 5
  · rw [if_pos hj] at hu
    obtain ⟨q, rfl⟩ : ∃ q, j = r * 5 + q := ⟨j - r * 5, by omega⟩
    have e : r * 5 + q - r * 5 = q := by omega
    rw [e] at hu
    match q, hu with
    | 0, hu =>
      simp [Vc.vals] at hu; subst hu
      rw [World.cell?_setCell_other _ _ _ _ (by simp), World.cell?_setCell_other _ _ _ _ (by simp), World.cell?_setCell_other _ _ _ _ (by simp), World.cell?_setCell_other _ _ _ _ (by simp)]
      exact World.cell?_setCell_same _ _ _ o0
    | 1, hu =>
      simp [Vc.vals] at hu; subst hu
      rw [World.cell?_setCell_other _ _ _ _ (by simp), World.cell?_setCell_other _ _ _ _ (by simp), World.cell?_setCell_other _ _ _ _ (by simp)]
      exact World.cell?_setCell_same _ _ _ (by rw [World.cell?_setCell_other _ _ _ _ (by simp)]; exact o1)
    | 2, hu =>
      simp [Vc.vals] at hu; subst hu
      rw [World.cell?_setCell_other _ _ _ _ (by simp), World.cell?_setCell_other _ _ _ _ (by simp)]
      exact World.cell?_setCell_same _ _ _ (by rw [World.cell?_setCell_other _ _ _ _ (by simp), World.cell?_setCell_other _ _ _ _ (by simp)]; exact o2)
    | 3, hu =>
      simp [Vc.vals] at hu; subst hu
      rw [World.cell?_setCell_other _ _ _ _ (by simp)]
      exact World.cell?_setCell_same _ _ _ (by rw [World.cell?_setCell_other _ _ _ _ (by simp), World.cell?_setCell_other _ _ _ _ (by simp), World.cell?_setCell_other _ _ _ _ (by simp)]; exact o3)
    | 4, hu =>
      simp [Vc.vals] at hu; subst hu
      exact World.cell?_setCell_same _ _ _ (by rw [World.cell?_setCell_other _ _ _ _ (by simp), World.cell?_setCell_other _ _ _ _ (by simp), World.cell?_setCell_other _ _ _ _ (by simp), World.cell?_setCell_other _ _ _ _ (by simp)]; exact o4)
    | m + 5, hu => simp [Vc.vals] at hu
  · rw [if_neg hj] at hu
    rw [World.cell?_setCell_other _ _ _ _ (by simp <;> omega), World.cell?_setCell_other _ _ _ _ (by simp <;> omega), World.cell?_setCell_other _ _ _ _ (by simp <;> omega), World.cell?_setCell_other _ _ _ _ (by simp <;> omega), World.cell?_setCell_other _ _ _ _ (by simp <;> omega)]
    exact h.cells j u hu

theorem lvs_set {P : Nat → Prop} {w : World} {ps : List (Vc × Vw)} (h : Lvs P w ps) (r : Nat) (p : Vc × Vw) (hp : Lv P w p.1 p.2) : Lvs P w (ps.set r p) := by
  intro q hq
  rcases List.mem_or_eq_of_mem_set hq with hq | rfl
  · exact h q hq
  · exact hp

/-- A view of the first row put into the second; into the third. -/
theorem St.putB {w : World} {g0 g1 g2 n : Nat} {A B C : List (Vc × Vw)} (h : St w g0 g1 g2 n A B C) (r : Nat) (hr : r < n) (p : Vc × Vw) (hp : Lv (fun k => k ≠ g0 ∧ k ≠ g1 ∧ k ≠ g2) w p.1 p.2) : St (put5 w g1 (r * 5) p.1) g0 g1 g2 n A (B.set r p) C := by
  have hk := put5_kept w g1 (r * 5) p.1
  have hk' : Kept (fun k => k ≠ g0 ∧ k ≠ g1 ∧ k ≠ g2) w (put5 w g1 (r * 5) p.1) := hk.mono (fun k _ h => h.2.1)
  exact ⟨h.a.kept hk h.ab, put5_rr h.b r (by rw [h.lb]; exact hr) p, h.c.kept hk (Ne.symm h.bc), h.la, by simp [h.lb], h.lc, h.va.kept hk', (lvs_set h.vb r p hp).kept hk', h.vc.kept hk', h.ab, h.ac, h.bc⟩

theorem St.putC {w : World} {g0 g1 g2 n : Nat} {A B C : List (Vc × Vw)} (h : St w g0 g1 g2 n A B C) (r : Nat) (hr : r < n) (p : Vc × Vw) (hp : Lv (fun k => k ≠ g0 ∧ k ≠ g1 ∧ k ≠ g2) w p.1 p.2) : St (put5 w g2 (r * 5) p.1) g0 g1 g2 n A B (C.set r p) := by
  have hk := put5_kept w g2 (r * 5) p.1
  have hk' : Kept (fun k => k ≠ g0 ∧ k ≠ g1 ∧ k ≠ g2) w (put5 w g2 (r * 5) p.1) := hk.mono (fun k _ h => h.2.2)
  exact ⟨h.a.kept hk h.ac, h.b.kept hk h.bc, put5_rr h.c r (by rw [h.lc]; exact hr) p, h.la, h.lb, by simp [h.lc], h.va.kept hk', h.vb.kept hk', (lvs_set h.vc r p hp).kept hk', h.ab, h.ac, h.bc⟩

/-- The cells of one view of such a row. -/
theorem Rr.at {w : World} {g : Nat} {ps : List (Vc × Vw)} (h : Rr w g ps) (i : Nat) (hi : i < ps.length) :
    w.cell? ⟨g, i * 5, none⟩ = some (.int .i64 (ps[i]).1.R) ∧ w.cell? ⟨g, i * 5 + 1, none⟩ = some (.int .i64 (ps[i]).1.Rev) ∧ w.cell? ⟨g, i * 5 + 2, none⟩ = some (.string (ps[i]).1.f) ∧ w.cell? ⟨g, i * 5 + 3, none⟩ = some (.slice (ps[i]).1.sa (ps[i]).1.sn (ps[i]).1.sc) ∧ w.cell? ⟨g, i * 5 + 4, none⟩ = some (.slice (ps[i]).1.ea (ps[i]).1.en (ps[i]).1.ec) := by
  have hold := view_at (P := Any) (w := w) (b := g) (off := 0) (ps := ps) (fun j u hu => by rw [Nat.zero_add]; exact h.cells j u hu) i hi
  simpa only [Nat.zero_add] using hold

end Go.Proofs.YtdeojcodbojmoaaGreatDoor
