/- vput does something: the closed calls that each statement makes first. -/
import Derived.Test.YtopkeembbopbmaaDoorPuv
import Derived.Test.YtopkeembbopbmaaDoorTke
import Derived.Test.YtopkeembbopbmaaDoorSme
namespace Go.Proofs.YtopkeembbopbmaaDoor
open Go.RowKit
set_option maxRecDepth 100000
set_option linter.unusedVariables false

/-- Two versions of the same parts are alike. -/
theorem sm_parts {u v : Vn} {al bl' : List (Int × Int)} {V : Vp} (hu : Parts u al V) (hv : Parts v bl' V) : sm u al v bl' = true := by
  obtain ⟨h1, h2, h3, h4, h5, h6, h7, h8⟩ := hu
  obtain ⟨k1, k2, k3, k4, k5, k6, k7, k8⟩ := hv
  unfold sm
  refine decide_eq_true ⟨by rw [h1, k1], ⟨by rw [h2, k2], by rw [h3, k3], by rw [h4, k4]⟩, ?_, ?_, ?_, by rw [h6, k6]⟩
  · have := h5.trans k5.symm
    unfold b2n at this
    cases hd : u.dead <;> cases hd' : v.dead <;> rw [hd, hd'] at this <;> simp at this <;> rfl
  · rw [← strs_bl u.tag, ← strs_bl v.tag, h7, k7]
  · rw [← strs_bl u.body, ← strs_bl v.body, h8, k8]

/-- What may be is of its own parts. -/
theorem parts_vp {v : Vn} {al : List (Int × Int)} (h : mayI v al = true) : Parts v al (vp v al) := by
  obtain ⟨h1, h2, h3, h4, h5, h6, h7, h8, h9, h10, h11, h12⟩ := may_parts h
  exact ⟨(Int.toNat_of_nonneg (by omega)).symm, (Int.toNat_of_nonneg (by omega)).symm, (Int.toNat_of_nonneg (by omega)).symm, (Int.toNat_of_nonneg (by omega)).symm, rfl, (map_nat al h10).symm, rfl, rfl⟩

/-- What is put is taken, whatever stands behind it. -/
theorem tvP_put {v : Vn} {al : List (Int × Int)} (h : mayI v al = true) (m : List Nat) (hm : ∀ x ∈ m, x < 256) : tvP mayN (pv (vp v al) ++ m) = some (vp v al, (pv (vp v al)).length) := by
  rw [tvP_eq mayN mayN_3 _ (by intro x hx; rcases List.mem_append.1 hx with h1 | h1; exact pv_lt _ (bl_lt _) (bl_lt _) x h1; exact hm x h1)]
  exact tv_put mayN _ (vp_fit h) (mayN_vp h) m

/-- Cut off it is none. -/
theorem tvP_cut {v : Vn} {al : List (Int × Int)} (h : mayI v al = true) (m : Nat) (hm : m < (pv (vp v al)).length) : tvP mayN ((pv (vp v al)).take m) = none := by
  rw [tvP_eq mayN mayN_3 _ (by intro x hx; exact pv_lt _ (bl_lt _) (bl_lt _) x (List.mem_of_mem_take hx))]
  exact tv_cut mayN mayN_fit _ (vp_fit h) m hm

def v0 : Vn := ⟨2, 3, 1, 2, false, none, 0, 0, ⟨#[97]⟩, ⟨#[98]⟩⟩
theorem may0 : mayI v0 [] = true := by decide +kernel
theorem bytes0 : pv (vp v0 []) = [2, 3, 1, 2, 0, 0, 1, 97, 1, 98] := by
  show put 2 ++ (put 3 ++ (put 1 ++ (put 2 ++ (put 0 ++ (put 0 ++ ([] ++ (putx [97] ++ putx [98]))))))) = _
  unfold putx
  simp only [List.length_cons, List.length_nil, put_small _ (show 2 < 128 by decide), put_small _ (show 3 < 128 by decide), put_small _ (show 1 < 128 by decide), put_small _ (show 0 < 128 by decide)]
  rfl

set_option maxHeartbeats 4000000 in
theorem begun7 (a b : Addr) (w : World) (hV : Vars w a b) :
    Calls Tryd.prog 7 #[] w fun r w' => r = .returned (.bool true) ∧ Below w.heap.size w w' := by
  have HV : Hid (Vars w a b) := hV
  obtain ⟨X, hX⟩ : ∃ X, X = w.alloc (.cells (vcells v0) 26) := ⟨_, rfl⟩
  have hbX : Below w.heap.size w X := by rw [hX]; exact (Below.refl _ w).alloc (Nat.le_refl _) _
  have c1 := put13 a b none 0 0 [] v0 [] X (hV.below hbX) (Rb.none _) (by omega) (At.none _ _) (by decide) (by decide)
  have HX : Hid (X = _ ∧ Below w.heap.size w X) := ⟨hX, hbX⟩
  unfold v0 at c1
  unfold Vn.val at c1
  simp only at c1
  clear hV hbX hX
  unfold vcells v0 at HX
  go_enter Tryd.func7, Tryd.ntmps7
  go_wp2_with fail
  rw [← HX.out.1]
  refine c1.mono ?_
  rintro r w1 ⟨xo, xn, xc, rfl, hrx, hb1⟩
  have e10 : ([] : List Nat) ++ vb ⟨2, 3, 1, 2, false, none, 0, 0, ⟨#[97]⟩, ⟨#[98]⟩⟩ [] = [2, 3, 1, 2, 0, 0, 1, 97, 1, 98] := by
    show vb v0 [] = _
    unfold vb
    rw [if_pos may0, bytes0]
  rw [e10] at hrx
  have hxn : xn = 10 := hrx.len.symm
  have hbw1 : Below w.heap.size w w1 := HX.out.2.trans (hb1.mono HX.out.2.size)
  have ht1 : tvP mayN [2, 3, 1, 2, 0, 0, 1, 97, 1, 98] = some (vp v0 [], 10) := by
    have h := tvP_put may0 [] (by intro x hx; cases hx)
    rw [bytes0] at h
    exact h
  have c2 := take11 a b xo xn xc _ w1 (HV.out.below hbw1) hrx (by omega)
  have hcX : ∀ j, j < 8 → X.cell? ⟨w.heap.size, j, none⟩ = (vcells v0)[j]? := by
    intro j hj
    rw [HX.out.1, World.cell?_alloc_at _ _ _ _ rfl]
    rfl
  have hsX : w.heap.size < X.heap.size := by rw [HX.out.1]; simp
  have HW1 : Hid (Rb w1 xo xn xc [2, 3, 1, 2, 0, 0, 1, 97, 1, 98] ∧ Below w.heap.size w w1 ∧ xn = 10 ∧ ∀ j, j < 8 → w1.cell? ⟨w.heap.size, j, none⟩ = (vcells v0)[j]?) := ⟨hrx, hbw1, hxn, fun j hj => (hb1.cell (p := ⟨w.heap.size, j, none⟩) hsX).trans (hcX j hj)⟩
  have hs1 : w.heap.size < w1.heap.size := Nat.lt_of_lt_of_le hsX hb1.size
  clear c1 hrx hb1 hxn hbw1 hcX hsX e10
  go_wp2_with fail
  refine c2.mono ?_
  rintro r w2 ⟨u, al, m, ok, rfl, hat, htt, htd, hb2, hT⟩
  rw [ht1] at hT
  obtain ⟨rfl, rfl, hP, hM⟩ := hT
  have HU : Hid (Has w2 u al ∧ Parts u al (vp v0 []) ∧ Below w1.heap.size w1 w2) := ⟨hat, hP, hb2⟩
  obtain ⟨Y, hY⟩ : ∃ Y, Y = w2.alloc (.cells (vcells u) 26) := ⟨_, rfl⟩
  have hbY : Below w2.heap.size w2 Y := by rw [hY]; exact (Below.refl _ w2).alloc (Nat.le_refl _) _
  have hbwY : Below w.heap.size w Y := HW1.out.2.1.trans ((hb2.mono (Nat.le_of_lt hs1)).trans (hbY.mono (Nat.le_trans (Nat.le_of_lt hs1) hb2.size)))
  have c3 := take11 a b none 0 0 [] Y (HV.out.below hbwY) (Rb.none _) (by omega)
  have hcY : ∀ j, j < 8 → Y.cell? ⟨w2.heap.size, j, none⟩ = (vcells u)[j]? := by
    intro j hj
    rw [hY, World.cell?_alloc_at _ _ _ _ rfl]
  have HY : Hid (Y = w2.alloc (.cells (vcells u) 26) ∧ Below w2.heap.size w2 Y ∧ Below w.heap.size w Y ∧ (∀ j, j < 8 → Y.cell? ⟨w2.heap.size, j, none⟩ = (vcells u)[j]?)) := ⟨hY, hbY, hbwY, hcY⟩
  have hs2 : w1.heap.size ≤ w2.heap.size := hb2.size
  have hsY : w2.heap.size < Y.heap.size := by rw [hY]; simp
  clear c2 hat htt htd hb2 hP hM hY hbY hbwY hcY
  obtain ⟨it, L, R, N, dead, ao, len, cap, tag, body⟩ := u
  unfold Vn.val
  unfold vcells at HY
  simp only
  go_wp2_with fail
  rw [← HY.out.1]
  refine c3.mono ?_
  rintro r w3 ⟨u3, al3, m3, ok3, rfl, _, _, _, hb3, hT⟩
  have ht0 : tvP mayN [] = none := rfl
  rw [ht0] at hT
  obtain ⟨rfl, rfl, rfl, rfl⟩ := hT
  have hbY3 : Below Y.heap.size Y w3 := hb3
  have hb13 : Below w1.heap.size w1 w3 := HU.out.2.2.trans ((HY.out.2.1.mono hs2).trans (hb3.mono (by omega)))
  obtain ⟨Z, hZ⟩ : ∃ Z, Z = w3.alloc (.cells (vcells ⟨0, 0, 0, 0, false, none, 0, 0, ⟨#[]⟩, ⟨#[]⟩⟩) 26) := ⟨_, rfl⟩
  have hbZ : Below w3.heap.size w3 Z := by rw [hZ]; exact (Below.refl _ w3).alloc (Nat.le_refl _) _
  have hb1Z : Below w1.heap.size w1 Z := hb13.trans (hbZ.mono hb13.size)
  have hbYZ : Below Y.heap.size Y Z := hb3.trans (hbZ.mono hb3.size)
  have cv := fun W (hW : Below w1.heap.size w1 W) => conv_rb (HW1.out.1.kept hW)
  have hcv : Below w1.heap.size w1 Z := hb1Z
  have es : strs [2, 3, 1, 2, 0, 0, 1, 97, 1, 98] = ⟨#[2, 3, 1, 2, 0, 0, 1, 97, 1, 98]⟩ := rfl
  rw [es] at cv
  have g1 : ∀ j, j < 8 → w3.cell? ⟨w.heap.size, j, none⟩ = (vcells v0)[j]? := fun j hj => (hb13.cell (p := ⟨w.heap.size, j, none⟩) hs1).trans (HW1.out.2.2.2 j hj)
  have g2 : ∀ j, j < 8 → w3.cell? ⟨w2.heap.size, j, none⟩ = _ := fun j hj => (hb3.cell (p := ⟨w2.heap.size, j, none⟩) hsY).trans (HY.out.2.2.2 j hj)
  have p0 := g1 0 (by omega)
  have p1 := g1 1 (by omega)
  have p2 := g1 2 (by omega)
  have p3 := g1 3 (by omega)
  have p4 := g1 4 (by omega)
  have p5 := g1 5 (by omega)
  have p6 := g1 6 (by omega)
  have p7 := g1 7 (by omega)
  replace p0 : w3.cell? ⟨w.heap.size, 0, none⟩ = some (.int .i64 2) := p0
  replace p1 : w3.cell? ⟨w.heap.size, 1, none⟩ = some (.int .i64 3) := p1
  replace p2 : w3.cell? ⟨w.heap.size, 2, none⟩ = some (.int .i64 1) := p2
  replace p3 : w3.cell? ⟨w.heap.size, 3, none⟩ = some (.int .i64 2) := p3
  replace p4 : w3.cell? ⟨w.heap.size, 4, none⟩ = some (.bool false) := p4
  replace p5 : w3.cell? ⟨w.heap.size, 5, none⟩ = some (.slice none 0 0) := p5
  replace p6 : w3.cell? ⟨w.heap.size, 6, none⟩ = some (.string ⟨#[97]⟩) := p6
  replace p7 : w3.cell? ⟨w.heap.size, 7, none⟩ = some (.string ⟨#[98]⟩) := p7
  have q0 : w3.cell? ⟨w2.heap.size, 0, none⟩ = some (.int .i64 it) := g2 0 (by omega)
  have q1 : w3.cell? ⟨w2.heap.size, 1, none⟩ = some (.int .i64 L) := g2 1 (by omega)
  have q2 : w3.cell? ⟨w2.heap.size, 2, none⟩ = some (.int .i64 R) := g2 2 (by omega)
  have q3 : w3.cell? ⟨w2.heap.size, 3, none⟩ = some (.int .i64 N) := g2 3 (by omega)
  have q4 : w3.cell? ⟨w2.heap.size, 4, none⟩ = some (.bool dead) := g2 4 (by omega)
  have q5 : w3.cell? ⟨w2.heap.size, 5, none⟩ = some (.slice ao len cap) := g2 5 (by omega)
  have q6 : w3.cell? ⟨w2.heap.size, 6, none⟩ = some (.string tag) := g2 6 (by omega)
  have q7 : w3.cell? ⟨w2.heap.size, 7, none⟩ = some (.string body) := g2 7 (by omega)
  have hs3a : w.heap.size < w3.heap.size := Nat.lt_of_lt_of_le hs1 hb13.size
  have hs3b : w2.heap.size < w3.heap.size := Nat.lt_of_lt_of_le hsY hb3.size
  have hw2Z : Below w2.heap.size w2 Z := HY.out.2.1.trans (hbYZ.mono (Nat.le_of_lt hsY))
  have c4 := same15 v0 ⟨it, L, R, N, dead, ao, len, cap, tag, body⟩ [] al Z (At.none _ _) (HU.out.1.kept hw2Z)
  rw [sm_parts (parts_vp may0) HU.out.2.1] at c4
  unfold v0 Vn.val at c4
  simp only at c4
  have HZ : Hid (Z = _ ∧ Below w.heap.size w Z) := ⟨hZ, HW1.out.2.1.trans (hb1Z.mono (Nat.le_of_lt hs1))⟩
  unfold vcells at HZ
  rw [HZ.out.1] at hcv
  clear c3 hb3 hbY3 hb13 hZ hbZ hb1Z hbYZ g1 g2 hw2Z es ht0 ht1
  unfold Vn.val
  simp only
  go_wp2_with fail
  rw [← HZ.out.1]
  refine c4.mono ?_
  rintro r w4 ⟨rfl, hb4⟩
  have HB4 : Hid (Below w.heap.size w w4) := HZ.out.2.trans (hb4.mono HZ.out.2.size)
  clear c4 hb4 p0 p1 p2 p3 p4 p5 p6 p7 q0 q1 q2 q3 q4 q5 q6 q7 cv
  go_wp2
  go_ret
  exact ⟨rfl, HB4.out⟩

end Go.Proofs.YtopkeembbopbmaaDoor
