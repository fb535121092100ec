/- vput.Put. -/
import Derived.Test.YtopkeembbopbmaaDoorWho
namespace Go.Proofs.YtopkeembbopbmaaDoor
open Go.RowKit
set_option maxRecDepth 100000
set_option linter.unusedVariables false

/-- A version's bytes; none if it may not be. -/
def vb (v : Vn) (al : List (Int × Int)) : List Nat := if mayI v al = true then pv (vp v al) else []

theorem put_lt (v : Nat) : ∀ x ∈ put v, x < 256 := put_byte v
theorem putx_lt {s : List Nat} (h : ∀ x ∈ s, x < 256) : ∀ x ∈ putx s, x < 256 := by
  intro x hx
  unfold putx at hx
  rcases List.mem_append.1 hx with h1 | h1
  · exact put_byte _ x h1
  · exact h x h1
theorem pat_lt (a : List (Nat × Nat)) : ∀ x ∈ pat a, x < 256 := by
  intro x hx
  unfold pat at hx
  obtain ⟨p, _, hp⟩ := List.mem_flatMap.1 hx
  rcases List.mem_append.1 hp with h1 | h1 <;> exact put_byte _ x h1
theorem pv_lt (V : Vp) (ht : ∀ x ∈ V.t, x < 256) (hb : ∀ x ∈ V.b, x < 256) : ∀ x ∈ pv V, x < 256 := by
  intro x hx
  unfold pv at hx
  simp only [List.mem_append] at hx
  rcases hx with h | h | h | h | h | h | h | h | h
  · exact put_byte _ x h
  · exact put_byte _ x h
  · exact put_byte _ x h
  · exact put_byte _ x h
  · exact put_byte _ x h
  · exact put_byte _ x h
  · exact pat_lt _ x h
  · exact putx_lt ht x h
  · exact putx_lt hb x h
theorem vb_lt (v : Vn) (al : List (Int × Int)) : ∀ x ∈ vb v al, x < 256 := by
  unfold vb
  split
  · exact pv_lt _ (bl_lt _) (bl_lt _)
  · intro x hx; cases hx

theorem pat_len (a : List (Nat × Nat)) (h : ∀ p ∈ a, p.1 < 100000 ∧ p.2 < 100000) : (pat a).length ≤ 6 * a.length := by
  induction a with
  | nil => exact Nat.le_refl _
  | cons p r ih =>
    obtain ⟨h1, h2⟩ := h p (by simp)
    have := ih (fun q hq => h q (by simp [hq]))
    have := put_3 h1
    have := put_3 h2
    rw [pat_cons]
    simp only [List.length_append, List.length_cons]
    omega

theorem pv_len {v : Vn} {al : List (Int × Int)} (h : mayI v al = true) : (pv (vp v al)).length ≤ 100 := by
  obtain ⟨h1, h2, h3, h4, h5, h6, h7, h8, h9, h10, h11, h12⟩ := may_parts h
  unfold pv putx
  simp only [vp, List.length_append, List.length_map, bl_len]
  have e1 := put_3 (v := v.it.toNat) (by omega)
  have e2 := put_3 (v := v.L.toNat) (by omega)
  have e3 := put_3 (v := v.R.toNat) (by omega)
  have e4 := put_3 (v := v.N.toNat) (by omega)
  have e5 := put_3 (v := b2n v.dead) (by unfold b2n; split <;> omega)
  have e6 := put_3 (v := al.length) (by omega)
  have e7 := put_3 (v := v.tag.size) (by omega)
  have e8 := put_3 (v := v.body.size) (by omega)
  have e9 := pat_len (al.map (fun p => (p.1.toNat, p.2.toNat))) (fun p hp => by
    obtain ⟨q, hq, rfl⟩ := List.mem_map.1 hp
    obtain ⟨a1, a2, a3, a4⟩ := h10 q hq
    simp only
    omega)
  rw [List.length_map] at e9
  omega

theorem vb_len (v : Vn) (al : List (Int × Int)) : (vb v al).length ≤ 100 := by
  unfold vb
  split
  · rename_i h; exact pv_len h
  · simp

/-- vput.whole of what may be. -/
theorem whole26_v (v : Vn) (al : List (Int × Int)) (w : World) (hm : mayI v al = true) (hA : Has w v al) : Calls Tryd.prog 26 #[v.val] w fun e w' => ∃ xo N xc, e = .returned (.slice xo N xc) ∧ Rb w' xo N xc (pv (vp v al)) ∧ Below w.heap.size w w' := by
  obtain ⟨h1, h2, h3, h4, h5, h6, h7, h8, h9, h10, h11, h12⟩ := may_parts hm
  obtain ⟨it, L, R, N, dead, ao, len, cap, tag, body⟩ := v
  simp only at h1 h2 h3 h4 h5 h6 h7 h8 h11 h12
  obtain ⟨i, rfl⟩ := Int.eq_ofNat_of_zero_le (show 0 ≤ it by omega)
  obtain ⟨l, rfl⟩ := Int.eq_ofNat_of_zero_le (show 0 ≤ L by omega)
  obtain ⟨r, rfl⟩ := Int.eq_ofNat_of_zero_le (show 0 ≤ R by omega)
  obtain ⟨n, rfl⟩ := Int.eq_ofNat_of_zero_le (show 0 ≤ N by omega)
  have ea : al = castA (al.map (fun p => (p.1.toNat, p.2.toNat))) := (map_nat al h10).symm
  have hA' : At w ao len al := hA
  have hlen : len = (al.map (fun p => (p.1.toNat, p.2.toNat))).length := by rw [List.length_map]; exact hA'.1
  have hfit : ∀ p ∈ al.map (fun p => (p.1.toNat, p.2.toNat)), p.1 < 100000 ∧ p.2 < 100000 := fun p hp => by
    obtain ⟨q, hq, rfl⟩ := List.mem_map.1 hp
    obtain ⟨a1, a2, a3, a4⟩ := h10 q hq
    simp only
    omega
  unfold vp Vn.val
  simp only [Int.toNat_natCast]
  rw [ea] at hA'
  rw [hlen] at hA' ⊢
  have hl3 : (al.map (fun p => (p.1.toNat, p.2.toNat))).length ≤ 3 := by rw [List.length_map]; exact h9
  generalize al.map (fun p => (p.1.toNat, p.2.toNat)) = a at *
  exact whole26 i l r n dead ao cap a tag body w ⟨by omega, by omega, by omega, by omega, by omega, hfit, by omega, by omega⟩ hA'

set_option maxHeartbeats 4000000 in
/-- vput.Put. -/
theorem put13 (a b : Addr) (ao : Option Addr) (n cap : Nat) (l : List Nat) (v : Vn) (al : List (Int × Int)) (w : World) (hV : Vars w a b) (hr : Rb w ao n cap l) (hn : n ≤ 1000) (hH : Has w v al) (ht : v.tag.size ≤ maxLen) (hb : v.body.size ≤ maxLen) :
    Calls Tryd.prog 13 #[.slice ao n cap, v.val] w fun e w' => ∃ xo N xc, e = .returned (.slice xo N xc) ∧ Rb w' xo N xc (l ++ vb v al) ∧ Below w.heap.size w w' := by
  obtain ⟨tb, htb⟩ : ∃ tb, tb = w.heap.size := ⟨_, rfl⟩
  obtain ⟨X, hX⟩ : ∃ X, X = w.alloc (.cells (vcells v) 26) := ⟨_, rfl⟩
  have hBX : Below w.heap.size w X := by rw [hX]; exact (Below.refl _ w).alloc (Nat.le_refl _) _
  have hcX : ∀ j, j < 8 → X.cell? ⟨tb, j, none⟩ = (vcells v)[j]? := by
    intro j hj
    subst htb
    rw [hX, World.cell?_alloc_at _ _ _ _ rfl]
  have hsX : tb < X.heap.size := by subst htb; rw [hX]; simp
  have HX : Hid (X = _ ∧ tb = w.heap.size ∧ Below w.heap.size w X) := ⟨hX, htb, hBX⟩
  have HV : Hid (Vars X a b ∧ Rb X ao n cap l ∧ Has X v al ∧ v.tag.size ≤ maxLen ∧ v.body.size ≤ maxLen) := ⟨hV.below hBX, hr.kept hBX, hH.kept hBX, ht, hb⟩
  have HM := fun W (hW : Below X.heap.size X W) => may25 a b v al W (HV.out.1.below hW) (HV.out.2.2.1.kept hW) HV.out.2.2.2.1 HV.out.2.2.2.2
  have HWh := fun W (hW : Below X.heap.size X W) (hm : mayI v al = true) => whole26_v v al W hm (HV.out.2.2.1.kept hW)
  have HVB : Hid (vb v al = if mayI v al = true then pv (vp v al) else []) := rfl
  have HPL : Hid (mayI v al = true → (pv (vp v al)).length ≤ 100) := fun h => pv_len h
  have HVc : Hid (∀ j, j < 8 → X.cell? ⟨tb, j, none⟩ = (vcells v)[j]?) := hcX
  clear hX htb hBX hV hr hH ht hb hcX
  generalize vb v al = R at *
  generalize pv (vp v al) = PV at *
  generalize mayI v al = M at *
  obtain ⟨it, L, R', N, dead, vao, vlen, vcap, tag, body⟩ := v
  unfold Vn.val at *
  simp only at HM HWh ⊢
  have HM' : Hid (∀ W, Below X.heap.size X W → _) := HM
  have HWh' : Hid (∀ W, Below X.heap.size X W → M = true → _) := HWh
  clear HM HWh
  unfold vcells at *
  have x0 : X.cell? ⟨tb, 0, none⟩ = some (.int .i64 it) := HVc.out 0 (by omega)
  have x1 : X.cell? ⟨tb, 1, none⟩ = some (.int .i64 L) := HVc.out 1 (by omega)
  have x2 : X.cell? ⟨tb, 2, none⟩ = some (.int .i64 R') := HVc.out 2 (by omega)
  have x3 : X.cell? ⟨tb, 3, none⟩ = some (.int .i64 N) := HVc.out 3 (by omega)
  have x4 : X.cell? ⟨tb, 4, none⟩ = some (.bool dead) := HVc.out 4 (by omega)
  have x5 : X.cell? ⟨tb, 5, none⟩ = some (.slice vao vlen vcap) := HVc.out 5 (by omega)
  have x6 : X.cell? ⟨tb, 6, none⟩ = some (.string tag) := HVc.out 6 (by omega)
  have x7 : X.cell? ⟨tb, 7, none⟩ = some (.string body) := HVc.out 7 (by omega)
  go_enter Tryd.func13, Tryd.ntmps13
  go_wp2_with (at_builtin; rw [← HX.out.1, ← HX.out.2.1]; refine append_rb _ rfl _ _ rfl X.heap.size _ 0 [] rfl (World.ownsRow_nil _ _ _ _) ao n cap l rfl HV.out.2.1 (by omega) (Nat.le_refl _) ?_)
  intro v2 w2 hown hgrow
  have hb2 : Below X.heap.size X w2 := (Below.refl _ X).grown hgrow (Nat.le_refl _) (fun k hk => by simp [Value.ownBlock] at hk)
  have hown2 : w2.ownsRow X.heap.size 5 1 v2 n (cells l) := by simpa using hown
  obtain ⟨to, tc, rfl⟩ := own_slice hown2
  have HO : Hid (w2.ownsRow X.heap.size 5 1 (.slice to n tc) n (cells l) ∧ Below X.heap.size X w2) := ⟨hown2, hb2⟩
  have y0 := (hb2.cell (p := ⟨tb, 0, none⟩) hsX).trans x0
  have y1 := (hb2.cell (p := ⟨tb, 1, none⟩) hsX).trans x1
  have y2 := (hb2.cell (p := ⟨tb, 2, none⟩) hsX).trans x2
  have y3 := (hb2.cell (p := ⟨tb, 3, none⟩) hsX).trans x3
  have y4 := (hb2.cell (p := ⟨tb, 4, none⟩) hsX).trans x4
  have y5 := (hb2.cell (p := ⟨tb, 5, none⟩) hsX).trans x5
  have y6 := (hb2.cell (p := ⟨tb, 6, none⟩) hsX).trans x6
  have y7 := (hb2.cell (p := ⟨tb, 7, none⟩) hsX).trans x7
  have c2 := HM'.out w2 hb2
  clear hown hgrow hb2 hown2
  go_wp2_with fail
  refine c2.mono ?_
  rintro e w3 ⟨rfl, hb3⟩
  have HB3 : Hid (Below X.heap.size X w3 ∧ w3.ownsRow X.heap.size 5 1 (.slice to n tc) n (cells l)) := ⟨HO.out.2.trans (hb3.mono HO.out.2.size), own_below HO.out.1 hb3⟩
  clear c2 hb3 y0 y1 y2 y3 y4 y5 y6 y7
  cases M with
  | false =>
    have HF : Hid (∃ xo xc, Value.slice to n tc = .slice xo n xc ∧ Rb w3 xo n xc (l ++ R)) := by
      obtain ⟨xo, xc, e, hrx⟩ := own_rb HB3.out.2 HV.out.2.1.lt
      refine ⟨xo, xc, e, ?_⟩
      rw [HVB.out, if_neg (by decide), List.append_nil]
      exact hrx
    clear x0 x1 x2 x3 x4 x5 x6 x7
    go_wp2
    go_ret
    obtain ⟨xo, xc, e, hrx⟩ := HF.out
    exact ⟨xo, n, xc, by cases e; rfl, hrx, HX.out.2.2.trans (HB3.out.1.mono HX.out.2.2.size)⟩
  | true =>
    have y0 := (HB3.out.1.cell (p := ⟨tb, 0, none⟩) hsX).trans x0
    have y1 := (HB3.out.1.cell (p := ⟨tb, 1, none⟩) hsX).trans x1
    have y2 := (HB3.out.1.cell (p := ⟨tb, 2, none⟩) hsX).trans x2
    have y3 := (HB3.out.1.cell (p := ⟨tb, 3, none⟩) hsX).trans x3
    have y4 := (HB3.out.1.cell (p := ⟨tb, 4, none⟩) hsX).trans x4
    have y5 := (HB3.out.1.cell (p := ⟨tb, 5, none⟩) hsX).trans x5
    have y6 := (HB3.out.1.cell (p := ⟨tb, 6, none⟩) hsX).trans x6
    have y7 := (HB3.out.1.cell (p := ⟨tb, 7, none⟩) hsX).trans x7
    have c3 := HWh'.out w3 HB3.out.1 rfl
    have hs3 := HB3.out.1.size
    clear x0 x1 x2 x3 x4 x5 x6 x7
    go_wp2_with fail
    refine c3.mono ?_
    rintro e w4 ⟨yo, yn, yc, rfl, hry, hb4⟩
    have hyl : yn ≤ 100 := by have h1 := hry.len; have h2 := HPL.out (by first | rfl | trivial); omega
    have HB4 : Hid (Below X.heap.size X w4 ∧ w4.ownsRow X.heap.size 5 1 (.slice to n tc) n (cells l) ∧ Rb w4 yo yn yc PV) := ⟨HB3.out.1.trans (hb4.mono hs3), own_below HB3.out.2 hb4, hry⟩
    have hs4 := HB4.out.1.size
    clear c3 hb4 hry y0 y1 y2 y3 y4 y5 y6 y7
    go_wp2_with (at_builtin; refine append_rb _ rfl _ _ rfl X.heap.size _ n (cells l) rfl HB4.out.2.1 yo yn yc PV rfl HB4.out.2.2 (by omega) hs4 ?_)
    intro v5 w5 hown hgrow
    have HF : Hid (∃ xo xc, v5 = .slice xo (n + yn) xc ∧ Rb w5 xo (n + yn) xc (l ++ R) ∧ Below w.heap.size w w5) := by
      have hown2 : w5.ownsRow X.heap.size 5 1 v5 (n + yn) (cells (l ++ PV)) := by rw [cells_append]; exact hown
      obtain ⟨xo, xc, e, hrx⟩ := own_rb hown2 (fun y hy => by
        rcases List.mem_append.1 hy with h | h
        · exact HV.out.2.1.lt y h
        · exact HB4.out.2.2.lt y h)
      have hb5 : Below X.heap.size X w5 := HB4.out.1.grown hgrow hs4 (fun k hk => (HB4.out.2.1.lt k hk).1)
      refine ⟨xo, xc, e, ?_, HX.out.2.2.trans (hb5.mono HX.out.2.2.size)⟩
      rw [HVB.out, if_pos (by first | rfl | trivial)]
      exact hrx
    clear hown hgrow
    go_wp2
    go_ret
    obtain ⟨xo, xc, rfl, hrx, hbx⟩ := HF.out
    exact ⟨xo, _, xc, rfl, hrx, hbx⟩

end Go.Proofs.YtopkeembbopbmaaDoor
