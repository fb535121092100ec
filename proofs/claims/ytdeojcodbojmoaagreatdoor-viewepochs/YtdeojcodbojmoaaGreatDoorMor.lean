/- ViewMore: merging changes nothing but what is newer, and never goes back. -/
import Derived.Test.YtdeojcodbojmoaaGreatDoorRvw
import Derived.Test.YtdeojcodbojmoaaGreatDoorMgp
namespace Go.Proofs.YtdeojcodbojmoaaGreatDoor
open Go.RowKit
set_option maxRecDepth 100000
set_option linter.unusedVariables false

theorem reads_below {w w' : World} {ao : Option Addr} {len : Nat} (h : Reads8 w ao len) (hb : Below w.heap.size w w') : Reads8 w' ao len := by
  obtain ⟨hl, b, off, zs, hao, hc⟩ := h
  refine ⟨hl, b, off, zs, fun h0 => ⟨(hao h0).1, Nat.lt_of_lt_of_le (hao h0).2 hb.size⟩, fun j hj => ⟨?_, (hc j hj).2⟩⟩
  exact (hb.cell (hao (by omega)).2).trans (hc j hj).1

set_option maxHeartbeats 2000000 in
theorem more_long (a : Addr) (ao : Option Addr) (len cap : Nat) (z : Int) (w : World) (hg : w.cell? ⟨0, 0, none⟩ = some (.iface 185 (.pointer (some a)))) (h0 : len ≤ maxLen) (h : 100 < len) :
    Calls Tryz.prog 7 #[.slice ao len cap, .int .u8 z] w fun e w' => e = .returned (.bool true) ∧ Below w.heap.size w w' := by
  unfold maxLen at h0
  go_enter Tryz.func7, Tryz.ntmps7
  go_wp2_with fail
  refine (begun8 a _ hg).mono ?_
  rintro e w1 ⟨rfl, hb1⟩
  go_wp2
  go_ret
  exact ⟨rfl, hb1⟩

/-- Five stores into one block. -/
theorem five_set (W : World) (b : Nat) (u0 u1 u2 u3 u4 v0 v1 v2 v3 v4 : Value) (h0 : W.cell? ⟨b, 0, none⟩ = some v0) (h1 : W.cell? ⟨b, 1, none⟩ = some v1) (h2 : W.cell? ⟨b, 2, none⟩ = some v2) (h3 : W.cell? ⟨b, 3, none⟩ = some v3) (h4 : W.cell? ⟨b, 4, none⟩ = some v4) :
    (((((W.setCell ⟨b, 0, none⟩ u0).setCell ⟨b, 1, none⟩ u1).setCell ⟨b, 2, none⟩ u2).setCell ⟨b, 3, none⟩ u3).setCell ⟨b, 4, none⟩ u4).cell? ⟨b, 0, none⟩ = some u0 ∧ (((((W.setCell ⟨b, 0, none⟩ u0).setCell ⟨b, 1, none⟩ u1).setCell ⟨b, 2, none⟩ u2).setCell ⟨b, 3, none⟩ u3).setCell ⟨b, 4, none⟩ u4).cell? ⟨b, 1, none⟩ = some u1 ∧ (((((W.setCell ⟨b, 0, none⟩ u0).setCell ⟨b, 1, none⟩ u1).setCell ⟨b, 2, none⟩ u2).setCell ⟨b, 3, none⟩ u3).setCell ⟨b, 4, none⟩ u4).cell? ⟨b, 2, none⟩ = some u2 ∧ (((((W.setCell ⟨b, 0, none⟩ u0).setCell ⟨b, 1, none⟩ u1).setCell ⟨b, 2, none⟩ u2).setCell ⟨b, 3, none⟩ u3).setCell ⟨b, 4, none⟩ u4).cell? ⟨b, 3, none⟩ = some u3 ∧ (((((W.setCell ⟨b, 0, none⟩ u0).setCell ⟨b, 1, none⟩ u1).setCell ⟨b, 2, none⟩ u2).setCell ⟨b, 3, none⟩ u3).setCell ⟨b, 4, none⟩ u4).cell? ⟨b, 4, none⟩ = some u4 := by
  refine ⟨?_, ?_, ?_, ?_, ?_⟩
  · rw [World.cell?_setCell_other _ _ _ _ (by simp), World.cell?_setCell_other _ _ _ _ (by simp), World.cell?_setCell_other _ _ _ _ (by simp), World.cell?_setCell_other _ _ _ _ (by simp)]; exact World.cell?_setCell_same W ⟨b, 0, none⟩ _ (u := v0) (by exact h0)
  · rw [World.cell?_setCell_other _ _ _ _ (by simp), World.cell?_setCell_other _ _ _ _ (by simp), World.cell?_setCell_other _ _ _ _ (by simp)]; exact World.cell?_setCell_same (W.setCell ⟨b, 0, none⟩ u0) ⟨b, 1, none⟩ _ (u := v1) (by rw [World.cell?_setCell_other _ _ _ _ (by simp)]; exact h1)
  · rw [World.cell?_setCell_other _ _ _ _ (by simp), World.cell?_setCell_other _ _ _ _ (by simp)]; exact World.cell?_setCell_same ((W.setCell ⟨b, 0, none⟩ u0).setCell ⟨b, 1, none⟩ u1) ⟨b, 2, none⟩ _ (u := v2) (by rw [World.cell?_setCell_other _ _ _ _ (by simp), World.cell?_setCell_other _ _ _ _ (by simp)]; exact h2)
  · rw [World.cell?_setCell_other _ _ _ _ (by simp)]; exact World.cell?_setCell_same (((W.setCell ⟨b, 0, none⟩ u0).setCell ⟨b, 1, none⟩ u1).setCell ⟨b, 2, none⟩ u2) ⟨b, 3, none⟩ _ (u := v3) (by rw [World.cell?_setCell_other _ _ _ _ (by simp), World.cell?_setCell_other _ _ _ _ (by simp), World.cell?_setCell_other _ _ _ _ (by simp)]; exact h3)
  · exact World.cell?_setCell_same ((((W.setCell ⟨b, 0, none⟩ u0).setCell ⟨b, 1, none⟩ u1).setCell ⟨b, 2, none⟩ u2).setCell ⟨b, 3, none⟩ u3) ⟨b, 4, none⟩ _ (u := v4) (by rw [World.cell?_setCell_other _ _ _ _ (by simp), World.cell?_setCell_other _ _ _ _ (by simp), World.cell?_setCell_other _ _ _ _ (by simp), World.cell?_setCell_other _ _ _ _ (by simp)]; exact h4)

set_option maxHeartbeats 8000000 in
theorem more_short (a : Addr) (ao : Option Addr) (len cap : Nat) (z : Int) (w : World) (hg : w.cell? ⟨0, 0, none⟩ = some (.iface 185 (.pointer (some a)))) (h0 : len ≤ 100) (hz0 : 0 ≤ z) (hz1 : z ≤ 255) (r0 : Reads8 w ao len) :
    Calls Tryz.prog 7 #[.slice ao len cap, .int .u8 z] w fun e w' => e = .returned (.bool true) ∧ Below w.heap.size w w' := by
  obtain ⟨n, hn1, hn5, hn⟩ : ∃ n : Nat, 1 ≤ n ∧ n ≤ 5 ∧ 1 + z % 5 = (n : Int) := ⟨(1 + z % 5).toNat, by omega, by omega, by omega⟩
  go_enter Tryz.func7, Tryz.ntmps7
  go_wp2_with fail
  refine (begun8 a _ hg).mono ?_
  rintro e w1 ⟨rfl, hb0⟩
  replace r0 := reads_below r0 hb0
  go_wp2_with fail
  refine (made10 _ _ _ _).mono ?_
  rintro e W1 ⟨rfl, hW1⟩
  have hp1 : Pick W1 w1.heap.size := by rw [hW1]; exact pick_made r0 (by omega)
  have hbW1 : Below w1.heap.size w1 W1 := by rw [hW1]; exact (Below.refl _ _).alloc (Nat.le_refl _) _
  have hsW1 : w1.heap.size < W1.heap.size := by rw [hW1]; simp
  clear hW1
  go_wp2_with fail
  refine (rviews w1.heap.size n W1 hp1 hn1 hn5).mono ?_
  rintro e W2 ⟨oa, ca, la, rfl, hla, hga, hra, hw2⟩
  go_wp2_with fail
  refine (rviews w1.heap.size n W2 hw2.1 hn1 hn5).mono ?_
  rintro e W3 ⟨ob, cb, lb, rfl, hlb, hgb, hrb, hw3⟩
  have rA : RVw W3 oa n ca la := hra W3 hw3.2
  have rB : RVw W3 ob n cb lb := hrb W3 (Kept.refl _ _)
  have hBW : Below w.heap.size w W3 := hb0.trans ((hbW1.trans ((hw2.trans hw3).2.below (by omega) (fun k hk => by unfold But; omega))).mono hb0.size)
  have hR : la.map (·.R) = lb.map (·.R) := (gd_R hla hga).trans (gd_R hlb hgb).symm
  have HB : Hid (Below w.heap.size w W3) := hBW
  have hm : mg la lb = List.zipWith pick la lb := mg_zip la lb hR
  have hml : (mg la lb).length = n := by rw [hm, zip_len la lb (hla.trans hlb.symm), hla]
  have hmb : mg (mg la lb) la = mg la lb := by rw [hm, mg_back la lb hR]
  have hgm : ∀ i (h : i < la.length) (h' : i < lb.length) (h'' : i < (mg la lb).length), (mg la lb)[i] = pick la[i] lb[i] := fun i h h' h'' => by simp [hm]
  clear hm hR hga hgb hra hrb hw2 hw3 hbW1 hp1 r0 hb0 hBW
  -- m := Merge(a, b)
  have c1 := rmerge W3 oa ob n ca n cb la lb rA rB (by omega) (by omega)
  rw [hml] at c1
  go_wp2_with fail
  refine c1.mono ?_
  rintro e w4 ⟨om, cm, rfl, rM, hb4⟩
  clear c1
  have rA4 := rA.below hb4
  have rB4 := rB.below hb4
  have HB4 : Hid (Below w.heap.size w w4) := HB.out.trans (hb4.mono HB.out.size)
  clear rA rB hb4 HB
  generalize mg la lb = lm at *
  -- Merge(a, a)
  have c2 := rmerge w4 oa oa n ca n ca la la rA4 rA4 (by rw [mg_self]; omega) (by rw [mg_self]; omega)
  rw [mg_self, hla] at c2
  go_wp2_with fail
  refine c2.mono ?_
  rintro e w5 ⟨o5, c5, rfl, r5, hb5⟩
  clear c2
  have rA5 := rA4.below hb5
  have rB5 := rB4.below hb5
  have rM5 := rM.below hb5
  have HB5 : Hid (Below w.heap.size w w5) := HB4.out.trans (hb5.mono HB4.out.size)
  clear rA4 rB4 rM hb5 HB4
  go_wp2_with fail
  refine (rsame w5 o5 oa n c5 n ca la r5 rA5).mono ?_
  rintro e w6 ⟨rfl, hb6⟩
  have rA6 := rA5.below hb6
  have rB6 := rB5.below hb6
  have rM6 := rM5.below hb6
  have HB6 : Hid (Below w.heap.size w w6) := HB5.out.trans (hb6.mono HB5.out.size)
  clear rA5 rB5 rM5 hb6 HB5 r5
  -- Merge(m, a)
  have c3 := rmerge w6 om oa n cm n ca lm la rM6 rA6 (by rw [hmb]; omega) (by rw [hmb]; omega)
  rw [hmb, hml] at c3
  go_wp2_with fail
  refine c3.mono ?_
  rintro e w7 ⟨o7, c7, rfl, r7, hb7⟩
  clear c3
  have rA7 := rA6.below hb7
  have rB7 := rB6.below hb7
  have rM7 := rM6.below hb7
  have HB7 : Hid (Below w.heap.size w w7) := HB6.out.trans (hb7.mono HB6.out.size)
  clear rA6 rB6 rM6 hb7 HB6
  go_wp2_with fail
  refine (rsame w7 o7 om n c7 n cm lm r7 rM7).mono ?_
  rintro e w8 ⟨rfl, hb8⟩
  have rA8 := rA7.below hb8
  have rB8 := rB7.below hb8
  have rM8 := rM7.below hb8
  have HB8 : Hid (Below w.heap.size w w8) := HB7.out.trans (hb8.mono HB7.out.size)
  clear rA7 rB7 rM7 hb8 HB7 r7
  -- Merge(a, nil)
  have c4 := rmerge w8 oa none n ca 0 0 la [] rA8 (RVw.nil w8) (by rw [mg_nil']; omega) (by rw [mg_nil']; omega)
  rw [mg_nil', hla] at c4
  go_wp2_with fail
  refine c4.mono ?_
  rintro e w9 ⟨o9, c9, rfl, r9, hb9⟩
  clear c4
  have rA9 := rA8.below hb9
  have rB9 := rB8.below hb9
  have rM9 := rM8.below hb9
  have HB9 : Hid (Below w.heap.size w w9) := HB8.out.trans (hb9.mono HB8.out.size)
  clear rA8 rB8 rM8 hb9 HB8
  go_wp2_with fail
  refine (rsame w9 o9 oa n c9 n ca la r9 rA9).mono ?_
  rintro e w10 ⟨rfl, hb10⟩
  have rA := rA9.below hb10
  have rB := rB9.below hb10
  have rM := rM9.below hb10
  have HB : Hid (Below w.heap.size w w10) := HB9.out.trans (hb10.mono HB9.out.size)
  clear rA9 rB9 rM9 hb10 HB9 r9
  go_wp2_with fail
  go_loopw [10] (fun i wr => ∃ k : Nat, k ≤ n ∧ i = .int .i64 k ∧ Below w10.heap.size w10 wr) (fun i _ => n - (intOf i).toNat)
  case atStart => exact ⟨0, Nat.zero_le _, rfl, Below.refl _ _⟩
  case round =>
    obtain ⟨k, hk, rfl, hbel⟩ := hrel
    by_cases hlt : k < n
    · obtain ⟨ba, fa, xa, rfl, hba, lxa, a0, a1, a2, a3, a4⟩ := (rA.below hbel).at k (by omega)
      obtain ⟨bb, fb, xb, rfl, hbb, lxb, b0, b1, b2, b3, b4⟩ := (rB.below hbel).at k (by omega)
      obtain ⟨bm, fm, xm, rfl, hbm, lxm, m0, m1, m2, m3, m4⟩ := (rM.below hbel).at k (by omega)
      have hpk := hgm k (by omega) (by omega) (by omega)
      have HBL : Hid (Below w10.heap.size w10 wr) := hbel
      clear hbel
      by_cases hv : xa.Rev < xb.Rev
      · have hd : decide (xa.Rev < xb.Rev) = true := decide_eq_true hv
        have he : lm[k] = lb[k] := by
          rw [hpk]; unfold pick
          have e1 := lxa.Rev
          have e2 := lxb.Rev
          rw [if_neg (by omega)]
        have HL : Hid (Lv (fun k => k < wr.heap.size) wr xm lb[k] ∧ Lv (fun k => k < wr.heap.size) wr xb lb[k]) := ⟨by rw [← he]; exact lxm, lxb⟩
        clear he hpk lxa lxb lxm hv
        go_wp2_with fail
        go_quiet (fail)
        go_wp2_with fail
        obtain ⟨X, hX⟩ : ∃ X, X = ((((((wr.alloc (.cells #[.int .i64 xa.R, .int .i64 xa.Rev, .string xa.f, .slice xa.sa xa.sn xa.sc, .slice xa.ea xa.en xa.ec] 25)).drewN nq).setCell ⟨wr.heap.size, 0, none⟩ (.int .i64 xb.R)).setCell ⟨wr.heap.size, 1, none⟩ (.int .i64 xb.Rev)).setCell ⟨wr.heap.size, 2, none⟩ (.string xb.f)).setCell ⟨wr.heap.size, 3, none⟩ (.slice xb.sa xb.sn xb.sc)).setCell ⟨wr.heap.size, 4, none⟩ (.slice xb.ea xb.en xb.ec) := ⟨_, rfl⟩
        rw [← hX]
        have hXb : Below wr.heap.size wr X := by rw [hX]; exact ((((((bel_dN ((Below.refl _ wr).alloc (Nat.le_refl _) _) _).setCell (p := ⟨wr.heap.size, 0, none⟩) (Nat.le_refl _) _).setCell (p := ⟨wr.heap.size, 1, none⟩) (Nat.le_refl _) _).setCell (p := ⟨wr.heap.size, 2, none⟩) (Nat.le_refl _) _).setCell (p := ⟨wr.heap.size, 3, none⟩) (Nat.le_refl _) _).setCell (p := ⟨wr.heap.size, 4, none⟩) (Nat.le_refl _) _)
        have hXs : wr.heap.size < X.heap.size := by rw [hX]; simp
        have x0 : X.cell? ⟨wr.heap.size, 0, none⟩ = some (.int .i64 xb.R) := by rw [hX]; exact (five_set _ wr.heap.size _ _ _ _ _ (.int .i64 xa.R) (.int .i64 xa.Rev) (.string xa.f) (.slice xa.sa xa.sn xa.sc) (.slice xa.ea xa.en xa.ec) (by simp) (by simp) (by simp) (by simp) (by simp)).1
        have x1 : X.cell? ⟨wr.heap.size, 1, none⟩ = some (.int .i64 xb.Rev) := by rw [hX]; exact (five_set _ wr.heap.size _ _ _ _ _ (.int .i64 xa.R) (.int .i64 xa.Rev) (.string xa.f) (.slice xa.sa xa.sn xa.sc) (.slice xa.ea xa.en xa.ec) (by simp) (by simp) (by simp) (by simp) (by simp)).2.1
        have x2 : X.cell? ⟨wr.heap.size, 2, none⟩ = some (.string xb.f) := by rw [hX]; exact (five_set _ wr.heap.size _ _ _ _ _ (.int .i64 xa.R) (.int .i64 xa.Rev) (.string xa.f) (.slice xa.sa xa.sn xa.sc) (.slice xa.ea xa.en xa.ec) (by simp) (by simp) (by simp) (by simp) (by simp)).2.2.1
        have x3 : X.cell? ⟨wr.heap.size, 3, none⟩ = some (.slice xb.sa xb.sn xb.sc) := by rw [hX]; exact (five_set _ wr.heap.size _ _ _ _ _ (.int .i64 xa.R) (.int .i64 xa.Rev) (.string xa.f) (.slice xa.sa xa.sn xa.sc) (.slice xa.ea xa.en xa.ec) (by simp) (by simp) (by simp) (by simp) (by simp)).2.2.2.1
        have x4 : X.cell? ⟨wr.heap.size, 4, none⟩ = some (.slice xb.ea xb.en xb.ec) := by rw [hX]; exact (five_set _ wr.heap.size _ _ _ _ _ (.int .i64 xa.R) (.int .i64 xa.Rev) (.string xa.f) (.slice xa.sa xa.sn xa.sc) (.slice xa.ea xa.en xa.ec) (by simp) (by simp) (by simp) (by simp) (by simp)).2.2.2.2
        have n0 : X.cell? ⟨bm, fm + k * 5, none⟩ = some (.int .i64 xm.R) := (hXb.cell (p := ⟨bm, fm + k * 5, none⟩) hbm).trans m0
        have n1 : X.cell? ⟨bm, fm + k * 5 + 1, none⟩ = some (.int .i64 xm.Rev) := (hXb.cell (p := ⟨bm, fm + k * 5 + 1, none⟩) hbm).trans m1
        have n2 : X.cell? ⟨bm, fm + k * 5 + 2, none⟩ = some (.string xm.f) := (hXb.cell (p := ⟨bm, fm + k * 5 + 2, none⟩) hbm).trans m2
        have n3 : X.cell? ⟨bm, fm + k * 5 + 3, none⟩ = some (.slice xm.sa xm.sn xm.sc) := (hXb.cell (p := ⟨bm, fm + k * 5 + 3, none⟩) hbm).trans m3
        have n4 : X.cell? ⟨bm, fm + k * 5 + 4, none⟩ = some (.slice xm.ea xm.en xm.ec) := (hXb.cell (p := ⟨bm, fm + k * 5 + 4, none⟩) hbm).trans m4
        have hbX : bm < X.heap.size := by omega
        have hdr : Below X.heap.size X X.drew := (Below.refl _ X).drew
        have c := same15 _ _ xm xb _ _ X.drew ((HL.out.1.below hXb).below hdr) ((HL.out.2.below hXb).below hdr)
        rw [sv_self] at c
        have HX : Hid (Below wr.heap.size wr X) := hXb
        clear hX hXb hdr a0 a1 a2 a3 a4 b0 b1 b2 b3 b4 m0 m1 m2 m3 m4
        go_region_held3 (fun w' => w'.cell? ⟨bm, fm + k * 5, none⟩ = some (.int .i64 xm.R) ∧ w'.cell? ⟨bm, fm + k * 5 + 1, none⟩ = some (.int .i64 xm.Rev) ∧ w'.cell? ⟨bm, fm + k * 5 + 2, none⟩ = some (.string xm.f) ∧ w'.cell? ⟨bm, fm + k * 5 + 3, none⟩ = some (.slice xm.sa xm.sn xm.sc) ∧ w'.cell? ⟨bm, fm + k * 5 + 4, none⟩ = some (.slice xm.ea xm.en xm.ec) ∧ w'.cell? ⟨wr.heap.size, 0, none⟩ = some (.int .i64 xb.R) ∧ w'.cell? ⟨wr.heap.size, 1, none⟩ = some (.int .i64 xb.Rev) ∧ w'.cell? ⟨wr.heap.size, 2, none⟩ = some (.string xb.f) ∧ w'.cell? ⟨wr.heap.size, 3, none⟩ = some (.slice xb.sa xb.sn xb.sc) ∧ w'.cell? ⟨wr.heap.size, 4, none⟩ = some (.slice xb.ea xb.en xb.ec))
          (go_keep)
          (first
            | (go_at_call 15; refine c.mono ?_; rintro e w5 ⟨rfl, hb5⟩; obtain ⟨hcl, hfl, z1⟩ := callee_old hb5))
        have hB5 : Below w10.heap.size w10 w5 := HBL.out.trans ((HX.out.trans ((Below.trans (b := X.drew) (Below.refl _ X).drew hb5).mono HX.out.size)).mono HBL.out.size)
        clear hcl hfl c hb5
        go_wp2
        go_roundw
        case rel => exact ⟨k + 1, by omega, by go_num, hB5⟩
        case measure => simp [intOf]; omega
      · have hd : decide (xa.Rev < xb.Rev) = false := decide_eq_false hv
        have he : lm[k] = la[k] := by
          rw [hpk]; unfold pick
          have e1 := lxa.Rev
          have e2 := lxb.Rev
          rw [if_pos (by omega)]
        have HL : Hid (Lv (fun k => k < wr.heap.size) wr xm la[k] ∧ Lv (fun k => k < wr.heap.size) wr xa la[k]) := ⟨by rw [← he]; exact lxm, lxa⟩
        clear he hpk lxa lxb lxm hv
        go_wp2_with fail
        go_quiet (fail)
        go_wp2_with fail
        obtain ⟨X, hX⟩ : ∃ X, X = (wr.alloc (.cells #[.int .i64 xa.R, .int .i64 xa.Rev, .string xa.f, .slice xa.sa xa.sn xa.sc, .slice xa.ea xa.en xa.ec] 25)).drewN nq := ⟨_, rfl⟩
        rw [← hX]
        have hXb : Below wr.heap.size wr X := by rw [hX]; exact bel_dN ((Below.refl _ wr).alloc (Nat.le_refl _) _) _
        have hXs : wr.heap.size < X.heap.size := by rw [hX]; simp
        have x0 : X.cell? ⟨wr.heap.size, 0, none⟩ = some (.int .i64 xa.R) := by rw [hX]; simp
        have x1 : X.cell? ⟨wr.heap.size, 1, none⟩ = some (.int .i64 xa.Rev) := by rw [hX]; simp
        have x2 : X.cell? ⟨wr.heap.size, 2, none⟩ = some (.string xa.f) := by rw [hX]; simp
        have x3 : X.cell? ⟨wr.heap.size, 3, none⟩ = some (.slice xa.sa xa.sn xa.sc) := by rw [hX]; simp
        have x4 : X.cell? ⟨wr.heap.size, 4, none⟩ = some (.slice xa.ea xa.en xa.ec) := by rw [hX]; simp
        have n0 : X.cell? ⟨bm, fm + k * 5, none⟩ = some (.int .i64 xm.R) := (hXb.cell (p := ⟨bm, fm + k * 5, none⟩) hbm).trans m0
        have n1 : X.cell? ⟨bm, fm + k * 5 + 1, none⟩ = some (.int .i64 xm.Rev) := (hXb.cell (p := ⟨bm, fm + k * 5 + 1, none⟩) hbm).trans m1
        have n2 : X.cell? ⟨bm, fm + k * 5 + 2, none⟩ = some (.string xm.f) := (hXb.cell (p := ⟨bm, fm + k * 5 + 2, none⟩) hbm).trans m2
        have n3 : X.cell? ⟨bm, fm + k * 5 + 3, none⟩ = some (.slice xm.sa xm.sn xm.sc) := (hXb.cell (p := ⟨bm, fm + k * 5 + 3, none⟩) hbm).trans m3
        have n4 : X.cell? ⟨bm, fm + k * 5 + 4, none⟩ = some (.slice xm.ea xm.en xm.ec) := (hXb.cell (p := ⟨bm, fm + k * 5 + 4, none⟩) hbm).trans m4
        have hbX : bm < X.heap.size := by omega
        have hdr : Below X.heap.size X X.drew := (Below.refl _ X).drew
        have c := same15 _ _ xm xa _ _ X.drew ((HL.out.1.below hXb).below hdr) ((HL.out.2.below hXb).below hdr)
        rw [sv_self] at c
        have HX : Hid (Below wr.heap.size wr X) := hXb
        clear hX hXb hdr a0 a1 a2 a3 a4 b0 b1 b2 b3 b4 m0 m1 m2 m3 m4
        go_region_held3 (fun w' => w'.cell? ⟨bm, fm + k * 5, none⟩ = some (.int .i64 xm.R) ∧ w'.cell? ⟨bm, fm + k * 5 + 1, none⟩ = some (.int .i64 xm.Rev) ∧ w'.cell? ⟨bm, fm + k * 5 + 2, none⟩ = some (.string xm.f) ∧ w'.cell? ⟨bm, fm + k * 5 + 3, none⟩ = some (.slice xm.sa xm.sn xm.sc) ∧ w'.cell? ⟨bm, fm + k * 5 + 4, none⟩ = some (.slice xm.ea xm.en xm.ec) ∧ w'.cell? ⟨wr.heap.size, 0, none⟩ = some (.int .i64 xa.R) ∧ w'.cell? ⟨wr.heap.size, 1, none⟩ = some (.int .i64 xa.Rev) ∧ w'.cell? ⟨wr.heap.size, 2, none⟩ = some (.string xa.f) ∧ w'.cell? ⟨wr.heap.size, 3, none⟩ = some (.slice xa.sa xa.sn xa.sc) ∧ w'.cell? ⟨wr.heap.size, 4, none⟩ = some (.slice xa.ea xa.en xa.ec))
          (go_keep)
          (first
            | (go_at_call 15; refine c.mono ?_; rintro e w5 ⟨rfl, hb5⟩; obtain ⟨hcl, hfl, z1⟩ := callee_old hb5))
        have hB5 : Below w10.heap.size w10 w5 := HBL.out.trans ((HX.out.trans ((Below.trans (b := X.drew) (Below.refl _ X).drew hb5).mono HX.out.size)).mono HBL.out.size)
        clear hcl hfl c hb5
        go_wp2
        go_roundw
        case rel => exact ⟨k + 1, by omega, by go_num, hB5⟩
        case measure => simp [intOf]; omega
    · go_wp2
      go_ret
      exact ⟨rfl, HB.out.trans (hbel.mono HB.out.size)⟩

/-- The law. -/
theorem more7 (a : Addr) (ao : Option Addr) (len cap : Nat) (z : Int) (w : World) (hg : w.cell? ⟨0, 0, none⟩ = some (.iface 185 (.pointer (some a)))) (r0 : Reads8 w ao len) (hz : 0 ≤ z ∧ z ≤ 255) :
    Calls Tryz.prog 7 #[.slice ao len cap, .int .u8 z] w fun e w' => e = .returned (.bool true) ∧ Below w.heap.size w w' := by
  by_cases h : 100 < len
  · exact more_long a ao len cap z w hg r0.1 h
  · exact more_short a ao len cap z w hg (by omega) hz.1 hz.2 r0

end Go.Proofs.YtdeojcodbojmoaaGreatDoor
