/- VputApart: versions that are unlike have unlike bytes, none's beginning with another one's. -/
import Derived.Test.YtopkeembbopbmaaDoorBack
import Derived.Deep.DeepCutAuto
namespace Go.Proofs.YtopkeembbopbmaaDoor
open Go.RowKit
set_option maxRecDepth 100000
set_option linter.unusedVariables false

theorem bel_tr {X W z : World} (k : Below W.heap.size W z) (h : Below X.heap.size X W) : Below X.heap.size X z := h.trans (k.mono h.size)

/-- Alike just where the parts are the same. -/
theorem sm_vp {u v : Vn} {al bl' : List (Int × Int)} (hu : mayI u al = true) (hv : mayI v bl' = true) : sm u al v bl' = true ↔ vp u al = vp v bl' := by
  constructor
  · intro h
    obtain ⟨h1, ⟨h2, h3, h4⟩, h5, h6, h7, h8⟩ := of_decide_eq_true h
    unfold vp
    rw [h1, h2, h3, h4, h5, h6, h7, h8]
  · intro h
    obtain ⟨h1, h2, h3, h4, h5, h6, h7, h8⟩ := vp_inj hu hv h
    exact decide_eq_true ⟨h1, ⟨h2, h3, h4⟩, h5, h7, h8, h6⟩

/-- None's bytes begin with another one's. -/
theorem front_not {u v : Vn} {al bl' : List (Int × Int)} (hu : mayI u al = true) (hv : mayI v bl' = true) (hs : sm u al v bl' = false) : (pv (vp v bl')).take (pv (vp u al)).length ≠ pv (vp u al) := by
  intro h
  have e : pv (vp v bl') = pv (vp u al) ++ (pv (vp v bl')).drop (pv (vp u al)).length := by
    conv => lhs; rw [← List.take_append_drop (pv (vp u al)).length (pv (vp v bl'))]
    rw [h]
  obtain ⟨h1, _⟩ := pv_apart (vp u al) (vp v bl') (vp_fit hu) (vp_fit hv) _ e
  have := (sm_vp hu hv).2 h1
  rw [hs] at this
  cases this

set_option maxHeartbeats 8000000 in
theorem apart5_short (a b : Addr) (po : Option Addr) (pn pc : Nat) (pl : List Nat) (qo : Option Addr) (qn qc : Nat) (ql : List Nat) (w : World) (hV : Vars w a b) (hp : Rb w po pn pc pl) (hpn : pn ≤ 20) (hq : Rb w qo qn qc ql) (hqn : qn ≤ 20) :
    Calls Tryd.prog 5 #[.slice po pn pc, .slice qo qn qc] w fun r w' => r = .returned (.bool true) ∧ Below w.heap.size w w' := by
  have c1 := begun7 a b w hV
  have HV : Hid (Vars w a b) := hV
  have HQ : Hid (Rb w qo qn qc ql) := hq
  have HP : Hid (Rb w po pn pc pl) := hp
  have hp1 : ¬ (20 : Int) < pn := by omega
  have hp2 : decide ((20 : Int) < (pn : Int)) = false := decide_eq_false hp1
  have hp3 : decide (20 < pn) = false := decide_eq_false (by omega)
  have hn1 : ¬ (20 : Int) < qn := by omega
  have hn2 : decide ((20 : Int) < (qn : Int)) = false := decide_eq_false hn1
  have hn3 : decide (20 < qn) = false := decide_eq_false (by omega)
  clear hV hp hq
  go_enter Tryd.func5, Tryd.ntmps5
  go_wp2_with fail
  refine c1.mono ?_
  rintro r w1 ⟨rfl, hb1⟩
  have HB1 : Hid (Below w.heap.size w w1) := hb1
  have c2 := made10 po pn pc w1
  have hpk := pick_made (cap := pc) (reads_rb (HP.out.kept hb1)) (by omega)
  have HPK : Hid (Pick (w1.alloc (.cells #[.slice po pn pc, .int .i64 0] 44)) w1.heap.size) := hpk
  clear c1 hb1 hpk
  go_wp2_with fail
  refine c2.mono ?_
  rintro r w2 ⟨rfl, rfl⟩
  have c3 := version10 w1.heap.size _ HPK.out
  clear c2
  go_wp2_with fail
  refine c3.mono ?_
  rintro r w3 ⟨v, al, rfl, ⟨hv, _⟩, hm, hw⟩
  have hb3 : Below w1.heap.size w1 w3 := went_below hw
  have HB3 : Hid (Below w.heap.size w w3) := HB1.out.trans (hb3.mono HB1.out.size)
  have HMv : Hid (mayI v al = true ∧ Has w3 v al) := ⟨hm, hv⟩
  have c4 := made10 qo qn qc w3
  have hpk := pick_made (cap := qc) (reads_rb (HQ.out.kept HB3.out)) (by omega)
  have HPK2 : Hid (Pick (w3.alloc (.cells #[.slice qo qn qc, .int .i64 0] 44)) w3.heap.size) := hpk
  clear c3 hv hm hw hb3 hpk
  go_wp2_with fail
  refine c4.mono ?_
  rintro r w4 ⟨rfl, rfl⟩
  have c5 := version10 w3.heap.size _ HPK2.out
  clear c4
  go_wp2_with fail
  refine c5.mono ?_
  rintro r w5 ⟨u, ul, rfl, ⟨hu, _⟩, hm, hw⟩
  have hb5 : Below w3.heap.size w3 w5 := went_below hw
  have HB5 : Hid (Below w.heap.size w w5) := HB3.out.trans (hb5.mono HB3.out.size)
  have HMu : Hid (mayI u ul = true ∧ Has w5 u ul ∧ Has w5 v al) := ⟨hm, hu, HMv.out.2.kept hb5⟩
  obtain ⟨Y, hY⟩ : ∃ Y, Y = (w5.alloc (.cells (vcells v) 26)).alloc (.cells (vcells u) 26) := ⟨_, rfl⟩
  have hbY : Below w5.heap.size w5 Y := by rw [hY]; exact below2 w5 _ _
  have hbwY : Below w.heap.size w Y := HB5.out.trans (hbY.mono HB5.out.size)
  have hc1 : ∀ j, j < 8 → Y.cell? ⟨w5.heap.size, j, none⟩ = (vcells v)[j]? := by
    intro j hj
    rw [hY, World.cell?_alloc_past _ _ _ (hn := by simp), World.cell?_alloc_at _ _ _ _ rfl]
  have hc2 : ∀ j, j < 8 → Y.cell? ⟨w5.heap.size + 1, j, none⟩ = (vcells u)[j]? := by
    intro j hj
    rw [hY, World.cell?_alloc_at _ _ _ _ (by simp)]
  have hsY : w5.heap.size + 1 < Y.heap.size := by rw [hY]; simp
  have hsY0 : w5.heap.size < Y.heap.size := by omega
  have b1 := (may_parts HMv.out.1).2.2.2.2.2.2.2.2.2.2
  have b2 := (may_parts hm).2.2.2.2.2.2.2.2.2.2
  have P1 := fun W (hW : Below Y.heap.size Y W) => put13 a b none 0 0 [] v al W (HV.out.below (bel_tr hW hbwY)) (Rb.none _) (by omega) ((HMu.out.2.2.kept hbY).kept hW) (Nat.le_trans b1.1 (by decide)) (Nat.le_trans b1.2 (by decide))
  have P2 := fun W (hW : Below Y.heap.size Y W) => put13 a b none 0 0 [] u ul W (HV.out.below (bel_tr hW hbwY)) (Rb.none _) (by omega) ((hu.kept hbY).kept hW) (Nat.le_trans b2.1 (by decide)) (Nat.le_trans b2.2 (by decide))
  have e1 : ([] : List Nat) ++ vb v al = pv (vp v al) := by unfold vb; rw [if_pos HMv.out.1]; rfl
  have e2 : ([] : List Nat) ++ vb u ul = pv (vp u ul) := by unfold vb; rw [if_pos hm]; rfl
  simp only [e1, e2] at P1 P2
  have HPN : Hid ((0 < (pv (vp v al)).length ∧ (pv (vp v al)).length ≤ 100) ∧ (0 < (pv (vp u ul)).length ∧ (pv (vp u ul)).length ≤ 100)) := ⟨⟨pv_ne _, pv_len HMv.out.1⟩, pv_ne _, pv_len hm⟩
  have HFR : Hid (sm v al u ul = false → (pv (vp u ul)).take (pv (vp v al)).length ≠ pv (vp v al)) := fun h => front_not HMv.out.1 hm h
  have HEQ : Hid (sm v al u ul = true → pv (vp v al) = pv (vp u ul)) := fun h => by rw [(sm_vp HMv.out.1 hm).1 h]
  have HS : Hid (∀ W, Below Y.heap.size Y W → Calls Tryd.prog 15 #[v.val, u.val] W fun r w' => r = .returned (.bool (sm v al u ul)) ∧ Below W.heap.size W w') := fun W hW => same15 v u al ul W ((HMu.out.2.2.kept hbY).kept hW) ((hu.kept hbY).kept hW)
  have HY : Hid (Y = (w5.alloc (.cells (vcells v) 26)).alloc (.cells (vcells u) 26) ∧ Below w.heap.size w Y ∧ (∀ j, j < 8 → Y.cell? ⟨w5.heap.size, j, none⟩ = (vcells v)[j]?) ∧ (∀ j, j < 8 → Y.cell? ⟨w5.heap.size + 1, j, none⟩ = (vcells u)[j]?)) := ⟨hY, hbwY, hc1, hc2⟩
  clear c5 hu hm hw hb5 hY hbY hbwY hc1 hc2 b1 b2 e1 e2 HMu HMv
  obtain ⟨PV, hPV⟩ : ∃ V, V = pv (vp v al) := ⟨_, rfl⟩
  obtain ⟨QV, hQV⟩ : ∃ V, V = pv (vp u ul) := ⟨_, rfl⟩
  rw [← hPV] at P1 HPN HFR HEQ
  rw [← hQV] at P2 HPN HFR HEQ
  clear hPV hQV
  generalize sm v al u ul = S at *
  obtain ⟨it1, L1, R1, N1, dead1, ao1, len1, cap1, tag1, body1⟩ := v
  obtain ⟨it2, L2, R2, N2, dead2, ao2, len2, cap2, tag2, body2⟩ := u
  unfold vcells at HY
  unfold Vn.val at P1 P2 HS ⊢
  simp only at P1 P2 HS ⊢
  have HP1 : Hid (∀ W, Below Y.heap.size Y W → _) := P1
  have HP2 : Hid (∀ W, Below Y.heap.size Y W → _) := P2
  clear P1 P2
  have y0 : Y.cell? ⟨w5.heap.size, 0, none⟩ = some (.int .i64 it1) := HY.out.2.2.1 0 (by omega)
  have y1 : Y.cell? ⟨w5.heap.size, 1, none⟩ = some (.int .i64 L1) := HY.out.2.2.1 1 (by omega)
  have y2 : Y.cell? ⟨w5.heap.size, 2, none⟩ = some (.int .i64 R1) := HY.out.2.2.1 2 (by omega)
  have y3 : Y.cell? ⟨w5.heap.size, 3, none⟩ = some (.int .i64 N1) := HY.out.2.2.1 3 (by omega)
  have y4 : Y.cell? ⟨w5.heap.size, 4, none⟩ = some (.bool dead1) := HY.out.2.2.1 4 (by omega)
  have y5 : Y.cell? ⟨w5.heap.size, 5, none⟩ = some (.slice ao1 len1 cap1) := HY.out.2.2.1 5 (by omega)
  have y6 : Y.cell? ⟨w5.heap.size, 6, none⟩ = some (.string tag1) := HY.out.2.2.1 6 (by omega)
  have y7 : Y.cell? ⟨w5.heap.size, 7, none⟩ = some (.string body1) := HY.out.2.2.1 7 (by omega)
  have z0 : Y.cell? ⟨w5.heap.size + 1, 0, none⟩ = some (.int .i64 it2) := HY.out.2.2.2 0 (by omega)
  have z1 : Y.cell? ⟨w5.heap.size + 1, 1, none⟩ = some (.int .i64 L2) := HY.out.2.2.2 1 (by omega)
  have z2 : Y.cell? ⟨w5.heap.size + 1, 2, none⟩ = some (.int .i64 R2) := HY.out.2.2.2 2 (by omega)
  have z3 : Y.cell? ⟨w5.heap.size + 1, 3, none⟩ = some (.int .i64 N2) := HY.out.2.2.2 3 (by omega)
  have z4 : Y.cell? ⟨w5.heap.size + 1, 4, none⟩ = some (.bool dead2) := HY.out.2.2.2 4 (by omega)
  have z5 : Y.cell? ⟨w5.heap.size + 1, 5, none⟩ = some (.slice ao2 len2 cap2) := HY.out.2.2.2 5 (by omega)
  have z6 : Y.cell? ⟨w5.heap.size + 1, 6, none⟩ = some (.string tag2) := HY.out.2.2.2 6 (by omega)
  have z7 : Y.cell? ⟨w5.heap.size + 1, 7, none⟩ = some (.string body2) := HY.out.2.2.2 7 (by omega)
  go_wp2_with fail
  rw [← HY.out.1]
  have hdr : Below Y.heap.size Y Y.drew := (Below.refl _ Y).drew
  go_cut [7, 8] (fun s7 s8 wx => ∃ xo xn xc yo yn yc, s7 = .slice xo xn xc ∧ s8 = .slice yo yn yc ∧ Rb wx xo xn xc PV ∧ Rb wx yo yn yc QV ∧ Below Y.heap.size Y wx)
  case first =>
    go_region_held3 (fun w' => w'.cell? ⟨w5.heap.size, 0, none⟩ = some (.int .i64 it1) ∧ w'.cell? ⟨w5.heap.size, 1, none⟩ = some (.int .i64 L1) ∧ w'.cell? ⟨w5.heap.size, 2, none⟩ = some (.int .i64 R1) ∧ w'.cell? ⟨w5.heap.size, 3, none⟩ = some (.int .i64 N1) ∧ w'.cell? ⟨w5.heap.size, 4, none⟩ = some (.bool dead1) ∧ w'.cell? ⟨w5.heap.size, 5, none⟩ = some (.slice ao1 len1 cap1) ∧ w'.cell? ⟨w5.heap.size, 6, none⟩ = some (.string tag1) ∧ w'.cell? ⟨w5.heap.size, 7, none⟩ = some (.string body1) ∧ w'.cell? ⟨w5.heap.size + 1, 0, none⟩ = some (.int .i64 it2) ∧ w'.cell? ⟨w5.heap.size + 1, 1, none⟩ = some (.int .i64 L2) ∧ w'.cell? ⟨w5.heap.size + 1, 2, none⟩ = some (.int .i64 R2) ∧ w'.cell? ⟨w5.heap.size + 1, 3, none⟩ = some (.int .i64 N2) ∧ w'.cell? ⟨w5.heap.size + 1, 4, none⟩ = some (.bool dead2) ∧ w'.cell? ⟨w5.heap.size + 1, 5, none⟩ = some (.slice ao2 len2 cap2) ∧ w'.cell? ⟨w5.heap.size + 1, 6, none⟩ = some (.string tag2) ∧ w'.cell? ⟨w5.heap.size + 1, 7, none⟩ = some (.string body2))
      (go_keep)
      (first
        | (go_at_call_of 13 (it1); refine (HP1.out _ (by assumption)).mono ?_; rintro e wx ⟨xo, xn, xc, rfl, hrx, hbx⟩; have hzx : Below Y.heap.size Y wx := bel_tr hbx (by assumption); have hcx : ∀ bb o, bb < Y.heap.size → wx.cell? ⟨bb, o, none⟩ = Y.cell? ⟨bb, o, none⟩ := fun bb o h => hzx.cell (p := ⟨bb, o, none⟩) h)
        | (go_at_call_of 13 (it2); refine (HP2.out _ (by assumption)).mono ?_; rintro e wy ⟨yo, yn, yc, rfl, hry, hby⟩; have hzy : Below Y.heap.size Y wy := bel_tr hby (by assumption); have hcy : ∀ bb o, bb < Y.heap.size → wy.cell? ⟨bb, o, none⟩ = Y.cell? ⟨bb, o, none⟩ := fun bb o h => hzy.cell (p := ⟨bb, o, none⟩) h))
    all_goals
      go_wp2_with fail
      go_meet
      first
        | exact ⟨xo, xn, xc, yo, yn, yc, rfl, rfl, hrx.kept hby, hry, hzy⟩
        | exact ⟨xo, xn, xc, yo, yn, yc, rfl, rfl, hrx, hry.kept hbx, hzx⟩
  case rest =>
    obtain ⟨xo, xn, xc, yo, yn, yc, rfl, rfl, hrx, hry, hbc⟩ := hcut
    have hxl : xn = PV.length := hrx.len.symm
    have hyl : yn = QV.length := hry.len.symm
    have HC : Hid (Rb wc xo xn xc PV ∧ Rb wc yo yn yc QV ∧ Below Y.heap.size Y wc ∧ Below w.heap.size w wc) := ⟨hrx, hry, hbc, bel_tr hbc HY.out.2.1⟩
    have hxle := hrx.le
    have hyle := hry.le
    have hx0 : 0 < xn := by have := HPN.out.1; omega
    have hy0 : 0 < yn := by have := HPN.out.2; omega
    have hxs : xn ≤ 100 := by have := HPN.out.1; omega
    have hys : yn ≤ 100 := by have := HPN.out.2; omega
    have hdx1 : decide ((0 : Int) < (xn : Int)) = true := decide_eq_true (by omega)
    have hdy1 : decide ((0 : Int) < (yn : Int)) = true := decide_eq_true (by omega)
    have cells1 : ∀ W, Below wc.heap.size wc W → ∀ j, j < 8 → W.cell? ⟨w5.heap.size, j, none⟩ = _ := fun W hW j hj => ((hW.cell (p := ⟨w5.heap.size, j, none⟩) (Nat.lt_of_lt_of_le hsY0 hbc.size)).trans (hbc.cell (p := ⟨w5.heap.size, j, none⟩) hsY0)).trans (HY.out.2.2.1 j hj)
    have cells2 : ∀ W, Below wc.heap.size wc W → ∀ j, j < 8 → W.cell? ⟨w5.heap.size + 1, j, none⟩ = _ := fun W hW j hj => ((hW.cell (p := ⟨w5.heap.size + 1, j, none⟩) (Nat.lt_of_lt_of_le hsY hbc.size)).trans (hbc.cell (p := ⟨w5.heap.size + 1, j, none⟩) hsY)).trans (HY.out.2.2.2 j hj)
    have HL : Hid (xn = PV.length ∧ yn = QV.length) := ⟨hxl, hyl⟩
    have HS2 : Hid (∀ W, Below wc.heap.size wc W → Calls Tryd.prog 15 _ W _) := fun W hW => HS.out W (bel_tr hW hbc)
    have HC1 : Hid (∀ W, Below wc.heap.size wc W → ∀ j, j < 8 → W.cell? ⟨w5.heap.size, j, none⟩ = _) := cells1
    have HC2 : Hid (∀ W, Below wc.heap.size wc W → ∀ j, j < 8 → W.cell? ⟨w5.heap.size + 1, j, none⟩ = _) := cells2
    clear hrx hry hbc hxl hyl cells1 cells2 y0 y1 y2 y3 y4 y5 y6 y7 z0 z1 z2 z3 z4 z5 z6 z7 hdr hdx1 hdy1
    obtain ⟨xb, xf, rfl, _⟩ := HC.out.1.at_ hx0
    obtain ⟨yb, yf, rfl, _⟩ := HC.out.2.1.at_ hy0
    cases S with
    | true =>
      have ePQ : PV = QV := HEQ.out (by first | rfl | trivial)
      have exy : xn = yn := by have := HL.out.1; have := HL.out.2; rw [ePQ] at *; omega
      subst ePQ
      subst exy
      have cx := fun W (hW : Below wc.heap.size wc W) => conv_rb (HC.out.1.kept hW)
      have cy := fun W (hW : Below wc.heap.size wc W) => conv_rb (HC.out.2.1.kept hW)
      have hdr : Below wc.heap.size wc wc.drew := (Below.refl _ wc).drew
      go_wp2_with fail
      refine wp_region_held_drew (S := fun W => Below wc.heap.size wc W) (by kernel_rfl) ?_ (fun hHeld => ?_)
      · (try dsimp only)
        exact hdr
      refine wpAnyH_take (i := 0) (oi := { dst := some 30, op := Go.Op.move (Go.Operand.tmp 7), type := 27, pos := "law.go:64", after := #[], guard := none }) (v := ?_) rfl (by kernel_rfl) (by kernel_rfl) (by kernel_rfl) (fun _ _ _ h => h) (Or.inl ⟨by rfl, ?_⟩) (by assumption) ?_
      rotate_left
      · intro w hSw
        (try dsimp only at hSw)
        go_simp
        try with_reducible rfl
      simp only [Act.put, List.setIfInBounds_toArray, List.set_cons_zero, List.set_cons_succ]
      refine wpAnyH_take (i := 1) (oi := { dst := some 31, op := Go.Op.call { callee := Go.Callee.builtin Go.Builtin.len, args := #[Go.Operand.tmp 30], argTypes := #[27] }, type := 3, pos := "law.go:64", after := #[{ on := 0, ground := Go.Ground.data }], guard := none }) (v := ?_) rfl (by kernel_rfl) (by kernel_rfl) (by kernel_rfl) (fun _ _ _ h => h) (Or.inl ⟨by rfl, ?_⟩) (by assumption) ?_
      rotate_left
      · intro w hSw
        (try dsimp only at hSw)
        go_simp
        try with_reducible rfl
      simp only [Act.put, List.setIfInBounds_toArray, List.set_cons_zero, List.set_cons_succ]
      refine wpAnyH_take (i := 2) (oi := { dst := some 32, op := Go.Op.move (Go.Operand.tmp 8), type := 27, pos := "law.go:64", after := #[], guard := none }) (v := ?_) rfl (by kernel_rfl) (by kernel_rfl) (by kernel_rfl) (fun _ _ _ h => h) (Or.inl ⟨by rfl, ?_⟩) (by assumption) ?_
      rotate_left
      · intro w hSw
        (try dsimp only at hSw)
        go_simp
        try with_reducible rfl
      simp only [Act.put, List.setIfInBounds_toArray, List.set_cons_zero, List.set_cons_succ]
      refine wpAnyH_take (i := 3) (oi := { dst := some 33, op := Go.Op.call { callee := Go.Callee.builtin Go.Builtin.len, args := #[Go.Operand.tmp 32], argTypes := #[27] }, type := 3, pos := "law.go:64", after := #[{ on := 2, ground := Go.Ground.data }], guard := none }) (v := ?_) rfl (by kernel_rfl) (by kernel_rfl) (by kernel_rfl) (fun _ _ _ h => h) (Or.inl ⟨by rfl, ?_⟩) (by assumption) ?_
      rotate_left
      · intro w hSw
        (try dsimp only at hSw)
        go_simp
        try with_reducible rfl
      simp only [Act.put, List.setIfInBounds_toArray, List.set_cons_zero, List.set_cons_succ]
      refine wpAnyH_take (i := 4) (oi := { dst := some 34, op := Go.Op.binOp Go.BinOp.leq 3 (Go.Operand.tmp 31) (Go.Operand.tmp 33) 3, type := 4, pos := "law.go:64", after := #[{ on := 1, ground := Go.Ground.data }, { on := 3, ground := Go.Ground.data }], guard := none }) (v := ?_) rfl (by kernel_rfl) (by kernel_rfl) (by kernel_rfl) (fun _ _ _ h => h) (Or.inl ⟨by rfl, ?_⟩) (by assumption) ?_
      rotate_left
      · intro w hSw
        (try dsimp only at hSw)
        go_simp
        try with_reducible rfl
      simp only [Act.put, List.setIfInBounds_toArray, List.set_cons_zero, List.set_cons_succ]
      refine wpAnyH_take (i := 5) (oi := { dst := some 35, op := Go.Op.move (Go.Operand.tmp 34), type := 4, pos := "law.go:64", after := #[{ on := 4, ground := Go.Ground.data }], guard := none }) (v := ?_) rfl (by kernel_rfl) (by kernel_rfl) (by kernel_rfl) (fun _ _ _ h => h) (Or.inl ⟨by rfl, ?_⟩) (by assumption) ?_
      rotate_left
      · intro w hSw
        (try dsimp only at hSw)
        go_simp
        try with_reducible rfl
      simp only [Act.put, List.setIfInBounds_toArray, List.set_cons_zero, List.set_cons_succ]
      refine wpAnyH_take (i := 6) (oi := { dst := some 36, op := Go.Op.move (Go.Operand.tmp 8), type := 27, pos := "law.go:64", after := #[{ on := 5, ground := Go.Ground.guard }], guard := some (5, true) }) (v := ?_) rfl (by kernel_rfl) (by kernel_rfl) (by kernel_rfl) (fun _ _ _ h => h) (Or.inl ⟨by rfl, ?_⟩) (by assumption) ?_
      rotate_left
      · intro w hSw
        (try dsimp only at hSw)
        go_simp
        try with_reducible rfl
      simp only [Act.put, List.setIfInBounds_toArray, List.set_cons_zero, List.set_cons_succ]
      refine wpAnyH_take (i := 7) (oi := { dst := some 37, op := Go.Op.move (Go.Operand.tmp 7), type := 27, pos := "law.go:64", after := #[{ on := 5, ground := Go.Ground.guard }], guard := some (5, true) }) (v := ?_) rfl (by kernel_rfl) (by kernel_rfl) (by kernel_rfl) (fun _ _ _ h => h) (Or.inl ⟨by rfl, ?_⟩) (by assumption) ?_
      rotate_left
      · intro w hSw
        (try dsimp only at hSw)
        go_simp
        try with_reducible rfl
      simp only [Act.put, List.setIfInBounds_toArray, List.set_cons_zero, List.set_cons_succ]
      refine wpAnyH_take (i := 8) (oi := { dst := some 38, op := Go.Op.call { callee := Go.Callee.builtin Go.Builtin.len, args := #[Go.Operand.tmp 37], argTypes := #[27] }, type := 3, pos := "law.go:64", after := #[{ on := 7, ground := Go.Ground.data }, { on := 5, ground := Go.Ground.guard }], guard := some (5, true) }) (v := ?_) rfl (by kernel_rfl) (by kernel_rfl) (by kernel_rfl) (fun _ _ _ h => h) (Or.inl ⟨by rfl, ?_⟩) (by assumption) ?_
      rotate_left
      · intro w hSw
        (try dsimp only at hSw)
        go_simp
        try with_reducible rfl
      simp only [Act.put, List.setIfInBounds_toArray, List.set_cons_zero, List.set_cons_succ]
      refine wpAnyH_take (i := 9) (oi := { dst := some 39, op := Go.Op.move (Go.Operand.tmp 8), type := 27, pos := "law.go:64", after := #[{ on := 5, ground := Go.Ground.guard }], guard := some (5, true) }) (v := ?_) rfl (by kernel_rfl) (by kernel_rfl) (by kernel_rfl) (fun _ _ _ h => h) (Or.inl ⟨by rfl, ?_⟩) (by assumption) ?_
      rotate_left
      · intro w hSw
        (try dsimp only at hSw)
        go_simp
        try with_reducible rfl
      simp only [Act.put, List.setIfInBounds_toArray, List.set_cons_zero, List.set_cons_succ]
      refine wpAnyH_take (i := 10) (oi := { dst := some 40, op := Go.Op.call { callee := Go.Callee.builtin Go.Builtin.len, args := #[Go.Operand.tmp 39], argTypes := #[27] }, type := 3, pos := "law.go:64", after := #[{ on := 9, ground := Go.Ground.data }, { on := 5, ground := Go.Ground.guard }], guard := some (5, true) }) (v := ?_) rfl (by kernel_rfl) (by kernel_rfl) (by kernel_rfl) (fun _ _ _ h => h) (Or.inl ⟨by rfl, ?_⟩) (by assumption) ?_
      rotate_left
      · intro w hSw
        (try dsimp only at hSw)
        go_simp
        try with_reducible rfl
      simp only [Act.put, List.setIfInBounds_toArray, List.set_cons_zero, List.set_cons_succ]
      refine wpAnyH_take (i := 11) (oi := { dst := some 41, op := Go.Op.call { callee := Go.Callee.builtin Go.Builtin.min, args := #[Go.Operand.tmp 38, Go.Operand.tmp 40], argTypes := #[3, 3] }, type := 3, pos := "law.go:64", after := #[{ on := 8, ground := Go.Ground.data }, { on := 10, ground := Go.Ground.data }, { on := 5, ground := Go.Ground.guard }], guard := some (5, true) }) (v := ?_) rfl (by kernel_rfl) (by kernel_rfl) (by kernel_rfl) (fun _ _ _ h => h) (Or.inl ⟨by rfl, ?_⟩) (by assumption) ?_
      rotate_left
      · intro w hSw
        (try dsimp only at hSw)
        go_simp
        try with_reducible rfl
      simp only [Act.put, List.setIfInBounds_toArray, List.set_cons_zero, List.set_cons_succ]
      refine wpAnyH_take (i := 12) (oi := { dst := some 42, op := Go.Op.slice 27 (Go.Operand.tmp 36) none (some (Go.Operand.tmp 41)) none, type := 27, pos := "law.go:64", after := #[{ on := 6, ground := Go.Ground.data }, { on := 11, ground := Go.Ground.data }, { on := 5, ground := Go.Ground.guard }], guard := some (5, true) }) (v := ?_) rfl (by kernel_rfl) (by kernel_rfl) (by kernel_rfl) (fun _ _ _ h => h) (Or.inl ⟨by rfl, ?_⟩) (by assumption) ?_
      rotate_left
      · intro w hSw
        (try dsimp only at hSw)
        go_simp
        try with_reducible rfl
      simp only [Act.put, List.setIfInBounds_toArray, List.set_cons_zero, List.set_cons_succ]
      refine wpAnyH_take (i := 13) (oi := { dst := some 43, op := Go.Op.convert 27 9 (Go.Operand.tmp 42), type := 9, pos := "law.go:64", after := #[{ on := 12, ground := Go.Ground.data }, { on := 5, ground := Go.Ground.guard }], guard := some (5, true) }) (v := ?_) rfl (by kernel_rfl) (by kernel_rfl) (by kernel_rfl) (fun _ _ _ h => h) (Or.inl ⟨by rfl, ?_⟩) (by assumption) ?_
      rotate_left
      · intro w hSw
        (try dsimp only at hSw)
        go_simp
        try with_reducible rfl
      simp only [Act.put, List.setIfInBounds_toArray, List.set_cons_zero, List.set_cons_succ]
      refine wpAnyH_take (i := 14) (oi := { dst := some 44, op := Go.Op.move (Go.Operand.tmp 7), type := 27, pos := "law.go:64", after := #[{ on := 5, ground := Go.Ground.guard }], guard := some (5, true) }) (v := ?_) rfl (by kernel_rfl) (by kernel_rfl) (by kernel_rfl) (fun _ _ _ h => h) (Or.inl ⟨by rfl, ?_⟩) (by assumption) ?_
      rotate_left
      · intro w hSw
        (try dsimp only at hSw)
        go_simp
        try with_reducible rfl
      simp only [Act.put, List.setIfInBounds_toArray, List.set_cons_zero, List.set_cons_succ]
      refine wpAnyH_take (i := 15) (oi := { dst := some 45, op := Go.Op.convert 27 9 (Go.Operand.tmp 44), type := 9, pos := "law.go:64", after := #[{ on := 14, ground := Go.Ground.data }, { on := 5, ground := Go.Ground.guard }], guard := some (5, true) }) (v := ?_) rfl (by kernel_rfl) (by kernel_rfl) (by kernel_rfl) (fun _ _ _ h => h) (Or.inl ⟨by rfl, ?_⟩) (by assumption) ?_
      rotate_left
      · intro w hSw
        (try dsimp only at hSw)
        go_simp
        try with_reducible rfl
      simp only [Act.put, List.setIfInBounds_toArray, List.set_cons_zero, List.set_cons_succ]
      refine wpAnyH_take (i := 16) (oi := { dst := some 46, op := Go.Op.binOp Go.BinOp.eql 9 (Go.Operand.tmp 43) (Go.Operand.tmp 45) 9, type := 4, pos := "law.go:64", after := #[{ on := 13, ground := Go.Ground.data }, { on := 15, ground := Go.Ground.data }, { on := 5, ground := Go.Ground.guard }], guard := some (5, true) }) (v := ?_) rfl (by kernel_rfl) (by kernel_rfl) (by kernel_rfl) (fun _ _ _ h => h) (Or.inl ⟨by rfl, ?_⟩) (by assumption) ?_
      rotate_left
      · intro w hSw
        (try dsimp only at hSw)
        go_simp
        try with_reducible rfl
      simp only [Act.put, List.setIfInBounds_toArray, List.set_cons_zero, List.set_cons_succ]
      refine wpAnyH_take (i := 17) (oi := { dst := some 47, op := Go.Op.pick (Go.Operand.tmp 35) (Go.Operand.tmp 46) (Go.Operand.const (Go.Value.bool false)), type := 4, pos := "law.go:64", after := #[{ on := 5, ground := Go.Ground.data }, { on := 16, ground := Go.Ground.data }], guard := none }) (v := ?_) rfl (by kernel_rfl) (by kernel_rfl) (by kernel_rfl) (fun _ _ _ h => h) (Or.inl ⟨by rfl, ?_⟩) (by assumption) ?_
      rotate_left
      · intro w hSw
        (try dsimp only at hSw)
        go_simp
        try with_reducible rfl
      simp only [Act.put, List.setIfInBounds_toArray, List.set_cons_zero, List.set_cons_succ]
      refine wpAnyH_take (i := 18) (oi := { dst := some 9, op := Go.Op.assign (Go.Operand.tmp 47), type := 4, pos := "law.go:64", after := #[{ on := 17, ground := Go.Ground.data }, { on := 5, ground := Go.Ground.chain }, { on := 0, ground := Go.Ground.phase }, { on := 1, ground := Go.Ground.phase }, { on := 2, ground := Go.Ground.phase }, { on := 3, ground := Go.Ground.phase }, { on := 4, ground := Go.Ground.phase }, { on := 5, ground := Go.Ground.phase }, { on := 6, ground := Go.Ground.phase }, { on := 7, ground := Go.Ground.phase }, { on := 8, ground := Go.Ground.phase }, { on := 9, ground := Go.Ground.phase }, { on := 10, ground := Go.Ground.phase }, { on := 11, ground := Go.Ground.phase }, { on := 12, ground := Go.Ground.phase }, { on := 13, ground := Go.Ground.phase }, { on := 14, ground := Go.Ground.phase }, { on := 15, ground := Go.Ground.phase }, { on := 16, ground := Go.Ground.phase }, { on := 17, ground := Go.Ground.phase }], guard := none }) (v := ?_) rfl (by kernel_rfl) (by kernel_rfl) (by kernel_rfl) (fun _ _ _ h => h) (Or.inl ⟨by rfl, ?_⟩) (by assumption) ?_
      rotate_left
      · intro w hSw
        (try dsimp only at hSw)
        go_simp
        try with_reducible rfl
      simp only [Act.put, List.setIfInBounds_toArray, List.set_cons_zero, List.set_cons_succ]
      refine wpAnyH_done (by kernel_rfl) ?_ _
      have p0 : wc.drew.cell? ⟨w5.heap.size, 0, none⟩ = some (.int .i64 it1) := HC1.out _ hdr 0 (by omega)
      have p1 : wc.drew.cell? ⟨w5.heap.size, 1, none⟩ = some (.int .i64 L1) := HC1.out _ hdr 1 (by omega)
      have p2 : wc.drew.cell? ⟨w5.heap.size, 2, none⟩ = some (.int .i64 R1) := HC1.out _ hdr 2 (by omega)
      have p3 : wc.drew.cell? ⟨w5.heap.size, 3, none⟩ = some (.int .i64 N1) := HC1.out _ hdr 3 (by omega)
      have p4 : wc.drew.cell? ⟨w5.heap.size, 4, none⟩ = some (.bool dead1) := HC1.out _ hdr 4 (by omega)
      have p5 : wc.drew.cell? ⟨w5.heap.size, 5, none⟩ = some (.slice ao1 len1 cap1) := HC1.out _ hdr 5 (by omega)
      have p6 : wc.drew.cell? ⟨w5.heap.size, 6, none⟩ = some (.string tag1) := HC1.out _ hdr 6 (by omega)
      have p7 : wc.drew.cell? ⟨w5.heap.size, 7, none⟩ = some (.string body1) := HC1.out _ hdr 7 (by omega)
      have q0 : wc.drew.cell? ⟨w5.heap.size + 1, 0, none⟩ = some (.int .i64 it2) := HC2.out _ hdr 0 (by omega)
      have q1 : wc.drew.cell? ⟨w5.heap.size + 1, 1, none⟩ = some (.int .i64 L2) := HC2.out _ hdr 1 (by omega)
      have q2 : wc.drew.cell? ⟨w5.heap.size + 1, 2, none⟩ = some (.int .i64 R2) := HC2.out _ hdr 2 (by omega)
      have q3 : wc.drew.cell? ⟨w5.heap.size + 1, 3, none⟩ = some (.int .i64 N2) := HC2.out _ hdr 3 (by omega)
      have q4 : wc.drew.cell? ⟨w5.heap.size + 1, 4, none⟩ = some (.bool dead2) := HC2.out _ hdr 4 (by omega)
      have q5 : wc.drew.cell? ⟨w5.heap.size + 1, 5, none⟩ = some (.slice ao2 len2 cap2) := HC2.out _ hdr 5 (by omega)
      have q6 : wc.drew.cell? ⟨w5.heap.size + 1, 6, none⟩ = some (.string tag2) := HC2.out _ hdr 6 (by omega)
      have q7 : wc.drew.cell? ⟨w5.heap.size + 1, 7, none⟩ = some (.string body2) := HC2.out _ hdr 7 (by omega)
      have c9 := HS.out wc.drew (bel_tr hdr HC.out.2.2.1)
      try clear hHeld
      go_wp2_with fail
      refine c9.mono ?_
      rintro r w9 ⟨rfl, hb9⟩
      have HB9 : Hid (Below w.heap.size w w9) := bel_tr hb9 (bel_tr hdr HC.out.2.2.2)
      clear c9 hb9 p0 p1 p2 p3 p4 p5 p6 p7 q0 q1 q2 q3 q4 q5 q6 q7
      go_wp2
      go_ret
      exact ⟨rfl, HB9.out⟩
    | false =>
      have hdr : Below wc.heap.size wc wc.drew := (Below.refl _ wc).drew
      have hne := HFR.out (by first | rfl | trivial)
      by_cases hxy : xn ≤ yn
      · have hxy1 : (xn : Int) ≤ (yn : Int) := by omega
        have hxy2 : decide ((xn : Int) ≤ (yn : Int)) = true := decide_eq_true hxy1
        have hxy3 : decide (xn ≤ yn) = true := decide_eq_true hxy
        have hmn : ¬ yn < xn := by omega
        have hmn2 : ¬ (yn : Int) < (xn : Int) := by omega
        have hxyc : (xn : Int) ≤ (yc : Int) := by omega
        have hx00 : (0 : Int) ≤ (xn : Int) := by omega
        have cx := fun W (hW : Below wc.heap.size wc W) => conv_rb (HC.out.1.kept hW)
        have cy := fun W (hW : Below wc.heap.size wc W) => conv_rb (rb_take (HC.out.2.1.kept hW) xn hxy)
        have hts : ¬ (strs (QV.take xn)).toList = (strs PV).toList := by
          intro h
          have h2 := strs_inj _ _ (fun x hx => HC.out.2.1.lt x (List.mem_of_mem_take hx)) HC.out.1.lt (toList_inj h)
          rw [HL.out.1] at h2
          exact hne h2
        have hts2 : ((strs (QV.take xn)).toList == (strs PV).toList) = false := beq_eq_false_iff_ne.2 hts
        clear hne hxy
        go_wp2_with fail
        refine wp_region_held_drew (S := fun W => Below wc.heap.size wc W) (by kernel_rfl) ?_ (fun hHeld => ?_)
        · (try dsimp only)
          exact hdr
        refine wpAnyH_take (i := 0) (oi := { dst := some 30, op := Go.Op.move (Go.Operand.tmp 7), type := 27, pos := "law.go:64", after := #[], guard := none }) (v := ?_) rfl (by kernel_rfl) (by kernel_rfl) (by kernel_rfl) (fun _ _ _ h => h) (Or.inl ⟨by rfl, ?_⟩) (by assumption) ?_
        rotate_left
        · intro w hSw
          (try dsimp only at hSw)
          go_simp
          try with_reducible rfl
        simp only [Act.put, List.setIfInBounds_toArray, List.set_cons_zero, List.set_cons_succ]
        refine wpAnyH_take (i := 1) (oi := { dst := some 31, op := Go.Op.call { callee := Go.Callee.builtin Go.Builtin.len, args := #[Go.Operand.tmp 30], argTypes := #[27] }, type := 3, pos := "law.go:64", after := #[{ on := 0, ground := Go.Ground.data }], guard := none }) (v := ?_) rfl (by kernel_rfl) (by kernel_rfl) (by kernel_rfl) (fun _ _ _ h => h) (Or.inl ⟨by rfl, ?_⟩) (by assumption) ?_
        rotate_left
        · intro w hSw
          (try dsimp only at hSw)
          go_simp
          try with_reducible rfl
        simp only [Act.put, List.setIfInBounds_toArray, List.set_cons_zero, List.set_cons_succ]
        refine wpAnyH_take (i := 2) (oi := { dst := some 32, op := Go.Op.move (Go.Operand.tmp 8), type := 27, pos := "law.go:64", after := #[], guard := none }) (v := ?_) rfl (by kernel_rfl) (by kernel_rfl) (by kernel_rfl) (fun _ _ _ h => h) (Or.inl ⟨by rfl, ?_⟩) (by assumption) ?_
        rotate_left
        · intro w hSw
          (try dsimp only at hSw)
          go_simp
          try with_reducible rfl
        simp only [Act.put, List.setIfInBounds_toArray, List.set_cons_zero, List.set_cons_succ]
        refine wpAnyH_take (i := 3) (oi := { dst := some 33, op := Go.Op.call { callee := Go.Callee.builtin Go.Builtin.len, args := #[Go.Operand.tmp 32], argTypes := #[27] }, type := 3, pos := "law.go:64", after := #[{ on := 2, ground := Go.Ground.data }], guard := none }) (v := ?_) rfl (by kernel_rfl) (by kernel_rfl) (by kernel_rfl) (fun _ _ _ h => h) (Or.inl ⟨by rfl, ?_⟩) (by assumption) ?_
        rotate_left
        · intro w hSw
          (try dsimp only at hSw)
          go_simp
          try with_reducible rfl
        simp only [Act.put, List.setIfInBounds_toArray, List.set_cons_zero, List.set_cons_succ]
        refine wpAnyH_take (i := 4) (oi := { dst := some 34, op := Go.Op.binOp Go.BinOp.leq 3 (Go.Operand.tmp 31) (Go.Operand.tmp 33) 3, type := 4, pos := "law.go:64", after := #[{ on := 1, ground := Go.Ground.data }, { on := 3, ground := Go.Ground.data }], guard := none }) (v := ?_) rfl (by kernel_rfl) (by kernel_rfl) (by kernel_rfl) (fun _ _ _ h => h) (Or.inl ⟨by rfl, ?_⟩) (by assumption) ?_
        rotate_left
        · intro w hSw
          (try dsimp only at hSw)
          go_simp
          try with_reducible rfl
        simp only [Act.put, List.setIfInBounds_toArray, List.set_cons_zero, List.set_cons_succ]
        refine wpAnyH_take (i := 5) (oi := { dst := some 35, op := Go.Op.move (Go.Operand.tmp 34), type := 4, pos := "law.go:64", after := #[{ on := 4, ground := Go.Ground.data }], guard := none }) (v := ?_) rfl (by kernel_rfl) (by kernel_rfl) (by kernel_rfl) (fun _ _ _ h => h) (Or.inl ⟨by rfl, ?_⟩) (by assumption) ?_
        rotate_left
        · intro w hSw
          (try dsimp only at hSw)
          go_simp
          try with_reducible rfl
        simp only [Act.put, List.setIfInBounds_toArray, List.set_cons_zero, List.set_cons_succ]
        refine wpAnyH_take (i := 6) (oi := { dst := some 36, op := Go.Op.move (Go.Operand.tmp 8), type := 27, pos := "law.go:64", after := #[{ on := 5, ground := Go.Ground.guard }], guard := some (5, true) }) (v := ?_) rfl (by kernel_rfl) (by kernel_rfl) (by kernel_rfl) (fun _ _ _ h => h) (Or.inl ⟨by rfl, ?_⟩) (by assumption) ?_
        rotate_left
        · intro w hSw
          (try dsimp only at hSw)
          go_simp
          try with_reducible rfl
        simp only [Act.put, List.setIfInBounds_toArray, List.set_cons_zero, List.set_cons_succ]
        refine wpAnyH_take (i := 7) (oi := { dst := some 37, op := Go.Op.move (Go.Operand.tmp 7), type := 27, pos := "law.go:64", after := #[{ on := 5, ground := Go.Ground.guard }], guard := some (5, true) }) (v := ?_) rfl (by kernel_rfl) (by kernel_rfl) (by kernel_rfl) (fun _ _ _ h => h) (Or.inl ⟨by rfl, ?_⟩) (by assumption) ?_
        rotate_left
        · intro w hSw
          (try dsimp only at hSw)
          go_simp
          try with_reducible rfl
        simp only [Act.put, List.setIfInBounds_toArray, List.set_cons_zero, List.set_cons_succ]
        refine wpAnyH_take (i := 8) (oi := { dst := some 38, op := Go.Op.call { callee := Go.Callee.builtin Go.Builtin.len, args := #[Go.Operand.tmp 37], argTypes := #[27] }, type := 3, pos := "law.go:64", after := #[{ on := 7, ground := Go.Ground.data }, { on := 5, ground := Go.Ground.guard }], guard := some (5, true) }) (v := ?_) rfl (by kernel_rfl) (by kernel_rfl) (by kernel_rfl) (fun _ _ _ h => h) (Or.inl ⟨by rfl, ?_⟩) (by assumption) ?_
        rotate_left
        · intro w hSw
          (try dsimp only at hSw)
          go_simp
          try with_reducible rfl
        simp only [Act.put, List.setIfInBounds_toArray, List.set_cons_zero, List.set_cons_succ]
        refine wpAnyH_take (i := 9) (oi := { dst := some 39, op := Go.Op.move (Go.Operand.tmp 8), type := 27, pos := "law.go:64", after := #[{ on := 5, ground := Go.Ground.guard }], guard := some (5, true) }) (v := ?_) rfl (by kernel_rfl) (by kernel_rfl) (by kernel_rfl) (fun _ _ _ h => h) (Or.inl ⟨by rfl, ?_⟩) (by assumption) ?_
        rotate_left
        · intro w hSw
          (try dsimp only at hSw)
          go_simp
          try with_reducible rfl
        simp only [Act.put, List.setIfInBounds_toArray, List.set_cons_zero, List.set_cons_succ]
        refine wpAnyH_take (i := 10) (oi := { dst := some 40, op := Go.Op.call { callee := Go.Callee.builtin Go.Builtin.len, args := #[Go.Operand.tmp 39], argTypes := #[27] }, type := 3, pos := "law.go:64", after := #[{ on := 9, ground := Go.Ground.data }, { on := 5, ground := Go.Ground.guard }], guard := some (5, true) }) (v := ?_) rfl (by kernel_rfl) (by kernel_rfl) (by kernel_rfl) (fun _ _ _ h => h) (Or.inl ⟨by rfl, ?_⟩) (by assumption) ?_
        rotate_left
        · intro w hSw
          (try dsimp only at hSw)
          go_simp
          try with_reducible rfl
        simp only [Act.put, List.setIfInBounds_toArray, List.set_cons_zero, List.set_cons_succ]
        refine wpAnyH_take (i := 11) (oi := { dst := some 41, op := Go.Op.call { callee := Go.Callee.builtin Go.Builtin.min, args := #[Go.Operand.tmp 38, Go.Operand.tmp 40], argTypes := #[3, 3] }, type := 3, pos := "law.go:64", after := #[{ on := 8, ground := Go.Ground.data }, { on := 10, ground := Go.Ground.data }, { on := 5, ground := Go.Ground.guard }], guard := some (5, true) }) (v := ?_) rfl (by kernel_rfl) (by kernel_rfl) (by kernel_rfl) (fun _ _ _ h => h) (Or.inl ⟨by rfl, ?_⟩) (by assumption) ?_
        rotate_left
        · intro w hSw
          (try dsimp only at hSw)
          go_simp
          try with_reducible rfl
        simp only [Act.put, List.setIfInBounds_toArray, List.set_cons_zero, List.set_cons_succ]
        refine wpAnyH_take (i := 12) (oi := { dst := some 42, op := Go.Op.slice 27 (Go.Operand.tmp 36) none (some (Go.Operand.tmp 41)) none, type := 27, pos := "law.go:64", after := #[{ on := 6, ground := Go.Ground.data }, { on := 11, ground := Go.Ground.data }, { on := 5, ground := Go.Ground.guard }], guard := some (5, true) }) (v := ?_) rfl (by kernel_rfl) (by kernel_rfl) (by kernel_rfl) (fun _ _ _ h => h) (Or.inl ⟨by rfl, ?_⟩) (by assumption) ?_
        rotate_left
        · intro w hSw
          (try dsimp only at hSw)
          go_simp
          try with_reducible rfl
        simp only [Act.put, List.setIfInBounds_toArray, List.set_cons_zero, List.set_cons_succ]
        refine wpAnyH_take (i := 13) (oi := { dst := some 43, op := Go.Op.convert 27 9 (Go.Operand.tmp 42), type := 9, pos := "law.go:64", after := #[{ on := 12, ground := Go.Ground.data }, { on := 5, ground := Go.Ground.guard }], guard := some (5, true) }) (v := ?_) rfl (by kernel_rfl) (by kernel_rfl) (by kernel_rfl) (fun _ _ _ h => h) (Or.inl ⟨by rfl, ?_⟩) (by assumption) ?_
        rotate_left
        · intro w hSw
          (try dsimp only at hSw)
          go_simp
          try with_reducible rfl
        simp only [Act.put, List.setIfInBounds_toArray, List.set_cons_zero, List.set_cons_succ]
        refine wpAnyH_take (i := 14) (oi := { dst := some 44, op := Go.Op.move (Go.Operand.tmp 7), type := 27, pos := "law.go:64", after := #[{ on := 5, ground := Go.Ground.guard }], guard := some (5, true) }) (v := ?_) rfl (by kernel_rfl) (by kernel_rfl) (by kernel_rfl) (fun _ _ _ h => h) (Or.inl ⟨by rfl, ?_⟩) (by assumption) ?_
        rotate_left
        · intro w hSw
          (try dsimp only at hSw)
          go_simp
          try with_reducible rfl
        simp only [Act.put, List.setIfInBounds_toArray, List.set_cons_zero, List.set_cons_succ]
        refine wpAnyH_take (i := 15) (oi := { dst := some 45, op := Go.Op.convert 27 9 (Go.Operand.tmp 44), type := 9, pos := "law.go:64", after := #[{ on := 14, ground := Go.Ground.data }, { on := 5, ground := Go.Ground.guard }], guard := some (5, true) }) (v := ?_) rfl (by kernel_rfl) (by kernel_rfl) (by kernel_rfl) (fun _ _ _ h => h) (Or.inl ⟨by rfl, ?_⟩) (by assumption) ?_
        rotate_left
        · intro w hSw
          (try dsimp only at hSw)
          go_simp
          try with_reducible rfl
        simp only [Act.put, List.setIfInBounds_toArray, List.set_cons_zero, List.set_cons_succ]
        refine wpAnyH_take (i := 16) (oi := { dst := some 46, op := Go.Op.binOp Go.BinOp.eql 9 (Go.Operand.tmp 43) (Go.Operand.tmp 45) 9, type := 4, pos := "law.go:64", after := #[{ on := 13, ground := Go.Ground.data }, { on := 15, ground := Go.Ground.data }, { on := 5, ground := Go.Ground.guard }], guard := some (5, true) }) (v := ?_) rfl (by kernel_rfl) (by kernel_rfl) (by kernel_rfl) (fun _ _ _ h => h) (Or.inl ⟨by rfl, ?_⟩) (by assumption) ?_
        rotate_left
        · intro w hSw
          (try dsimp only at hSw)
          go_simp
          try with_reducible rfl
        simp only [Act.put, List.setIfInBounds_toArray, List.set_cons_zero, List.set_cons_succ]
        refine wpAnyH_take (i := 17) (oi := { dst := some 47, op := Go.Op.pick (Go.Operand.tmp 35) (Go.Operand.tmp 46) (Go.Operand.const (Go.Value.bool false)), type := 4, pos := "law.go:64", after := #[{ on := 5, ground := Go.Ground.data }, { on := 16, ground := Go.Ground.data }], guard := none }) (v := ?_) rfl (by kernel_rfl) (by kernel_rfl) (by kernel_rfl) (fun _ _ _ h => h) (Or.inl ⟨by rfl, ?_⟩) (by assumption) ?_
        rotate_left
        · intro w hSw
          (try dsimp only at hSw)
          go_simp
          try with_reducible rfl
        simp only [Act.put, List.setIfInBounds_toArray, List.set_cons_zero, List.set_cons_succ]
        refine wpAnyH_take (i := 18) (oi := { dst := some 9, op := Go.Op.assign (Go.Operand.tmp 47), type := 4, pos := "law.go:64", after := #[{ on := 17, ground := Go.Ground.data }, { on := 5, ground := Go.Ground.chain }, { on := 0, ground := Go.Ground.phase }, { on := 1, ground := Go.Ground.phase }, { on := 2, ground := Go.Ground.phase }, { on := 3, ground := Go.Ground.phase }, { on := 4, ground := Go.Ground.phase }, { on := 5, ground := Go.Ground.phase }, { on := 6, ground := Go.Ground.phase }, { on := 7, ground := Go.Ground.phase }, { on := 8, ground := Go.Ground.phase }, { on := 9, ground := Go.Ground.phase }, { on := 10, ground := Go.Ground.phase }, { on := 11, ground := Go.Ground.phase }, { on := 12, ground := Go.Ground.phase }, { on := 13, ground := Go.Ground.phase }, { on := 14, ground := Go.Ground.phase }, { on := 15, ground := Go.Ground.phase }, { on := 16, ground := Go.Ground.phase }, { on := 17, ground := Go.Ground.phase }], guard := none }) (v := ?_) rfl (by kernel_rfl) (by kernel_rfl) (by kernel_rfl) (fun _ _ _ h => h) (Or.inl ⟨by rfl, ?_⟩) (by assumption) ?_
        rotate_left
        · intro w hSw
          (try dsimp only at hSw)
          go_simp
          try with_reducible rfl
        simp only [Act.put, List.setIfInBounds_toArray, List.set_cons_zero, List.set_cons_succ]
        refine wpAnyH_done (by kernel_rfl) ?_ _
        have p0 : wc.drew.cell? ⟨w5.heap.size, 0, none⟩ = some (.int .i64 it1) := HC1.out _ hdr 0 (by omega)
        have p1 : wc.drew.cell? ⟨w5.heap.size, 1, none⟩ = some (.int .i64 L1) := HC1.out _ hdr 1 (by omega)
        have p2 : wc.drew.cell? ⟨w5.heap.size, 2, none⟩ = some (.int .i64 R1) := HC1.out _ hdr 2 (by omega)
        have p3 : wc.drew.cell? ⟨w5.heap.size, 3, none⟩ = some (.int .i64 N1) := HC1.out _ hdr 3 (by omega)
        have p4 : wc.drew.cell? ⟨w5.heap.size, 4, none⟩ = some (.bool dead1) := HC1.out _ hdr 4 (by omega)
        have p5 : wc.drew.cell? ⟨w5.heap.size, 5, none⟩ = some (.slice ao1 len1 cap1) := HC1.out _ hdr 5 (by omega)
        have p6 : wc.drew.cell? ⟨w5.heap.size, 6, none⟩ = some (.string tag1) := HC1.out _ hdr 6 (by omega)
        have p7 : wc.drew.cell? ⟨w5.heap.size, 7, none⟩ = some (.string body1) := HC1.out _ hdr 7 (by omega)
        have q0 : wc.drew.cell? ⟨w5.heap.size + 1, 0, none⟩ = some (.int .i64 it2) := HC2.out _ hdr 0 (by omega)
        have q1 : wc.drew.cell? ⟨w5.heap.size + 1, 1, none⟩ = some (.int .i64 L2) := HC2.out _ hdr 1 (by omega)
        have q2 : wc.drew.cell? ⟨w5.heap.size + 1, 2, none⟩ = some (.int .i64 R2) := HC2.out _ hdr 2 (by omega)
        have q3 : wc.drew.cell? ⟨w5.heap.size + 1, 3, none⟩ = some (.int .i64 N2) := HC2.out _ hdr 3 (by omega)
        have q4 : wc.drew.cell? ⟨w5.heap.size + 1, 4, none⟩ = some (.bool dead2) := HC2.out _ hdr 4 (by omega)
        have q5 : wc.drew.cell? ⟨w5.heap.size + 1, 5, none⟩ = some (.slice ao2 len2 cap2) := HC2.out _ hdr 5 (by omega)
        have q6 : wc.drew.cell? ⟨w5.heap.size + 1, 6, none⟩ = some (.string tag2) := HC2.out _ hdr 6 (by omega)
        have q7 : wc.drew.cell? ⟨w5.heap.size + 1, 7, none⟩ = some (.string body2) := HC2.out _ hdr 7 (by omega)
        have c9 := HS.out wc.drew (bel_tr hdr HC.out.2.2.1)
        try clear hHeld
        go_wp2_with fail
        refine c9.mono ?_
        rintro r w9 ⟨rfl, hb9⟩
        have HB9 : Hid (Below w.heap.size w w9) := bel_tr hb9 (bel_tr hdr HC.out.2.2.2)
        clear c9 hb9 p0 p1 p2 p3 p4 p5 p6 p7 q0 q1 q2 q3 q4 q5 q6 q7
        go_wp2
        go_ret
        exact ⟨rfl, HB9.out⟩
      · have hxy1 : ¬ (xn : Int) ≤ (yn : Int) := by omega
        have hxy2 : decide ((xn : Int) ≤ (yn : Int)) = false := decide_eq_false hxy1
        have hxy3 : decide (xn ≤ yn) = false := decide_eq_false hxy
        clear hne hxy
        go_wp2_with fail
        refine wp_region_held_drew (S := fun W => Below wc.heap.size wc W) (by kernel_rfl) ?_ (fun hHeld => ?_)
        · (try dsimp only)
          exact hdr
        refine wpAnyH_take (i := 0) (oi := { dst := some 30, op := Go.Op.move (Go.Operand.tmp 7), type := 27, pos := "law.go:64", after := #[], guard := none }) (v := ?_) rfl (by kernel_rfl) (by kernel_rfl) (by kernel_rfl) (fun _ _ _ h => h) (Or.inl ⟨by rfl, ?_⟩) (by assumption) ?_
        rotate_left
        · intro w hSw
          (try dsimp only at hSw)
          go_simp
          try with_reducible rfl
        simp only [Act.put, List.setIfInBounds_toArray, List.set_cons_zero, List.set_cons_succ]
        refine wpAnyH_take (i := 1) (oi := { dst := some 31, op := Go.Op.call { callee := Go.Callee.builtin Go.Builtin.len, args := #[Go.Operand.tmp 30], argTypes := #[27] }, type := 3, pos := "law.go:64", after := #[{ on := 0, ground := Go.Ground.data }], guard := none }) (v := ?_) rfl (by kernel_rfl) (by kernel_rfl) (by kernel_rfl) (fun _ _ _ h => h) (Or.inl ⟨by rfl, ?_⟩) (by assumption) ?_
        rotate_left
        · intro w hSw
          (try dsimp only at hSw)
          go_simp
          try with_reducible rfl
        simp only [Act.put, List.setIfInBounds_toArray, List.set_cons_zero, List.set_cons_succ]
        refine wpAnyH_take (i := 2) (oi := { dst := some 32, op := Go.Op.move (Go.Operand.tmp 8), type := 27, pos := "law.go:64", after := #[], guard := none }) (v := ?_) rfl (by kernel_rfl) (by kernel_rfl) (by kernel_rfl) (fun _ _ _ h => h) (Or.inl ⟨by rfl, ?_⟩) (by assumption) ?_
        rotate_left
        · intro w hSw
          (try dsimp only at hSw)
          go_simp
          try with_reducible rfl
        simp only [Act.put, List.setIfInBounds_toArray, List.set_cons_zero, List.set_cons_succ]
        refine wpAnyH_take (i := 3) (oi := { dst := some 33, op := Go.Op.call { callee := Go.Callee.builtin Go.Builtin.len, args := #[Go.Operand.tmp 32], argTypes := #[27] }, type := 3, pos := "law.go:64", after := #[{ on := 2, ground := Go.Ground.data }], guard := none }) (v := ?_) rfl (by kernel_rfl) (by kernel_rfl) (by kernel_rfl) (fun _ _ _ h => h) (Or.inl ⟨by rfl, ?_⟩) (by assumption) ?_
        rotate_left
        · intro w hSw
          (try dsimp only at hSw)
          go_simp
          try with_reducible rfl
        simp only [Act.put, List.setIfInBounds_toArray, List.set_cons_zero, List.set_cons_succ]
        refine wpAnyH_take (i := 4) (oi := { dst := some 34, op := Go.Op.binOp Go.BinOp.leq 3 (Go.Operand.tmp 31) (Go.Operand.tmp 33) 3, type := 4, pos := "law.go:64", after := #[{ on := 1, ground := Go.Ground.data }, { on := 3, ground := Go.Ground.data }], guard := none }) (v := ?_) rfl (by kernel_rfl) (by kernel_rfl) (by kernel_rfl) (fun _ _ _ h => h) (Or.inl ⟨by rfl, ?_⟩) (by assumption) ?_
        rotate_left
        · intro w hSw
          (try dsimp only at hSw)
          go_simp
          try with_reducible rfl
        simp only [Act.put, List.setIfInBounds_toArray, List.set_cons_zero, List.set_cons_succ]
        refine wpAnyH_take (i := 5) (oi := { dst := some 35, op := Go.Op.move (Go.Operand.tmp 34), type := 4, pos := "law.go:64", after := #[{ on := 4, ground := Go.Ground.data }], guard := none }) (v := ?_) rfl (by kernel_rfl) (by kernel_rfl) (by kernel_rfl) (fun _ _ _ h => h) (Or.inl ⟨by rfl, ?_⟩) (by assumption) ?_
        rotate_left
        · intro w hSw
          (try dsimp only at hSw)
          go_simp
          try with_reducible rfl
        simp only [Act.put, List.setIfInBounds_toArray, List.set_cons_zero, List.set_cons_succ]
        refine wpAnyH_take (i := 6) (oi := { dst := some 36, op := Go.Op.move (Go.Operand.tmp 8), type := 27, pos := "law.go:64", after := #[{ on := 5, ground := Go.Ground.guard }], guard := some (5, true) }) (v := undef) rfl (by kernel_rfl) (by kernel_rfl) (by kernel_rfl) (fun _ _ _ h => h) (Or.inr ⟨by rfl, rfl⟩) (by assumption) ?_
        simp only [Act.put, List.setIfInBounds_toArray, List.set_cons_zero, List.set_cons_succ]
        refine wpAnyH_take (i := 7) (oi := { dst := some 37, op := Go.Op.move (Go.Operand.tmp 7), type := 27, pos := "law.go:64", after := #[{ on := 5, ground := Go.Ground.guard }], guard := some (5, true) }) (v := undef) rfl (by kernel_rfl) (by kernel_rfl) (by kernel_rfl) (fun _ _ _ h => h) (Or.inr ⟨by rfl, rfl⟩) (by assumption) ?_
        simp only [Act.put, List.setIfInBounds_toArray, List.set_cons_zero, List.set_cons_succ]
        refine wpAnyH_take (i := 8) (oi := { dst := some 38, op := Go.Op.call { callee := Go.Callee.builtin Go.Builtin.len, args := #[Go.Operand.tmp 37], argTypes := #[27] }, type := 3, pos := "law.go:64", after := #[{ on := 7, ground := Go.Ground.data }, { on := 5, ground := Go.Ground.guard }], guard := some (5, true) }) (v := undef) rfl (by kernel_rfl) (by kernel_rfl) (by kernel_rfl) (fun _ _ _ h => h) (Or.inr ⟨by rfl, rfl⟩) (by assumption) ?_
        simp only [Act.put, List.setIfInBounds_toArray, List.set_cons_zero, List.set_cons_succ]
        refine wpAnyH_take (i := 9) (oi := { dst := some 39, op := Go.Op.move (Go.Operand.tmp 8), type := 27, pos := "law.go:64", after := #[{ on := 5, ground := Go.Ground.guard }], guard := some (5, true) }) (v := undef) rfl (by kernel_rfl) (by kernel_rfl) (by kernel_rfl) (fun _ _ _ h => h) (Or.inr ⟨by rfl, rfl⟩) (by assumption) ?_
        simp only [Act.put, List.setIfInBounds_toArray, List.set_cons_zero, List.set_cons_succ]
        refine wpAnyH_take (i := 10) (oi := { dst := some 40, op := Go.Op.call { callee := Go.Callee.builtin Go.Builtin.len, args := #[Go.Operand.tmp 39], argTypes := #[27] }, type := 3, pos := "law.go:64", after := #[{ on := 9, ground := Go.Ground.data }, { on := 5, ground := Go.Ground.guard }], guard := some (5, true) }) (v := undef) rfl (by kernel_rfl) (by kernel_rfl) (by kernel_rfl) (fun _ _ _ h => h) (Or.inr ⟨by rfl, rfl⟩) (by assumption) ?_
        simp only [Act.put, List.setIfInBounds_toArray, List.set_cons_zero, List.set_cons_succ]
        refine wpAnyH_take (i := 11) (oi := { dst := some 41, op := Go.Op.call { callee := Go.Callee.builtin Go.Builtin.min, args := #[Go.Operand.tmp 38, Go.Operand.tmp 40], argTypes := #[3, 3] }, type := 3, pos := "law.go:64", after := #[{ on := 8, ground := Go.Ground.data }, { on := 10, ground := Go.Ground.data }, { on := 5, ground := Go.Ground.guard }], guard := some (5, true) }) (v := undef) rfl (by kernel_rfl) (by kernel_rfl) (by kernel_rfl) (fun _ _ _ h => h) (Or.inr ⟨by rfl, rfl⟩) (by assumption) ?_
        simp only [Act.put, List.setIfInBounds_toArray, List.set_cons_zero, List.set_cons_succ]
        refine wpAnyH_take (i := 12) (oi := { dst := some 42, op := Go.Op.slice 27 (Go.Operand.tmp 36) none (some (Go.Operand.tmp 41)) none, type := 27, pos := "law.go:64", after := #[{ on := 6, ground := Go.Ground.data }, { on := 11, ground := Go.Ground.data }, { on := 5, ground := Go.Ground.guard }], guard := some (5, true) }) (v := undef) rfl (by kernel_rfl) (by kernel_rfl) (by kernel_rfl) (fun _ _ _ h => h) (Or.inr ⟨by rfl, rfl⟩) (by assumption) ?_
        simp only [Act.put, List.setIfInBounds_toArray, List.set_cons_zero, List.set_cons_succ]
        refine wpAnyH_take (i := 13) (oi := { dst := some 43, op := Go.Op.convert 27 9 (Go.Operand.tmp 42), type := 9, pos := "law.go:64", after := #[{ on := 12, ground := Go.Ground.data }, { on := 5, ground := Go.Ground.guard }], guard := some (5, true) }) (v := undef) rfl (by kernel_rfl) (by kernel_rfl) (by kernel_rfl) (fun _ _ _ h => h) (Or.inr ⟨by rfl, rfl⟩) (by assumption) ?_
        simp only [Act.put, List.setIfInBounds_toArray, List.set_cons_zero, List.set_cons_succ]
        refine wpAnyH_take (i := 14) (oi := { dst := some 44, op := Go.Op.move (Go.Operand.tmp 7), type := 27, pos := "law.go:64", after := #[{ on := 5, ground := Go.Ground.guard }], guard := some (5, true) }) (v := undef) rfl (by kernel_rfl) (by kernel_rfl) (by kernel_rfl) (fun _ _ _ h => h) (Or.inr ⟨by rfl, rfl⟩) (by assumption) ?_
        simp only [Act.put, List.setIfInBounds_toArray, List.set_cons_zero, List.set_cons_succ]
        refine wpAnyH_take (i := 15) (oi := { dst := some 45, op := Go.Op.convert 27 9 (Go.Operand.tmp 44), type := 9, pos := "law.go:64", after := #[{ on := 14, ground := Go.Ground.data }, { on := 5, ground := Go.Ground.guard }], guard := some (5, true) }) (v := undef) rfl (by kernel_rfl) (by kernel_rfl) (by kernel_rfl) (fun _ _ _ h => h) (Or.inr ⟨by rfl, rfl⟩) (by assumption) ?_
        simp only [Act.put, List.setIfInBounds_toArray, List.set_cons_zero, List.set_cons_succ]
        refine wpAnyH_take (i := 16) (oi := { dst := some 46, op := Go.Op.binOp Go.BinOp.eql 9 (Go.Operand.tmp 43) (Go.Operand.tmp 45) 9, type := 4, pos := "law.go:64", after := #[{ on := 13, ground := Go.Ground.data }, { on := 15, ground := Go.Ground.data }, { on := 5, ground := Go.Ground.guard }], guard := some (5, true) }) (v := undef) rfl (by kernel_rfl) (by kernel_rfl) (by kernel_rfl) (fun _ _ _ h => h) (Or.inr ⟨by rfl, rfl⟩) (by assumption) ?_
        simp only [Act.put, List.setIfInBounds_toArray, List.set_cons_zero, List.set_cons_succ]
        refine wpAnyH_take (i := 17) (oi := { dst := some 47, op := Go.Op.pick (Go.Operand.tmp 35) (Go.Operand.tmp 46) (Go.Operand.const (Go.Value.bool false)), type := 4, pos := "law.go:64", after := #[{ on := 5, ground := Go.Ground.data }, { on := 16, ground := Go.Ground.data }], guard := none }) (v := ?_) rfl (by kernel_rfl) (by kernel_rfl) (by kernel_rfl) (fun _ _ _ h => h) (Or.inl ⟨by rfl, ?_⟩) (by assumption) ?_
        rotate_left
        · intro w hSw
          (try dsimp only at hSw)
          go_simp
          try with_reducible rfl
        simp only [Act.put, List.setIfInBounds_toArray, List.set_cons_zero, List.set_cons_succ]
        refine wpAnyH_take (i := 18) (oi := { dst := some 9, op := Go.Op.assign (Go.Operand.tmp 47), type := 4, pos := "law.go:64", after := #[{ on := 17, ground := Go.Ground.data }, { on := 5, ground := Go.Ground.chain }, { on := 0, ground := Go.Ground.phase }, { on := 1, ground := Go.Ground.phase }, { on := 2, ground := Go.Ground.phase }, { on := 3, ground := Go.Ground.phase }, { on := 4, ground := Go.Ground.phase }, { on := 5, ground := Go.Ground.phase }, { on := 6, ground := Go.Ground.phase }, { on := 7, ground := Go.Ground.phase }, { on := 8, ground := Go.Ground.phase }, { on := 9, ground := Go.Ground.phase }, { on := 10, ground := Go.Ground.phase }, { on := 11, ground := Go.Ground.phase }, { on := 12, ground := Go.Ground.phase }, { on := 13, ground := Go.Ground.phase }, { on := 14, ground := Go.Ground.phase }, { on := 15, ground := Go.Ground.phase }, { on := 16, ground := Go.Ground.phase }, { on := 17, ground := Go.Ground.phase }], guard := none }) (v := ?_) rfl (by kernel_rfl) (by kernel_rfl) (by kernel_rfl) (fun _ _ _ h => h) (Or.inl ⟨by rfl, ?_⟩) (by assumption) ?_
        rotate_left
        · intro w hSw
          (try dsimp only at hSw)
          go_simp
          try with_reducible rfl
        simp only [Act.put, List.setIfInBounds_toArray, List.set_cons_zero, List.set_cons_succ]
        refine wpAnyH_done (by kernel_rfl) ?_ _
        have p0 : wc.drew.cell? ⟨w5.heap.size, 0, none⟩ = some (.int .i64 it1) := HC1.out _ hdr 0 (by omega)
        have p1 : wc.drew.cell? ⟨w5.heap.size, 1, none⟩ = some (.int .i64 L1) := HC1.out _ hdr 1 (by omega)
        have p2 : wc.drew.cell? ⟨w5.heap.size, 2, none⟩ = some (.int .i64 R1) := HC1.out _ hdr 2 (by omega)
        have p3 : wc.drew.cell? ⟨w5.heap.size, 3, none⟩ = some (.int .i64 N1) := HC1.out _ hdr 3 (by omega)
        have p4 : wc.drew.cell? ⟨w5.heap.size, 4, none⟩ = some (.bool dead1) := HC1.out _ hdr 4 (by omega)
        have p5 : wc.drew.cell? ⟨w5.heap.size, 5, none⟩ = some (.slice ao1 len1 cap1) := HC1.out _ hdr 5 (by omega)
        have p6 : wc.drew.cell? ⟨w5.heap.size, 6, none⟩ = some (.string tag1) := HC1.out _ hdr 6 (by omega)
        have p7 : wc.drew.cell? ⟨w5.heap.size, 7, none⟩ = some (.string body1) := HC1.out _ hdr 7 (by omega)
        have q0 : wc.drew.cell? ⟨w5.heap.size + 1, 0, none⟩ = some (.int .i64 it2) := HC2.out _ hdr 0 (by omega)
        have q1 : wc.drew.cell? ⟨w5.heap.size + 1, 1, none⟩ = some (.int .i64 L2) := HC2.out _ hdr 1 (by omega)
        have q2 : wc.drew.cell? ⟨w5.heap.size + 1, 2, none⟩ = some (.int .i64 R2) := HC2.out _ hdr 2 (by omega)
        have q3 : wc.drew.cell? ⟨w5.heap.size + 1, 3, none⟩ = some (.int .i64 N2) := HC2.out _ hdr 3 (by omega)
        have q4 : wc.drew.cell? ⟨w5.heap.size + 1, 4, none⟩ = some (.bool dead2) := HC2.out _ hdr 4 (by omega)
        have q5 : wc.drew.cell? ⟨w5.heap.size + 1, 5, none⟩ = some (.slice ao2 len2 cap2) := HC2.out _ hdr 5 (by omega)
        have q6 : wc.drew.cell? ⟨w5.heap.size + 1, 6, none⟩ = some (.string tag2) := HC2.out _ hdr 6 (by omega)
        have q7 : wc.drew.cell? ⟨w5.heap.size + 1, 7, none⟩ = some (.string body2) := HC2.out _ hdr 7 (by omega)
        have c9 := HS.out wc.drew (bel_tr hdr HC.out.2.2.1)
        try clear hHeld
        go_wp2_with fail
        refine c9.mono ?_
        rintro r w9 ⟨rfl, hb9⟩
        have HB9 : Hid (Below w.heap.size w w9) := bel_tr hb9 (bel_tr hdr HC.out.2.2.2)
        clear c9 hb9 p0 p1 p2 p3 p4 p5 p6 p7 q0 q1 q2 q3 q4 q5 q6 q7
        go_wp2
        go_ret
        exact ⟨rfl, HB9.out⟩

set_option maxHeartbeats 1000000 in
theorem apart5_long (a b : Addr) (po : Option Addr) (pn pc : Nat) (ao : Option Addr) (n cap : Nat) (w : World) (hV : Vars w a b) (h : 20 < pn ∨ 20 < n) (h1 : pn ≤ maxLen) (h2 : n ≤ maxLen) :
    Calls Tryd.prog 5 #[.slice po pn pc, .slice ao n cap] w fun r w' => r = .returned (.bool true) ∧ Below w.heap.size w w' := by
  have c1 := begun7 a b w hV
  clear hV
  by_cases h1 : 20 < pn
  · have hs1 : (20 : Int) < pn := by omega
    have hs2 : decide ((20 : Int) < (pn : Int)) = true := decide_eq_true hs1
    have hs3 : decide (20 < pn) = true := decide_eq_true h1
    go_enter Tryd.func5, Tryd.ntmps5
    go_wp2_with fail
    refine c1.mono ?_
    rintro r w1 ⟨rfl, hb1⟩
    have HB1 : Hid (Below w.heap.size w w1) := hb1
    clear c1 hb1
    go_wp2
    go_ret
    exact ⟨rfl, HB1.out⟩
  · have hs1 : ¬ (20 : Int) < pn := by omega
    have hs2 : decide ((20 : Int) < (pn : Int)) = false := decide_eq_false hs1
    have hs3 : decide (20 < pn) = false := decide_eq_false h1
    have h2 : 20 < n := by omega
    have hn1 : (20 : Int) < n := by omega
    have hn2 : decide ((20 : Int) < (n : Int)) = true := decide_eq_true hn1
    have hn3 : decide (20 < n) = true := decide_eq_true h2
    clear h
    go_enter Tryd.func5, Tryd.ntmps5
    go_wp2_with fail
    refine c1.mono ?_
    rintro r w1 ⟨rfl, hb1⟩
    have HB1 : Hid (Below w.heap.size w w1) := hb1
    clear c1 hb1
    go_wp2
    go_ret
    exact ⟨rfl, HB1.out⟩

/-- VputApart. -/
theorem apart5 (a b : Addr) (po : Option Addr) (pn pc : Nat) (pl : List Nat) (ao : Option Addr) (n cap : Nat) (l : List Nat) (w : World) (hV : Vars w a b) (hp : Rb w po pn pc pl) (hr : Rb w ao n cap l) :
    Calls Tryd.prog 5 #[.slice po pn pc, .slice ao n cap] w fun r w' => r = .returned (.bool true) ∧ Below w.heap.size w w' := by
  by_cases h : 20 < pn ∨ 20 < n
  · exact apart5_long a b po pn pc ao n cap w hV h (Nat.le_trans hp.le hp.max) (Nat.le_trans hr.le hr.max)
  · exact apart5_short a b po pn pc pl ao n cap l w hV hp (by omega) hr (by omega)

end Go.Proofs.YtopkeembbopbmaaDoor
