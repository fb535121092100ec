/- VputAll: how versions are bytes, and which bytes are versions. -/
import Derived.Test.YtopkeembbopbmaaDoorApt
import Derived.Test.YtopkeembbopbmaaDoorRtk
import Derived.Test.YtopkeembbopbmaaDoorLet
namespace Go.Proofs.YtopkeembbopbmaaDoor
open Go.RowKit
set_option maxRecDepth 100000
set_option linter.unusedVariables false

theorem rb_seven (W : World) : Rb (W.alloc (.cells #[.int .u8 7] 5)) (some ⟨W.heap.size, 0, none⟩) 1 1 [7] :=
  ⟨by simp, rfl, Nat.le_refl _, by decide, fun h => (by cases h), fun _ => ⟨W.heap.size, 0, rfl, fun j hj => by
    obtain rfl : j = 0 := by omega
    simp⟩⟩

/-- What a taking of these bytes tells. -/
def TP (l : List Nat) (u : Vn) (al : List (Int × Int)) (m : Nat) (ok : Bool) : Prop :=
  match tvP mayN l with
  | some (V, n) => ok = true ∧ m = n ∧ Parts u al V ∧ mayI u al = true
  | none => ok = false ∧ m = 0 ∧ u = ⟨0, 0, 0, 0, false, none, 0, 0, ⟨#[]⟩, ⟨#[]⟩⟩ ∧ al = []

/-- Two takings of the same bytes are alike. -/
theorem tp_same {l : List Nat} {u v : Vn} {al bl' : List (Int × Int)} {m m' : Nat} {ok ok' : Bool} (h : TP l u al m ok) (k : TP l v bl' m' ok') : m = m' ∧ ok = ok' ∧ sm u al v bl' = true := by
  unfold TP at h k
  cases e : tvP mayN l with
  | none =>
    rw [e] at h k
    obtain ⟨rfl, rfl, rfl, rfl⟩ := h
    obtain ⟨rfl, rfl, rfl, rfl⟩ := k
    exact ⟨rfl, rfl, rfl⟩
  | some q =>
    obtain ⟨V, z⟩ := q
    rw [e] at h k
    obtain ⟨rfl, rfl, hp, _⟩ := h
    obtain ⟨rfl, rfl, kp, _⟩ := k
    exact ⟨rfl, rfl, sm_parts hp kp⟩

set_option maxHeartbeats 8000000 in
theorem all3 (a b : Addr) (u : Vn) (po : Option Addr) (pn pc : Nat) (pl : List Nat) (ao : Option Addr) (n cap : Nat) (l : List Nat) (w : World) (hV : Vars w a b) (h1 : u.len ≤ maxLen) (h2 : u.tag.size ≤ maxLen) (h3 : u.body.size ≤ maxLen) (hu : u.len ≤ 1000 → ∃ al, Has w u al) (hp : Rb w po pn pc pl) (hr : Rb w ao n cap l) :
    Calls Tryd.prog 3 #[u.val, .slice po pn pc, .slice ao n cap] w fun r w' => r = .returned (.bool true) ∧ Below w.heap.size w w' := by
  obtain ⟨Y0, hY0⟩ : ∃ Y, Y = w.alloc (.cells (vcells u) 26) := ⟨_, rfl⟩
  have hb0 : Below w.heap.size w Y0 := by rw [hY0]; exact (Below.refl _ w).alloc (Nat.le_refl _) _
  have hc0 : ∀ j, j < 8 → Y0.cell? ⟨w.heap.size, j, none⟩ = (vcells u)[j]? := by
    intro j hj
    rw [hY0, World.cell?_alloc_at _ _ _ _ rfl]
  have hs0 : w.heap.size < Y0.heap.size := by rw [hY0]; simp
  have c1 := begun7 a b Y0 (hV.below hb0)
  have HV : Hid (Vars w a b) := hV
  have HR : Hid (Rb w ao n cap l) := hr
  have HP : Hid (Rb w po pn pc pl) := hp
  have HY0 : Hid (Y0 = w.alloc (.cells (vcells u) 26) ∧ Below w.heap.size w Y0 ∧ ∀ j, j < 8 → Y0.cell? ⟨w.heap.size, j, none⟩ = (vcells u)[j]?) := ⟨hY0, hb0, hc0⟩
  have c2 := fun W => light8 u W h1 h2 h3
  have HL : Hid (lightI u = true → u.len ≤ 6 ∧ u.tag.size ≤ 12 ∧ u.body.size ≤ 30) := by
    show _ → _
    intro h
    unfold lightI at h
    simp only [Bool.and_eq_true, decide_eq_true_eq] at h
    exact ⟨h.1, h.2.1, h.2.2⟩
  have HU : Hid (u.len ≤ 1000 → ∃ al, Has w u al) := hu
  generalize lightI u = li at c2 HL
  clear hV hr hp hY0 hb0 hc0 hu h1 h2 h3
  obtain ⟨it0, L0, R0, N0, dead0, ao0, len0, cap0, tag0, body0⟩ := u
  unfold Vn.val at c2 ⊢
  simp only at c2 HL HU ⊢
  unfold vcells at HY0
  simp only at HY0
  go_enter Tryd.func3, Tryd.ntmps3
  go_wp2_with fail
  rw [← HY0.out.1]
  refine c1.mono ?_
  rintro r w1 ⟨rfl, hb1⟩
  have HB1 : Hid (Below Y0.heap.size Y0 w1 ∧ Below w.heap.size w w1) := ⟨hb1, HY0.out.2.1.trans (hb1.mono HY0.out.2.1.size)⟩
  have HC0 : Hid (∀ W, Below w1.heap.size w1 W → ∀ j, j < 8 → W.cell? ⟨w.heap.size, j, none⟩ = (vcells ⟨it0, L0, R0, N0, dead0, ao0, len0, cap0, tag0, body0⟩)[j]?) := fun W hW j hj => ((hW.cell (p := ⟨w.heap.size, j, none⟩) (Nat.lt_of_lt_of_le hs0 hb1.size)).trans (hb1.cell (p := ⟨w.heap.size, j, none⟩) hs0)).trans (HY0.out.2.2 j hj)
  have y0 : w1.cell? ⟨w.heap.size, 0, none⟩ = some (.int .i64 it0) := HC0.out w1 (Below.refl _ _) 0 (by omega)
  have y1 : w1.cell? ⟨w.heap.size, 1, none⟩ = some (.int .i64 L0) := HC0.out w1 (Below.refl _ _) 1 (by omega)
  have y2 : w1.cell? ⟨w.heap.size, 2, none⟩ = some (.int .i64 R0) := HC0.out w1 (Below.refl _ _) 2 (by omega)
  have y3 : w1.cell? ⟨w.heap.size, 3, none⟩ = some (.int .i64 N0) := HC0.out w1 (Below.refl _ _) 3 (by omega)
  have y4 : w1.cell? ⟨w.heap.size, 4, none⟩ = some (.bool dead0) := HC0.out w1 (Below.refl _ _) 4 (by omega)
  have y5 : w1.cell? ⟨w.heap.size, 5, none⟩ = some (.slice ao0 len0 cap0) := HC0.out w1 (Below.refl _ _) 5 (by omega)
  have y6 : w1.cell? ⟨w.heap.size, 6, none⟩ = some (.string tag0) := HC0.out w1 (Below.refl _ _) 6 (by omega)
  have y7 : w1.cell? ⟨w.heap.size, 7, none⟩ = some (.string body0) := HC0.out w1 (Below.refl _ _) 7 (by omega)
  clear c1 hb1
  go_wp2_with fail
  refine (c2 _).mono ?_
  rintro r w2 ⟨rfl, hb2⟩
  have HB2 : Hid (Below w1.heap.size w1 w2 ∧ Below w.heap.size w w2) := ⟨hb2, HB1.out.2.trans (hb2.mono HB1.out.2.size)⟩
  clear c2 hb2 y0 y1 y2 y3 y4 y5 y6 y7
  cases li with
  | false =>
    go_wp2
    go_ret
    exact ⟨rfl, HB2.out.2⟩
  | true =>
  by_cases hpn : pn ≤ 20
  · have hp1 : ¬ (20 : Int) < pn := by omega
    have hp2 : decide ((20 : Int) < (pn : Int)) = false := decide_eq_false hp1
    have hp3 : decide (20 < pn) = false := decide_eq_false (by omega)
    by_cases hn : n ≤ 60
    · have hn1 : ¬ (60 : Int) < n := by omega
      have hn2 : decide ((60 : Int) < (n : Int)) = false := decide_eq_false hn1
      have hn3 : decide (60 < n) = false := decide_eq_false (by omega)
      have c3 := made10 po pn pc w2
      have hpk := pick_made (cap := pc) (reads_rb (HP.out.kept HB2.out.2)) (by omega)
      have HPK : Hid (Pick (w2.alloc (.cells #[.slice po pn pc, .int .i64 0] 44)) w2.heap.size) := hpk
      clear hpk
      go_wp2_with fail
      refine c3.mono ?_
      rintro r w3 ⟨rfl, rfl⟩
      have c4 := version10 w2.heap.size _ HPK.out
      clear c3
      go_wp2_with fail
      refine c4.mono ?_
      rintro r w4 ⟨v, al, rfl, ⟨hv, _⟩, hm, hw⟩
      have hb4 : Below w2.heap.size w2 w4 := went_below hw
      have HB4 : Hid (Below w1.heap.size w1 w4 ∧ Below w.heap.size w w4) := ⟨HB2.out.1.trans (hb4.mono HB2.out.1.size), HB2.out.2.trans (hb4.mono HB2.out.2.size)⟩
      obtain ⟨Y1, hY1⟩ : ∃ Y, Y = w4.alloc (.cells (vcells v) 26) := ⟨_, rfl⟩
      have hbY1 : Below w4.heap.size w4 Y1 := by rw [hY1]; exact (Below.refl _ w4).alloc (Nat.le_refl _) _
      have hcY1 : ∀ j, j < 8 → Y1.cell? ⟨w4.heap.size, j, none⟩ = (vcells v)[j]? := by
        intro j hj
        rw [hY1, World.cell?_alloc_at _ _ _ _ rfl]
      have hsY1 : w4.heap.size < Y1.heap.size := by rw [hY1]; simp
      have hbw1 : Below w.heap.size w Y1 := HB4.out.2.trans (hbY1.mono HB4.out.2.size)
      have c5 := take11 a b ao n cap l Y1 (HV.out.below hbw1) (HR.out.kept hbw1) (by omega)
      have HY1 : Hid (Y1 = w4.alloc (.cells (vcells v) 26) ∧ Below w4.heap.size w4 Y1 ∧ Below w.heap.size w Y1 ∧ (∀ j, j < 8 → Y1.cell? ⟨w4.heap.size, j, none⟩ = (vcells v)[j]?)) := ⟨hY1, hbY1, hbw1, hcY1⟩
      have HM : Hid (mayI v al = true ∧ Has w4 v al) := ⟨hm, hv⟩
      clear c4 hv hm hw hb4 hY1 hbY1 hcY1 hbw1
      obtain ⟨it1, L1, R1, N1, dead1, ao1, len1, cap1, tag1, body1⟩ := v
      unfold Vn.val
      unfold vcells at HY1
      simp only at HY1 ⊢
      go_wp2_with fail
      rw [← HY1.out.1]
      refine c5.mono ?_
      intro r w5 hT
      obtain ⟨u1, al1, m1, ok1, rfl, hx1, _, _, hb5, hT1⟩ := hT
      have HT : Hid (TP l u1 al1 m1 ok1 ∧ Has w5 u1 al1) := ⟨hT1, hx1⟩
      clear hT1 hx1
      have hb5w : Below w.heap.size w w5 := HY1.out.2.2.1.trans (hb5.mono HY1.out.2.2.1.size)
      obtain ⟨Y2, hY2⟩ : ∃ Y, Y = w5.alloc (.cells (vcells u1) 26) := ⟨_, rfl⟩
      have hbY2 : Below w5.heap.size w5 Y2 := by rw [hY2]; exact (Below.refl _ w5).alloc (Nat.le_refl _) _
      have hcY2 : ∀ j, j < 8 → Y2.cell? ⟨w5.heap.size, j, none⟩ = (vcells u1)[j]? := by
        intro j hj
        rw [hY2, World.cell?_alloc_at _ _ _ _ rfl]
      have hsY2 : w5.heap.size < Y2.heap.size := by rw [hY2]; simp
      have hbw2 : Below w.heap.size w Y2 := hb5w.trans (hbY2.mono hb5w.size)
      have c6 := rtake12 ao n cap l Y2 (HR.out.kept hbw2) (by omega)
      have HY2 : Hid (Y2 = w5.alloc (.cells (vcells u1) 26) ∧ Below Y1.heap.size Y1 w5 ∧ Below w5.heap.size w5 Y2 ∧ Below w.heap.size w Y2 ∧ (∀ j, j < 8 → Y2.cell? ⟨w5.heap.size, j, none⟩ = (vcells u1)[j]?)) := ⟨hY2, hb5, hbY2, hbw2, hcY2⟩
      clear c5 hb5 hb5w hY2 hbY2 hcY2 hbw2
      obtain ⟨it2, L2, R2, N2, dead2, ao2, len2, cap2, tag2, body2⟩ := u1
      unfold Vn.val
      unfold vcells at HY2
      simp only at HY2 ⊢
      go_wp2_with fail
      rw [← HY2.out.1]
      refine c6.mono ?_
      intro r w6 hT
      obtain ⟨u2, al2, m2, ok2, rfl, hx2, _, _, hb6, hT2⟩ := hT
      obtain ⟨rfl, rfl, hsm⟩ := tp_same HT.out.1 hT2
      obtain ⟨Y3, hY3⟩ : ∃ Y, Y = w6.alloc (.cells (vcells u2) 26) := ⟨_, rfl⟩
      have hbY3 : Below w6.heap.size w6 Y3 := by rw [hY3]; exact (Below.refl _ w6).alloc (Nat.le_refl _) _
      have hcY3 : ∀ j, j < 8 → Y3.cell? ⟨w6.heap.size, j, none⟩ = (vcells u2)[j]? := by
        intro j hj
        rw [hY3, World.cell?_alloc_at _ _ _ _ rfl]
      have hsY3 : w6.heap.size < Y3.heap.size := by rw [hY3]; simp
      have b23 : Below Y2.heap.size Y2 Y3 := bel_tr hbY3 hb6
      have b53 : Below w5.heap.size w5 Y3 := bel_tr b23 HY2.out.2.2.1
      have b13 : Below Y1.heap.size Y1 Y3 := bel_tr b53 HY2.out.2.1
      have b43 : Below w4.heap.size w4 Y3 := bel_tr b13 HY1.out.2.1
      have b03 : Below w1.heap.size w1 Y3 := bel_tr b43 HB4.out.1
      have bw3 : Below w.heap.size w Y3 := bel_tr b43 HB4.out.2
      have HK0 : Hid (∀ W, Below Y3.heap.size Y3 W → ∀ j, j < 8 → W.cell? ⟨w.heap.size, j, none⟩ = (vcells ⟨it0, L0, R0, N0, dead0, ao0, len0, cap0, tag0, body0⟩)[j]?) := fun W hW j hj => HC0.out W (bel_tr hW b03) j hj
      have HK1 : Hid (∀ W, Below Y3.heap.size Y3 W → ∀ j, j < 8 → W.cell? ⟨w4.heap.size, j, none⟩ = (vcells ⟨it1, L1, R1, N1, dead1, ao1, len1, cap1, tag1, body1⟩)[j]?) := fun W hW j hj => ((bel_tr hW b13).cell (p := ⟨w4.heap.size, j, none⟩) hsY1).trans (HY1.out.2.2.2 j hj)
      have HK2 : Hid (∀ W, Below Y3.heap.size Y3 W → ∀ j, j < 8 → W.cell? ⟨w5.heap.size, j, none⟩ = (vcells ⟨it2, L2, R2, N2, dead2, ao2, len2, cap2, tag2, body2⟩)[j]?) := fun W hW j hj => ((bel_tr hW b23).cell (p := ⟨w5.heap.size, j, none⟩) hsY2).trans (HY2.out.2.2.2.2 j hj)
      have HK3 : Hid (∀ W, Below Y3.heap.size Y3 W → ∀ j, j < 8 → W.cell? ⟨w6.heap.size, j, none⟩ = (vcells u2)[j]?) := fun W hW j hj => (hW.cell (p := ⟨w6.heap.size, j, none⟩) hsY3).trans (hcY3 j hj)
      have bm := (may_parts HM.out.1).2.2.2.2.2.2.2.2.2.2
      simp only at bm
      have hll := HL.out (by first | rfl | trivial)
      obtain ⟨ul, hul⟩ := HU.out (by omega)
      obtain ⟨PV, hPV⟩ : ∃ P, P = ([] : List Nat) ++ vb ⟨it1, L1, R1, N1, dead1, ao1, len1, cap1, tag1, body1⟩ al := ⟨_, rfl⟩
      obtain ⟨PU, hPU⟩ : ∃ P, P = ([7] : List Nat) ++ vb ⟨it0, L0, R0, N0, dead0, ao0, len0, cap0, tag0, body0⟩ ul := ⟨_, rfl⟩
      have HQ13 : Hid (∀ W, Below Y3.heap.size Y3 W → Calls Tryd.prog 13 #[.slice none 0 0, .agg #[.int .i64 it1, .int .i64 L1, .int .i64 R1, .int .i64 N1, .bool dead1, .slice ao1 len1 cap1, .string tag1, .string body1]] W fun e w' => ∃ xo N xc, e = .returned (.slice xo N xc) ∧ Rb w' xo N xc PV ∧ Below W.heap.size W w') := by
        show ∀ W, _ → _
        intro W hW
        rw [hPV]
        exact put13 a b none 0 0 [] ⟨it1, L1, R1, N1, dead1, ao1, len1, cap1, tag1, body1⟩ al W (HV.out.below (bel_tr hW bw3)) (Rb.none _) (by omega) (At.kept HM.out.2 (bel_tr hW b43)) (Nat.le_trans bm.1 (by decide)) (Nat.le_trans bm.2 (by decide))
      have HQ14 : Hid (∀ W, Below Y3.heap.size Y3 W → Calls Tryd.prog 14 #[.slice none 0 0, .agg #[.int .i64 it1, .int .i64 L1, .int .i64 R1, .int .i64 N1, .bool dead1, .slice ao1 len1 cap1, .string tag1, .string body1]] W fun e w' => ∃ xo N xc, e = .returned (.slice xo N xc) ∧ Rb w' xo N xc PV ∧ Below W.heap.size W w') := by
        show ∀ W, _ → _
        intro W hW
        rw [hPV]
        exact rput14 none 0 0 [] ⟨it1, L1, R1, N1, dead1, ao1, len1, cap1, tag1, body1⟩ al W (Rb.none _) (by omega) (At.kept HM.out.2 (bel_tr hW b43)) (Nat.le_trans bm.1 (by decide)) (Nat.le_trans bm.2 (by decide))
      have HR13 : Hid (∀ W so, Below Y3.heap.size Y3 W → Rb W so 1 1 [7] → Calls Tryd.prog 13 #[.slice so 1 1, .agg #[.int .i64 it0, .int .i64 L0, .int .i64 R0, .int .i64 N0, .bool dead0, .slice ao0 len0 cap0, .string tag0, .string body0]] W fun e w' => ∃ xo N xc, e = .returned (.slice xo N xc) ∧ Rb w' xo N xc PU ∧ Below W.heap.size W w') := by
        show ∀ W so, _ → _ → _
        intro W so hW hs
        rw [hPU]
        exact put13 a b so 1 1 [7] ⟨it0, L0, R0, N0, dead0, ao0, len0, cap0, tag0, body0⟩ ul W (HV.out.below (bel_tr hW bw3)) hs (by omega) (At.kept hul (bel_tr hW bw3)) (Nat.le_trans hll.2.1 (by decide)) (Nat.le_trans hll.2.2 (by decide))
      have HR14 : Hid (∀ W so, Below Y3.heap.size Y3 W → Rb W so 1 1 [7] → Calls Tryd.prog 14 #[.slice so 1 1, .agg #[.int .i64 it0, .int .i64 L0, .int .i64 R0, .int .i64 N0, .bool dead0, .slice ao0 len0 cap0, .string tag0, .string body0]] W fun e w' => ∃ xo N xc, e = .returned (.slice xo N xc) ∧ Rb w' xo N xc PU ∧ Below W.heap.size W w') := by
        show ∀ W so, _ → _ → _
        intro W so hW hs
        rw [hPU]
        exact rput14 so 1 1 [7] ⟨it0, L0, R0, N0, dead0, ao0, len0, cap0, tag0, body0⟩ ul W hs (by omega) (At.kept hul (bel_tr hW bw3)) (Nat.le_trans hll.2.1 (by decide)) (Nat.le_trans hll.2.2 (by decide))
      have HS15 : Hid (∀ W, Below Y3.heap.size Y3 W → Calls Tryd.prog 15 #[.agg #[.int .i64 it2, .int .i64 L2, .int .i64 R2, .int .i64 N2, .bool dead2, .slice ao2 len2 cap2, .string tag2, .string body2], u2.val] W fun r w' => r = .returned (.bool true) ∧ Below W.heap.size W w') := by
        show ∀ W, _ → _
        intro W hW
        rw [← hsm]
        exact same15 ⟨it2, L2, R2, N2, dead2, ao2, len2, cap2, tag2, body2⟩ u2 al1 al2 W (At.kept HT.out.2 (bel_tr hW b53)) (At.kept hx2 (bel_tr hW hbY3))
      have HY3 : Hid (Y3 = w6.alloc (.cells (vcells u2) 26) ∧ Below w.heap.size w Y3) := ⟨hY3, bw3⟩
      clear hPV hPU bm hll hul hsm hx2 hT2 c6 b23 b53 b13 b43 b03 bw3 hbY3 hcY3 hY3 hb6
      obtain ⟨it3, L3, R3, N3, dead3, ao3, len3, cap3, tag3, body3⟩ := u2
      unfold Vn.val at HS15 ⊢
      unfold vcells at HY3 HK0 HK1 HK2 HK3
      simp only at HY3 HS15 HK0 HK1 HK2 HK3 ⊢
      go_wp2_with fail
      rw [← HY3.out.1]
      have hdr : Below Y3.heap.size Y3 Y3.drew := (Below.refl _ Y3).drew
      refine wp_region_held_drew (S := fun W => Below Y3.heap.size Y3 W) (by kernel_rfl) ?_ (fun hHeld => ?_)
      · (try dsimp only)
        exact hdr
      refine wpAnyH_take (i := 0) (oi := { dst := some 44, op := Go.Op.load 26 (Go.Operand.tmp 7), type := 26, pos := "law.go:33", after := #[], guard := none }) (v := ?_) rfl (by kernel_rfl) (by kernel_rfl) (by kernel_rfl) (fun _ _ _ h => h) (Or.inl ⟨by rfl, ?_⟩) (by assumption) ?_
      rotate_left
      · intro W7 hSw
        (try dsimp only at hSw)
        have p0 : W7.cell? ⟨w4.heap.size, 0, none⟩ = some (.int .i64 it1) := HK1.out W7 hSw 0 (by omega)
        have p1 : W7.cell? ⟨w4.heap.size, 1, none⟩ = some (.int .i64 L1) := HK1.out W7 hSw 1 (by omega)
        have p2 : W7.cell? ⟨w4.heap.size, 2, none⟩ = some (.int .i64 R1) := HK1.out W7 hSw 2 (by omega)
        have p3 : W7.cell? ⟨w4.heap.size, 3, none⟩ = some (.int .i64 N1) := HK1.out W7 hSw 3 (by omega)
        have p4 : W7.cell? ⟨w4.heap.size, 4, none⟩ = some (.bool dead1) := HK1.out W7 hSw 4 (by omega)
        have p5 : W7.cell? ⟨w4.heap.size, 5, none⟩ = some (.slice ao1 len1 cap1) := HK1.out W7 hSw 5 (by omega)
        have p6 : W7.cell? ⟨w4.heap.size, 6, none⟩ = some (.string tag1) := HK1.out W7 hSw 6 (by omega)
        have p7 : W7.cell? ⟨w4.heap.size, 7, none⟩ = some (.string body1) := HK1.out W7 hSw 7 (by omega)
        go_simp
        try with_reducible rfl
      simp only [Act.put, List.setIfInBounds_toArray, List.set_cons_zero, List.set_cons_succ]
      refine wpAnyH_take (i := 3) (oi := { dst := some 47, op := Go.Op.load 26 (Go.Operand.tmp 7), type := 26, pos := "law.go:33", after := #[], guard := none }) (v := ?_) rfl (by kernel_rfl) (by kernel_rfl) (by kernel_rfl) (fun _ _ _ h => h) (Or.inl ⟨by rfl, ?_⟩) (by assumption) ?_
      rotate_left
      · intro W7 hSw
        (try dsimp only at hSw)
        have p0 : W7.cell? ⟨w4.heap.size, 0, none⟩ = some (.int .i64 it1) := HK1.out W7 hSw 0 (by omega)
        have p1 : W7.cell? ⟨w4.heap.size, 1, none⟩ = some (.int .i64 L1) := HK1.out W7 hSw 1 (by omega)
        have p2 : W7.cell? ⟨w4.heap.size, 2, none⟩ = some (.int .i64 R1) := HK1.out W7 hSw 2 (by omega)
        have p3 : W7.cell? ⟨w4.heap.size, 3, none⟩ = some (.int .i64 N1) := HK1.out W7 hSw 3 (by omega)
        have p4 : W7.cell? ⟨w4.heap.size, 4, none⟩ = some (.bool dead1) := HK1.out W7 hSw 4 (by omega)
        have p5 : W7.cell? ⟨w4.heap.size, 5, none⟩ = some (.slice ao1 len1 cap1) := HK1.out W7 hSw 5 (by omega)
        have p6 : W7.cell? ⟨w4.heap.size, 6, none⟩ = some (.string tag1) := HK1.out W7 hSw 6 (by omega)
        have p7 : W7.cell? ⟨w4.heap.size, 7, none⟩ = some (.string body1) := HK1.out W7 hSw 7 (by omega)
        go_simp
        try with_reducible rfl
      simp only [Act.put, List.setIfInBounds_toArray, List.set_cons_zero, List.set_cons_succ]
      refine wpAnyH_ready (rs := [1]) (by kernel_rfl) (by simp) ?_
      refine AllReadyH.cons (o := { dst := some 45, op := Go.Op.call { callee := Go.Callee.value (Go.Operand.func 13), args := #[Go.Operand.const (Go.Value.slice none 0 0), Go.Operand.tmp 44], argTypes := #[27, 26] }, type := 27, pos := "law.go:33", after := #[{ on := 0, ground := Go.Ground.data }], guard := none }) rfl (fun K hK => ?_) AllReadyH.nil
      go_simp
      refine (HQ13.out _ hdr).mono ?_
      rintro r W2 ⟨xoW2, xnW2, xcW2, rfl, hrx, hbx⟩
      have hsW2 : Below Y3.drew.heap.size Y3.drew W2 := hbx
      have hqW2 : Below Y3.heap.size Y3 W2 := bel_tr hbx hdr
      have cvW2 : ∀ W, Below W2.heap.size W2 W → (convert 27 9 (.slice xoW2 xnW2 xcW2)).run Tryd.prog W = .ok (.string (strs PV)) W := fun W hW => conv_rb (hrx.kept hW)
      clear hrx hbx
      refine hK.out _ _ ?_ (fun hHeld => ?_)
      · (try dsimp only)
        exact hqW2
      clear hK K hHeld
      try simp only [Act.put, List.setIfInBounds_toArray, List.set_cons_zero, List.set_cons_succ]
      refine wpAnyH_strong (S' := fun W => Below W2.heap.size W2 W) (fun W h => bel_tr h hqW2) _ _ _ _ ?_
      have hHeld : Below W2.heap.size W2 W2 := Below.refl _ _
      refine wpAnyH_take (i := 2) (oi := { dst := some 46, op := Go.Op.convert 27 9 (Go.Operand.tmp 45), type := 9, pos := "law.go:33", after := #[{ on := 1, ground := Go.Ground.data }], guard := none }) (v := ?_) rfl (by kernel_rfl) (by kernel_rfl) (by kernel_rfl) (fun _ _ _ h => h) (Or.inl ⟨by rfl, ?_⟩) (by assumption) ?_
      rotate_left
      · intro W7 hSw
        (try dsimp only at hSw)
        go_simp
        try with_reducible rfl
      simp only [Act.put, List.setIfInBounds_toArray, List.set_cons_zero, List.set_cons_succ]
      refine wpAnyH_ready (rs := [4]) (by kernel_rfl) (by simp) ?_
      refine AllReadyH.cons (o := { dst := some 48, op := Go.Op.call { callee := Go.Callee.value (Go.Operand.func 14), args := #[Go.Operand.const (Go.Value.slice none 0 0), Go.Operand.tmp 47], argTypes := #[27, 26] }, type := 27, pos := "law.go:33", after := #[{ on := 3, ground := Go.Ground.data }, { on := 1, ground := Go.Ground.chain }], guard := none }) rfl (fun K hK => ?_) AllReadyH.nil
      go_simp
      refine (HQ14.out _ hqW2).mono ?_
      rintro r W3 ⟨xoW3, xnW3, xcW3, rfl, hrx, hbx⟩
      have hsW3 : Below W2.heap.size W2 W3 := hbx
      have hqW3 : Below Y3.heap.size Y3 W3 := bel_tr hbx hqW2
      have cvW3 : ∀ W, Below W3.heap.size W3 W → (convert 27 9 (.slice xoW3 xnW3 xcW3)).run Tryd.prog W = .ok (.string (strs PV)) W := fun W hW => conv_rb (hrx.kept hW)
      clear hrx hbx
      refine hK.out _ _ ?_ (fun hHeld => ?_)
      · (try dsimp only)
        exact hsW3
      clear hK K hHeld
      try simp only [Act.put, List.setIfInBounds_toArray, List.set_cons_zero, List.set_cons_succ]
      refine wpAnyH_strong (S' := fun W => Below W3.heap.size W3 W) (fun W h => bel_tr h hsW3) _ _ _ _ ?_
      have hHeld : Below W3.heap.size W3 W3 := Below.refl _ _
      refine wpAnyH_take (i := 5) (oi := { dst := some 49, op := Go.Op.convert 27 9 (Go.Operand.tmp 48), type := 9, pos := "law.go:33", after := #[{ on := 4, ground := Go.Ground.data }], guard := none }) (v := ?_) rfl (by kernel_rfl) (by kernel_rfl) (by kernel_rfl) (fun _ _ _ h => h) (Or.inl ⟨by rfl, ?_⟩) (by assumption) ?_
      rotate_left
      · intro W7 hSw
        (try dsimp only at hSw)
        go_simp
        try with_reducible rfl
      simp only [Act.put, List.setIfInBounds_toArray, List.set_cons_zero, List.set_cons_succ]
      refine wpAnyH_take (i := 6) (oi := { dst := some 50, op := Go.Op.binOp Go.BinOp.eql 9 (Go.Operand.tmp 46) (Go.Operand.tmp 49) 9, type := 4, pos := "law.go:33", after := #[{ on := 2, ground := Go.Ground.data }, { on := 5, ground := Go.Ground.data }], guard := none }) (v := ?_) rfl (by kernel_rfl) (by kernel_rfl) (by kernel_rfl) (fun _ _ _ h => h) (Or.inl ⟨by rfl, ?_⟩) (by assumption) ?_
      rotate_left
      · intro W7 hSw
        (try dsimp only at hSw)
        go_simp
        try with_reducible rfl
      simp only [Act.put, List.setIfInBounds_toArray, List.set_cons_zero, List.set_cons_succ]
      refine wpAnyH_take (i := 7) (oi := { dst := some 51, op := Go.Op.move (Go.Operand.tmp 50), type := 4, pos := "law.go:33", after := #[{ on := 6, ground := Go.Ground.data }, { on := 4, ground := Go.Ground.chain }], guard := none }) (v := ?_) rfl (by kernel_rfl) (by kernel_rfl) (by kernel_rfl) (fun _ _ _ h => h) (Or.inl ⟨by rfl, ?_⟩) (by assumption) ?_
      rotate_left
      · intro W7 hSw
        (try dsimp only at hSw)
        go_simp
        try with_reducible rfl
      simp only [Act.put, List.setIfInBounds_toArray, List.set_cons_zero, List.set_cons_succ]
      refine wpAnyH_take (i := 9) (oi := { dst := some 53, op := Go.Op.load 26 (Go.Operand.tmp 3), type := 26, pos := "law.go:33", after := #[{ on := 7, ground := Go.Ground.guard }], guard := some (7, true) }) (v := ?_) rfl (by kernel_rfl) (by kernel_rfl) (by kernel_rfl) (fun _ _ _ h => h) (Or.inl ⟨by rfl, ?_⟩) (by assumption) ?_
      rotate_left
      · intro W7 hSw
        (try dsimp only at hSw)
        have p0 : W7.cell? ⟨w.heap.size, 0, none⟩ = some (.int .i64 it0) := HK0.out W7 (bel_tr hSw hqW3) 0 (by omega)
        have p1 : W7.cell? ⟨w.heap.size, 1, none⟩ = some (.int .i64 L0) := HK0.out W7 (bel_tr hSw hqW3) 1 (by omega)
        have p2 : W7.cell? ⟨w.heap.size, 2, none⟩ = some (.int .i64 R0) := HK0.out W7 (bel_tr hSw hqW3) 2 (by omega)
        have p3 : W7.cell? ⟨w.heap.size, 3, none⟩ = some (.int .i64 N0) := HK0.out W7 (bel_tr hSw hqW3) 3 (by omega)
        have p4 : W7.cell? ⟨w.heap.size, 4, none⟩ = some (.bool dead0) := HK0.out W7 (bel_tr hSw hqW3) 4 (by omega)
        have p5 : W7.cell? ⟨w.heap.size, 5, none⟩ = some (.slice ao0 len0 cap0) := HK0.out W7 (bel_tr hSw hqW3) 5 (by omega)
        have p6 : W7.cell? ⟨w.heap.size, 6, none⟩ = some (.string tag0) := HK0.out W7 (bel_tr hSw hqW3) 6 (by omega)
        have p7 : W7.cell? ⟨w.heap.size, 7, none⟩ = some (.string body0) := HK0.out W7 (bel_tr hSw hqW3) 7 (by omega)
        go_simp
        try with_reducible rfl
      simp only [Act.put, List.setIfInBounds_toArray, List.set_cons_zero, List.set_cons_succ]
      refine wpAnyH_take (i := 13) (oi := { dst := some 57, op := Go.Op.load 26 (Go.Operand.tmp 3), type := 26, pos := "law.go:33", after := #[{ on := 7, ground := Go.Ground.guard }], guard := some (7, true) }) (v := ?_) rfl (by kernel_rfl) (by kernel_rfl) (by kernel_rfl) (fun _ _ _ h => h) (Or.inl ⟨by rfl, ?_⟩) (by assumption) ?_
      rotate_left
      · intro W7 hSw
        (try dsimp only at hSw)
        have p0 : W7.cell? ⟨w.heap.size, 0, none⟩ = some (.int .i64 it0) := HK0.out W7 (bel_tr hSw hqW3) 0 (by omega)
        have p1 : W7.cell? ⟨w.heap.size, 1, none⟩ = some (.int .i64 L0) := HK0.out W7 (bel_tr hSw hqW3) 1 (by omega)
        have p2 : W7.cell? ⟨w.heap.size, 2, none⟩ = some (.int .i64 R0) := HK0.out W7 (bel_tr hSw hqW3) 2 (by omega)
        have p3 : W7.cell? ⟨w.heap.size, 3, none⟩ = some (.int .i64 N0) := HK0.out W7 (bel_tr hSw hqW3) 3 (by omega)
        have p4 : W7.cell? ⟨w.heap.size, 4, none⟩ = some (.bool dead0) := HK0.out W7 (bel_tr hSw hqW3) 4 (by omega)
        have p5 : W7.cell? ⟨w.heap.size, 5, none⟩ = some (.slice ao0 len0 cap0) := HK0.out W7 (bel_tr hSw hqW3) 5 (by omega)
        have p6 : W7.cell? ⟨w.heap.size, 6, none⟩ = some (.string tag0) := HK0.out W7 (bel_tr hSw hqW3) 6 (by omega)
        have p7 : W7.cell? ⟨w.heap.size, 7, none⟩ = some (.string body0) := HK0.out W7 (bel_tr hSw hqW3) 7 (by omega)
        go_simp
        try with_reducible rfl
      simp only [Act.put, List.setIfInBounds_toArray, List.set_cons_zero, List.set_cons_succ]
      refine wpAnyH_ready (rs := [8, 12]) (by kernel_rfl) (by simp) ?_
      refine AllReadyH.cons (o := { dst := some 52, op := Go.Op.buildSlice 27 1 #[(0, Go.Operand.const (Go.Value.int Go.IntKind.u8 7))], type := 27, pos := "law.go:33", after := #[{ on := 7, ground := Go.Ground.guard }], guard := some (7, true) }) rfl (fun K hK => ?_) (AllReadyH.cons (o := { dst := some 56, op := Go.Op.buildSlice 27 1 #[(0, Go.Operand.const (Go.Value.int Go.IntKind.u8 7))], type := 27, pos := "law.go:33", after := #[{ on := 7, ground := Go.Ground.guard }], guard := some (7, true) }) rfl (fun K hK => ?_) AllReadyH.nil)
      · go_simp
        obtain ⟨D8, hAD8⟩ : ∃ X, X = W3.alloc (.cells #[.int .u8 7] 5) := ⟨_, rfl⟩
        rw [← hAD8]
        have hsD8 : Below W3.heap.size W3 D8 := by rw [hAD8]; exact (Below.refl _ W3).alloc (Nat.le_refl _) _
        have hqD8 : Below Y3.heap.size Y3 D8 := bel_tr hsD8 hqW3
        have hrD8 : Rb D8 (some ⟨W3.heap.size, 0, none⟩) 1 1 [7] := by rw [hAD8]; exact rb_seven W3
        clear hAD8
        refine hK.out _ _ ?_ (fun hHeld => ?_)
        · (try dsimp only)
          exact hsD8
        clear hK K hHeld
        try simp only [Act.put, List.setIfInBounds_toArray, List.set_cons_zero, List.set_cons_succ]
        refine wpAnyH_strong (S' := fun W => Below D8.heap.size D8 W) (fun W h => bel_tr h hsD8) _ _ _ _ ?_
        have hHeld : Below D8.heap.size D8 D8 := Below.refl _ _
        refine wpAnyH_ready (rs := [10, 12]) (by kernel_rfl) (by simp) ?_
        refine AllReadyH.cons (o := { dst := some 54, op := Go.Op.call { callee := Go.Callee.value (Go.Operand.func 13), args := #[Go.Operand.tmp 52, Go.Operand.tmp 53], argTypes := #[27, 26] }, type := 27, pos := "law.go:33", after := #[{ on := 8, ground := Go.Ground.data }, { on := 9, ground := Go.Ground.data }, { on := 7, ground := Go.Ground.chain }, { on := 7, ground := Go.Ground.guard }], guard := some (7, true) }) rfl (fun K hK => ?_) (AllReadyH.cons (o := { dst := some 56, op := Go.Op.buildSlice 27 1 #[(0, Go.Operand.const (Go.Value.int Go.IntKind.u8 7))], type := 27, pos := "law.go:33", after := #[{ on := 7, ground := Go.Ground.guard }], guard := some (7, true) }) rfl (fun K hK => ?_) AllReadyH.nil)
        · go_simp
          refine (HR13.out _ _ hqD8 hrD8).mono ?_
          rintro r W4 ⟨xoW4, xnW4, xcW4, rfl, hrx, hbx⟩
          have hsW4 : Below D8.heap.size D8 W4 := hbx
          have hqW4 : Below Y3.heap.size Y3 W4 := bel_tr hbx hqD8
          have cvW4 : ∀ W, Below W4.heap.size W4 W → (convert 27 9 (.slice xoW4 xnW4 xcW4)).run Tryd.prog W = .ok (.string (strs PU)) W := fun W hW => conv_rb (hrx.kept hW)
          clear hrx hbx
          refine hK.out _ _ ?_ (fun hHeld => ?_)
          · (try dsimp only)
            exact hsW4
          clear hK K hHeld
          try simp only [Act.put, List.setIfInBounds_toArray, List.set_cons_zero, List.set_cons_succ]
          refine wpAnyH_strong (S' := fun W => Below W4.heap.size W4 W) (fun W h => bel_tr h hsW4) _ _ _ _ ?_
          have hHeld : Below W4.heap.size W4 W4 := Below.refl _ _
          refine wpAnyH_take (i := 11) (oi := { dst := some 55, op := Go.Op.convert 27 9 (Go.Operand.tmp 54), type := 9, pos := "law.go:33", after := #[{ on := 10, ground := Go.Ground.data }, { on := 7, ground := Go.Ground.guard }], guard := some (7, true) }) (v := ?_) rfl (by kernel_rfl) (by kernel_rfl) (by kernel_rfl) (fun _ _ _ h => h) (Or.inl ⟨by rfl, ?_⟩) (by assumption) ?_
          rotate_left
          · intro W7 hSw
            (try dsimp only at hSw)
            go_simp
            try with_reducible rfl
          simp only [Act.put, List.setIfInBounds_toArray, List.set_cons_zero, List.set_cons_succ]
          refine wpAnyH_ready (rs := [12]) (by kernel_rfl) (by simp) ?_
          refine AllReadyH.cons (o := { dst := some 56, op := Go.Op.buildSlice 27 1 #[(0, Go.Operand.const (Go.Value.int Go.IntKind.u8 7))], type := 27, pos := "law.go:33", after := #[{ on := 7, ground := Go.Ground.guard }], guard := some (7, true) }) rfl (fun K hK => ?_) AllReadyH.nil
          go_simp
          obtain ⟨D12, hAD12⟩ : ∃ X, X = W4.alloc (.cells #[.int .u8 7] 5) := ⟨_, rfl⟩
          rw [← hAD12]
          have hsD12 : Below W4.heap.size W4 D12 := by rw [hAD12]; exact (Below.refl _ W4).alloc (Nat.le_refl _) _
          have hqD12 : Below Y3.heap.size Y3 D12 := bel_tr hsD12 hqW4
          have hrD12 : Rb D12 (some ⟨W4.heap.size, 0, none⟩) 1 1 [7] := by rw [hAD12]; exact rb_seven W4
          clear hAD12
          refine hK.out _ _ ?_ (fun hHeld => ?_)
          · (try dsimp only)
            exact hsD12
          clear hK K hHeld
          try simp only [Act.put, List.setIfInBounds_toArray, List.set_cons_zero, List.set_cons_succ]
          refine wpAnyH_strong (S' := fun W => Below D12.heap.size D12 W) (fun W h => bel_tr h hsD12) _ _ _ _ ?_
          have hHeld : Below D12.heap.size D12 D12 := Below.refl _ _
          refine wpAnyH_ready (rs := [14]) (by kernel_rfl) (by simp) ?_
          refine AllReadyH.cons (o := { dst := some 58, op := Go.Op.call { callee := Go.Callee.value (Go.Operand.func 14), args := #[Go.Operand.tmp 56, Go.Operand.tmp 57], argTypes := #[27, 26] }, type := 27, pos := "law.go:33", after := #[{ on := 12, ground := Go.Ground.data }, { on := 13, ground := Go.Ground.data }, { on := 10, ground := Go.Ground.chain }, { on := 7, ground := Go.Ground.guard }], guard := some (7, true) }) rfl (fun K hK => ?_) AllReadyH.nil
          go_simp
          refine (HR14.out _ _ hqD12 hrD12).mono ?_
          rintro r W5 ⟨xoW5, xnW5, xcW5, rfl, hrx, hbx⟩
          have hsW5 : Below D12.heap.size D12 W5 := hbx
          have hqW5 : Below Y3.heap.size Y3 W5 := bel_tr hbx hqD12
          have cvW5 : ∀ W, Below W5.heap.size W5 W → (convert 27 9 (.slice xoW5 xnW5 xcW5)).run Tryd.prog W = .ok (.string (strs PU)) W := fun W hW => conv_rb (hrx.kept hW)
          clear hrx hbx
          refine hK.out _ _ ?_ (fun hHeld => ?_)
          · (try dsimp only)
            exact hsW5
          clear hK K hHeld
          try simp only [Act.put, List.setIfInBounds_toArray, List.set_cons_zero, List.set_cons_succ]
          refine wpAnyH_strong (S' := fun W => Below W5.heap.size W5 W) (fun W h => bel_tr h hsW5) _ _ _ _ ?_
          have hHeld : Below W5.heap.size W5 W5 := Below.refl _ _
          refine wpAnyH_take (i := 15) (oi := { dst := some 59, op := Go.Op.convert 27 9 (Go.Operand.tmp 58), type := 9, pos := "law.go:33", after := #[{ on := 14, ground := Go.Ground.data }, { on := 7, ground := Go.Ground.guard }], guard := some (7, true) }) (v := ?_) rfl (by kernel_rfl) (by kernel_rfl) (by kernel_rfl) (fun _ _ _ h => h) (Or.inl ⟨by rfl, ?_⟩) (by assumption) ?_
          rotate_left
          · intro W7 hSw
            (try dsimp only at hSw)
            go_simp
            try with_reducible rfl
          simp only [Act.put, List.setIfInBounds_toArray, List.set_cons_zero, List.set_cons_succ]
          refine wpAnyH_take (i := 16) (oi := { dst := some 60, op := Go.Op.binOp Go.BinOp.eql 9 (Go.Operand.tmp 55) (Go.Operand.tmp 59) 9, type := 4, pos := "law.go:33", after := #[{ on := 11, ground := Go.Ground.data }, { on := 15, ground := Go.Ground.data }, { on := 7, ground := Go.Ground.guard }], guard := some (7, true) }) (v := ?_) rfl (by kernel_rfl) (by kernel_rfl) (by kernel_rfl) (fun _ _ _ h => h) (Or.inl ⟨by rfl, ?_⟩) (by assumption) ?_
          rotate_left
          · intro W7 hSw
            (try dsimp only at hSw)
            go_simp
            try with_reducible rfl
          simp only [Act.put, List.setIfInBounds_toArray, List.set_cons_zero, List.set_cons_succ]
          refine wpAnyH_take (i := 17) (oi := { dst := some 61, op := Go.Op.pick (Go.Operand.tmp 51) (Go.Operand.tmp 60) (Go.Operand.const (Go.Value.bool false)), type := 4, pos := "law.go:33", after := #[{ on := 7, ground := Go.Ground.data }, { on := 16, ground := Go.Ground.data }], guard := none }) (v := ?_) rfl (by kernel_rfl) (by kernel_rfl) (by kernel_rfl) (fun _ _ _ h => h) (Or.inl ⟨by rfl, ?_⟩) (by assumption) ?_
          rotate_left
          · intro W7 hSw
            (try dsimp only at hSw)
            go_simp
            try with_reducible rfl
          simp only [Act.put, List.setIfInBounds_toArray, List.set_cons_zero, List.set_cons_succ]
          refine wpAnyH_take (i := 18) (oi := { dst := some 62, op := Go.Op.move (Go.Operand.tmp 61), type := 4, pos := "law.go:33", after := #[{ on := 17, ground := Go.Ground.data }, { on := 14, ground := Go.Ground.chain }], guard := none }) (v := ?_) rfl (by kernel_rfl) (by kernel_rfl) (by kernel_rfl) (fun _ _ _ h => h) (Or.inl ⟨by rfl, ?_⟩) (by assumption) ?_
          rotate_left
          · intro W7 hSw
            (try dsimp only at hSw)
            go_simp
            try with_reducible rfl
          simp only [Act.put, List.setIfInBounds_toArray, List.set_cons_zero, List.set_cons_succ]
          refine wpAnyH_take (i := 19) (oi := { dst := some 63, op := Go.Op.move (Go.Operand.tmp 9), type := 3, pos := "law.go:33", after := #[{ on := 18, ground := Go.Ground.guard }], guard := some (18, true) }) (v := ?_) rfl (by kernel_rfl) (by kernel_rfl) (by kernel_rfl) (fun _ _ _ h => h) (Or.inl ⟨by rfl, ?_⟩) (by assumption) ?_
          rotate_left
          · intro W7 hSw
            (try dsimp only at hSw)
            go_simp
            try with_reducible rfl
          simp only [Act.put, List.setIfInBounds_toArray, List.set_cons_zero, List.set_cons_succ]
          refine wpAnyH_take (i := 20) (oi := { dst := some 64, op := Go.Op.move (Go.Operand.tmp 12), type := 3, pos := "law.go:33", after := #[{ on := 18, ground := Go.Ground.guard }], guard := some (18, true) }) (v := ?_) rfl (by kernel_rfl) (by kernel_rfl) (by kernel_rfl) (fun _ _ _ h => h) (Or.inl ⟨by rfl, ?_⟩) (by assumption) ?_
          rotate_left
          · intro W7 hSw
            (try dsimp only at hSw)
            go_simp
            try with_reducible rfl
          simp only [Act.put, List.setIfInBounds_toArray, List.set_cons_zero, List.set_cons_succ]
          refine wpAnyH_take (i := 21) (oi := { dst := some 65, op := Go.Op.binOp Go.BinOp.eql 3 (Go.Operand.tmp 63) (Go.Operand.tmp 64) 3, type := 4, pos := "law.go:33", after := #[{ on := 19, ground := Go.Ground.data }, { on := 20, ground := Go.Ground.data }, { on := 18, ground := Go.Ground.guard }], guard := some (18, true) }) (v := ?_) rfl (by kernel_rfl) (by kernel_rfl) (by kernel_rfl) (fun _ _ _ h => h) (Or.inl ⟨by rfl, ?_⟩) (by assumption) ?_
          rotate_left
          · intro W7 hSw
            (try dsimp only at hSw)
            go_simp
            try with_reducible rfl
          simp only [Act.put, List.setIfInBounds_toArray, List.set_cons_zero, List.set_cons_succ]
          refine wpAnyH_take (i := 22) (oi := { dst := some 66, op := Go.Op.pick (Go.Operand.tmp 62) (Go.Operand.tmp 65) (Go.Operand.const (Go.Value.bool false)), type := 4, pos := "law.go:33", after := #[{ on := 18, ground := Go.Ground.data }, { on := 21, ground := Go.Ground.data }], guard := none }) (v := ?_) rfl (by kernel_rfl) (by kernel_rfl) (by kernel_rfl) (fun _ _ _ h => h) (Or.inl ⟨by rfl, ?_⟩) (by assumption) ?_
          rotate_left
          · intro W7 hSw
            (try dsimp only at hSw)
            go_simp
            try with_reducible rfl
          simp only [Act.put, List.setIfInBounds_toArray, List.set_cons_zero, List.set_cons_succ]
          refine wpAnyH_take (i := 23) (oi := { dst := some 67, op := Go.Op.move (Go.Operand.tmp 66), type := 4, pos := "law.go:33", after := #[{ on := 22, ground := Go.Ground.data }, { on := 18, ground := Go.Ground.chain }], guard := none }) (v := ?_) rfl (by kernel_rfl) (by kernel_rfl) (by kernel_rfl) (fun _ _ _ h => h) (Or.inl ⟨by rfl, ?_⟩) (by assumption) ?_
          rotate_left
          · intro W7 hSw
            (try dsimp only at hSw)
            go_simp
            try with_reducible rfl
          simp only [Act.put, List.setIfInBounds_toArray, List.set_cons_zero, List.set_cons_succ]
          refine wpAnyH_take (i := 24) (oi := { dst := some 68, op := Go.Op.move (Go.Operand.tmp 10), type := 4, pos := "law.go:33", after := #[{ on := 23, ground := Go.Ground.guard }], guard := some (23, true) }) (v := ?_) rfl (by kernel_rfl) (by kernel_rfl) (by kernel_rfl) (fun _ _ _ h => h) (Or.inl ⟨by rfl, ?_⟩) (by assumption) ?_
          rotate_left
          · intro W7 hSw
            (try dsimp only at hSw)
            go_simp
            try with_reducible rfl
          simp only [Act.put, List.setIfInBounds_toArray, List.set_cons_zero, List.set_cons_succ]
          refine wpAnyH_take (i := 25) (oi := { dst := some 69, op := Go.Op.move (Go.Operand.tmp 13), type := 4, pos := "law.go:33", after := #[{ on := 23, ground := Go.Ground.guard }], guard := some (23, true) }) (v := ?_) rfl (by kernel_rfl) (by kernel_rfl) (by kernel_rfl) (fun _ _ _ h => h) (Or.inl ⟨by rfl, ?_⟩) (by assumption) ?_
          rotate_left
          · intro W7 hSw
            (try dsimp only at hSw)
            go_simp
            try with_reducible rfl
          simp only [Act.put, List.setIfInBounds_toArray, List.set_cons_zero, List.set_cons_succ]
          refine wpAnyH_take (i := 26) (oi := { dst := some 70, op := Go.Op.binOp Go.BinOp.eql 4 (Go.Operand.tmp 68) (Go.Operand.tmp 69) 4, type := 4, pos := "law.go:33", after := #[{ on := 24, ground := Go.Ground.data }, { on := 25, ground := Go.Ground.data }, { on := 23, ground := Go.Ground.guard }], guard := some (23, true) }) (v := ?_) rfl (by kernel_rfl) (by kernel_rfl) (by kernel_rfl) (fun _ _ _ h => h) (Or.inl ⟨by rfl, ?_⟩) (by assumption) ?_
          rotate_left
          · intro W7 hSw
            (try dsimp only at hSw)
            go_simp
            try with_reducible rfl
          simp only [Act.put, List.setIfInBounds_toArray, List.set_cons_zero, List.set_cons_succ]
          refine wpAnyH_take (i := 27) (oi := { dst := some 71, op := Go.Op.pick (Go.Operand.tmp 67) (Go.Operand.tmp 70) (Go.Operand.const (Go.Value.bool false)), type := 4, pos := "law.go:33", after := #[{ on := 23, ground := Go.Ground.data }, { on := 26, ground := Go.Ground.data }], guard := none }) (v := ?_) rfl (by kernel_rfl) (by kernel_rfl) (by kernel_rfl) (fun _ _ _ h => h) (Or.inl ⟨by rfl, ?_⟩) (by assumption) ?_
          rotate_left
          · intro W7 hSw
            (try dsimp only at hSw)
            go_simp
            try with_reducible rfl
          simp only [Act.put, List.setIfInBounds_toArray, List.set_cons_zero, List.set_cons_succ]
          refine wpAnyH_take (i := 28) (oi := { dst := some 72, op := Go.Op.move (Go.Operand.tmp 71), type := 4, pos := "law.go:33", after := #[{ on := 27, ground := Go.Ground.data }, { on := 23, ground := Go.Ground.chain }], guard := none }) (v := ?_) rfl (by kernel_rfl) (by kernel_rfl) (by kernel_rfl) (fun _ _ _ h => h) (Or.inl ⟨by rfl, ?_⟩) (by assumption) ?_
          rotate_left
          · intro W7 hSw
            (try dsimp only at hSw)
            go_simp
            try with_reducible rfl
          simp only [Act.put, List.setIfInBounds_toArray, List.set_cons_zero, List.set_cons_succ]
          refine wpAnyH_take (i := 29) (oi := { dst := some 73, op := Go.Op.load 26 (Go.Operand.tmp 8), type := 26, pos := "law.go:33", after := #[{ on := 28, ground := Go.Ground.guard }], guard := some (28, true) }) (v := ?_) rfl (by kernel_rfl) (by kernel_rfl) (by kernel_rfl) (fun _ _ _ h => h) (Or.inl ⟨by rfl, ?_⟩) (by assumption) ?_
          rotate_left
          · intro W7 hSw
            (try dsimp only at hSw)
            have p0 : W7.cell? ⟨w5.heap.size, 0, none⟩ = some (.int .i64 it2) := HK2.out W7 (bel_tr hSw hqW5) 0 (by omega)
            have p1 : W7.cell? ⟨w5.heap.size, 1, none⟩ = some (.int .i64 L2) := HK2.out W7 (bel_tr hSw hqW5) 1 (by omega)
            have p2 : W7.cell? ⟨w5.heap.size, 2, none⟩ = some (.int .i64 R2) := HK2.out W7 (bel_tr hSw hqW5) 2 (by omega)
            have p3 : W7.cell? ⟨w5.heap.size, 3, none⟩ = some (.int .i64 N2) := HK2.out W7 (bel_tr hSw hqW5) 3 (by omega)
            have p4 : W7.cell? ⟨w5.heap.size, 4, none⟩ = some (.bool dead2) := HK2.out W7 (bel_tr hSw hqW5) 4 (by omega)
            have p5 : W7.cell? ⟨w5.heap.size, 5, none⟩ = some (.slice ao2 len2 cap2) := HK2.out W7 (bel_tr hSw hqW5) 5 (by omega)
            have p6 : W7.cell? ⟨w5.heap.size, 6, none⟩ = some (.string tag2) := HK2.out W7 (bel_tr hSw hqW5) 6 (by omega)
            have p7 : W7.cell? ⟨w5.heap.size, 7, none⟩ = some (.string body2) := HK2.out W7 (bel_tr hSw hqW5) 7 (by omega)
            go_simp
            try with_reducible rfl
          simp only [Act.put, List.setIfInBounds_toArray, List.set_cons_zero, List.set_cons_succ]
          refine wpAnyH_take (i := 30) (oi := { dst := some 74, op := Go.Op.load 26 (Go.Operand.tmp 11), type := 26, pos := "law.go:33", after := #[{ on := 28, ground := Go.Ground.guard }], guard := some (28, true) }) (v := ?_) rfl (by kernel_rfl) (by kernel_rfl) (by kernel_rfl) (fun _ _ _ h => h) (Or.inl ⟨by rfl, ?_⟩) (by assumption) ?_
          rotate_left
          · intro W7 hSw
            (try dsimp only at hSw)
            have p0 : W7.cell? ⟨w6.heap.size, 0, none⟩ = some (.int .i64 it3) := HK3.out W7 (bel_tr hSw hqW5) 0 (by omega)
            have p1 : W7.cell? ⟨w6.heap.size, 1, none⟩ = some (.int .i64 L3) := HK3.out W7 (bel_tr hSw hqW5) 1 (by omega)
            have p2 : W7.cell? ⟨w6.heap.size, 2, none⟩ = some (.int .i64 R3) := HK3.out W7 (bel_tr hSw hqW5) 2 (by omega)
            have p3 : W7.cell? ⟨w6.heap.size, 3, none⟩ = some (.int .i64 N3) := HK3.out W7 (bel_tr hSw hqW5) 3 (by omega)
            have p4 : W7.cell? ⟨w6.heap.size, 4, none⟩ = some (.bool dead3) := HK3.out W7 (bel_tr hSw hqW5) 4 (by omega)
            have p5 : W7.cell? ⟨w6.heap.size, 5, none⟩ = some (.slice ao3 len3 cap3) := HK3.out W7 (bel_tr hSw hqW5) 5 (by omega)
            have p6 : W7.cell? ⟨w6.heap.size, 6, none⟩ = some (.string tag3) := HK3.out W7 (bel_tr hSw hqW5) 6 (by omega)
            have p7 : W7.cell? ⟨w6.heap.size, 7, none⟩ = some (.string body3) := HK3.out W7 (bel_tr hSw hqW5) 7 (by omega)
            go_simp
            try with_reducible rfl
          simp only [Act.put, List.setIfInBounds_toArray, List.set_cons_zero, List.set_cons_succ]
          refine wpAnyH_ready (rs := [31]) (by kernel_rfl) (by simp) ?_
          refine AllReadyH.cons (o := { dst := some 75, op := Go.Op.call { callee := Go.Callee.value (Go.Operand.func 15), args := #[Go.Operand.tmp 73, Go.Operand.tmp 74], argTypes := #[26, 26] }, type := 4, pos := "law.go:33", after := #[{ on := 29, ground := Go.Ground.data }, { on := 30, ground := Go.Ground.data }, { on := 28, ground := Go.Ground.chain }, { on := 28, ground := Go.Ground.guard }], guard := some (28, true) }) rfl (fun K hK => ?_) AllReadyH.nil
          go_simp
          refine (HS15.out _ hqW5).mono ?_
          rintro r W6 ⟨rfl, hbx⟩
          have hsW6 : Below W5.heap.size W5 W6 := hbx
          have hqW6 : Below Y3.heap.size Y3 W6 := bel_tr hbx hqW5
          clear hbx
          refine hK.out _ _ ?_ (fun hHeld => ?_)
          · (try dsimp only)
            exact hsW6
          clear hK K hHeld
          try simp only [Act.put, List.setIfInBounds_toArray, List.set_cons_zero, List.set_cons_succ]
          refine wpAnyH_strong (S' := fun W => Below W6.heap.size W6 W) (fun W h => bel_tr h hsW6) _ _ _ _ ?_
          have hHeld : Below W6.heap.size W6 W6 := Below.refl _ _
          refine wpAnyH_take (i := 32) (oi := { dst := some 76, op := Go.Op.pick (Go.Operand.tmp 72) (Go.Operand.tmp 75) (Go.Operand.const (Go.Value.bool false)), type := 4, pos := "law.go:33", after := #[{ on := 28, ground := Go.Ground.data }, { on := 31, ground := Go.Ground.data }], guard := none }) (v := ?_) rfl (by kernel_rfl) (by kernel_rfl) (by kernel_rfl) (fun _ _ _ h => h) (Or.inl ⟨by rfl, ?_⟩) (by assumption) ?_
          rotate_left
          · intro W7 hSw
            (try dsimp only at hSw)
            go_simp
            try with_reducible rfl
          simp only [Act.put, List.setIfInBounds_toArray, List.set_cons_zero, List.set_cons_succ]
          refine wpAnyH_take (i := 33) (oi := { dst := some 6, op := Go.Op.assign (Go.Operand.tmp 76), type := 4, pos := "law.go:33", after := #[{ on := 32, ground := Go.Ground.data }, { on := 31, ground := Go.Ground.chain }, { on := 0, ground := Go.Ground.phase }, { on := 1, ground := Go.Ground.phase }, { on := 2, ground := Go.Ground.phase }, { on := 3, ground := Go.Ground.phase }, { on := 4, ground := Go.Ground.phase }, { on := 5, ground := Go.Ground.phase }, { on := 6, ground := Go.Ground.phase }, { on := 7, ground := Go.Ground.phase }, { on := 8, ground := Go.Ground.phase }, { on := 9, ground := Go.Ground.phase }, { on := 10, ground := Go.Ground.phase }, { on := 11, ground := Go.Ground.phase }, { on := 12, ground := Go.Ground.phase }, { on := 13, ground := Go.Ground.phase }, { on := 14, ground := Go.Ground.phase }, { on := 15, ground := Go.Ground.phase }, { on := 16, ground := Go.Ground.phase }, { on := 17, ground := Go.Ground.phase }, { on := 18, ground := Go.Ground.phase }, { on := 19, ground := Go.Ground.phase }, { on := 20, ground := Go.Ground.phase }, { on := 21, ground := Go.Ground.phase }, { on := 22, ground := Go.Ground.phase }, { on := 23, ground := Go.Ground.phase }, { on := 24, ground := Go.Ground.phase }, { on := 25, ground := Go.Ground.phase }, { on := 26, ground := Go.Ground.phase }, { on := 27, ground := Go.Ground.phase }, { on := 28, ground := Go.Ground.phase }, { on := 29, ground := Go.Ground.phase }, { on := 30, ground := Go.Ground.phase }, { on := 31, ground := Go.Ground.phase }, { on := 32, ground := Go.Ground.phase }], guard := none }) (v := ?_) rfl (by kernel_rfl) (by kernel_rfl) (by kernel_rfl) (fun _ _ _ h => h) (Or.inl ⟨by rfl, ?_⟩) (by assumption) ?_
          rotate_left
          · intro W7 hSw
            (try dsimp only at hSw)
            go_simp
            try with_reducible rfl
          simp only [Act.put, List.setIfInBounds_toArray, List.set_cons_zero, List.set_cons_succ]
          refine wpAnyH_done (by kernel_rfl) ?_ _
          try clear hHeld
          go_wp2
          go_ret
          exact ⟨rfl, bel_tr hqW6 HY3.out.2⟩
        · go_simp
          obtain ⟨D12, hAD12⟩ : ∃ X, X = D8.alloc (.cells #[.int .u8 7] 5) := ⟨_, rfl⟩
          rw [← hAD12]
          have hsD12 : Below D8.heap.size D8 D12 := by rw [hAD12]; exact (Below.refl _ D8).alloc (Nat.le_refl _) _
          have hqD12 : Below Y3.heap.size Y3 D12 := bel_tr hsD12 hqD8
          have hrD12 : Rb D12 (some ⟨D8.heap.size, 0, none⟩) 1 1 [7] := by rw [hAD12]; exact rb_seven D8
          clear hAD12
          refine hK.out _ _ ?_ (fun hHeld => ?_)
          · (try dsimp only)
            exact hsD12
          clear hK K hHeld
          try simp only [Act.put, List.setIfInBounds_toArray, List.set_cons_zero, List.set_cons_succ]
          refine wpAnyH_strong (S' := fun W => Below D12.heap.size D12 W) (fun W h => bel_tr h hsD12) _ _ _ _ ?_
          have hHeld : Below D12.heap.size D12 D12 := Below.refl _ _
          refine wpAnyH_ready (rs := [10]) (by kernel_rfl) (by simp) ?_
          refine AllReadyH.cons (o := { dst := some 54, op := Go.Op.call { callee := Go.Callee.value (Go.Operand.func 13), args := #[Go.Operand.tmp 52, Go.Operand.tmp 53], argTypes := #[27, 26] }, type := 27, pos := "law.go:33", after := #[{ on := 8, ground := Go.Ground.data }, { on := 9, ground := Go.Ground.data }, { on := 7, ground := Go.Ground.chain }, { on := 7, ground := Go.Ground.guard }], guard := some (7, true) }) rfl (fun K hK => ?_) AllReadyH.nil
          go_simp
          refine (HR13.out _ _ hqD12 (hrD8.kept hsD12)).mono ?_
          rintro r W4 ⟨xoW4, xnW4, xcW4, rfl, hrx, hbx⟩
          have hsW4 : Below D12.heap.size D12 W4 := hbx
          have hqW4 : Below Y3.heap.size Y3 W4 := bel_tr hbx hqD12
          have cvW4 : ∀ W, Below W4.heap.size W4 W → (convert 27 9 (.slice xoW4 xnW4 xcW4)).run Tryd.prog W = .ok (.string (strs PU)) W := fun W hW => conv_rb (hrx.kept hW)
          clear hrx hbx
          refine hK.out _ _ ?_ (fun hHeld => ?_)
          · (try dsimp only)
            exact hsW4
          clear hK K hHeld
          try simp only [Act.put, List.setIfInBounds_toArray, List.set_cons_zero, List.set_cons_succ]
          refine wpAnyH_strong (S' := fun W => Below W4.heap.size W4 W) (fun W h => bel_tr h hsW4) _ _ _ _ ?_
          have hHeld : Below W4.heap.size W4 W4 := Below.refl _ _
          refine wpAnyH_take (i := 11) (oi := { dst := some 55, op := Go.Op.convert 27 9 (Go.Operand.tmp 54), type := 9, pos := "law.go:33", after := #[{ on := 10, ground := Go.Ground.data }, { on := 7, ground := Go.Ground.guard }], guard := some (7, true) }) (v := ?_) rfl (by kernel_rfl) (by kernel_rfl) (by kernel_rfl) (fun _ _ _ h => h) (Or.inl ⟨by rfl, ?_⟩) (by assumption) ?_
          rotate_left
          · intro W7 hSw
            (try dsimp only at hSw)
            go_simp
            try with_reducible rfl
          simp only [Act.put, List.setIfInBounds_toArray, List.set_cons_zero, List.set_cons_succ]
          refine wpAnyH_ready (rs := [14]) (by kernel_rfl) (by simp) ?_
          refine AllReadyH.cons (o := { dst := some 58, op := Go.Op.call { callee := Go.Callee.value (Go.Operand.func 14), args := #[Go.Operand.tmp 56, Go.Operand.tmp 57], argTypes := #[27, 26] }, type := 27, pos := "law.go:33", after := #[{ on := 12, ground := Go.Ground.data }, { on := 13, ground := Go.Ground.data }, { on := 10, ground := Go.Ground.chain }, { on := 7, ground := Go.Ground.guard }], guard := some (7, true) }) rfl (fun K hK => ?_) AllReadyH.nil
          go_simp
          refine (HR14.out _ _ hqW4 (hrD12.kept hsW4)).mono ?_
          rintro r W5 ⟨xoW5, xnW5, xcW5, rfl, hrx, hbx⟩
          have hsW5 : Below W4.heap.size W4 W5 := hbx
          have hqW5 : Below Y3.heap.size Y3 W5 := bel_tr hbx hqW4
          have cvW5 : ∀ W, Below W5.heap.size W5 W → (convert 27 9 (.slice xoW5 xnW5 xcW5)).run Tryd.prog W = .ok (.string (strs PU)) W := fun W hW => conv_rb (hrx.kept hW)
          clear hrx hbx
          refine hK.out _ _ ?_ (fun hHeld => ?_)
          · (try dsimp only)
            exact hsW5
          clear hK K hHeld
          try simp only [Act.put, List.setIfInBounds_toArray, List.set_cons_zero, List.set_cons_succ]
          refine wpAnyH_strong (S' := fun W => Below W5.heap.size W5 W) (fun W h => bel_tr h hsW5) _ _ _ _ ?_
          have hHeld : Below W5.heap.size W5 W5 := Below.refl _ _
          refine wpAnyH_take (i := 15) (oi := { dst := some 59, op := Go.Op.convert 27 9 (Go.Operand.tmp 58), type := 9, pos := "law.go:33", after := #[{ on := 14, ground := Go.Ground.data }, { on := 7, ground := Go.Ground.guard }], guard := some (7, true) }) (v := ?_) rfl (by kernel_rfl) (by kernel_rfl) (by kernel_rfl) (fun _ _ _ h => h) (Or.inl ⟨by rfl, ?_⟩) (by assumption) ?_
          rotate_left
          · intro W7 hSw
            (try dsimp only at hSw)
            go_simp
            try with_reducible rfl
          simp only [Act.put, List.setIfInBounds_toArray, List.set_cons_zero, List.set_cons_succ]
          refine wpAnyH_take (i := 16) (oi := { dst := some 60, op := Go.Op.binOp Go.BinOp.eql 9 (Go.Operand.tmp 55) (Go.Operand.tmp 59) 9, type := 4, pos := "law.go:33", after := #[{ on := 11, ground := Go.Ground.data }, { on := 15, ground := Go.Ground.data }, { on := 7, ground := Go.Ground.guard }], guard := some (7, true) }) (v := ?_) rfl (by kernel_rfl) (by kernel_rfl) (by kernel_rfl) (fun _ _ _ h => h) (Or.inl ⟨by rfl, ?_⟩) (by assumption) ?_
          rotate_left
          · intro W7 hSw
            (try dsimp only at hSw)
            go_simp
            try with_reducible rfl
          simp only [Act.put, List.setIfInBounds_toArray, List.set_cons_zero, List.set_cons_succ]
          refine wpAnyH_take (i := 17) (oi := { dst := some 61, op := Go.Op.pick (Go.Operand.tmp 51) (Go.Operand.tmp 60) (Go.Operand.const (Go.Value.bool false)), type := 4, pos := "law.go:33", after := #[{ on := 7, ground := Go.Ground.data }, { on := 16, ground := Go.Ground.data }], guard := none }) (v := ?_) rfl (by kernel_rfl) (by kernel_rfl) (by kernel_rfl) (fun _ _ _ h => h) (Or.inl ⟨by rfl, ?_⟩) (by assumption) ?_
          rotate_left
          · intro W7 hSw
            (try dsimp only at hSw)
            go_simp
            try with_reducible rfl
          simp only [Act.put, List.setIfInBounds_toArray, List.set_cons_zero, List.set_cons_succ]
          refine wpAnyH_take (i := 18) (oi := { dst := some 62, op := Go.Op.move (Go.Operand.tmp 61), type := 4, pos := "law.go:33", after := #[{ on := 17, ground := Go.Ground.data }, { on := 14, ground := Go.Ground.chain }], guard := none }) (v := ?_) rfl (by kernel_rfl) (by kernel_rfl) (by kernel_rfl) (fun _ _ _ h => h) (Or.inl ⟨by rfl, ?_⟩) (by assumption) ?_
          rotate_left
          · intro W7 hSw
            (try dsimp only at hSw)
            go_simp
            try with_reducible rfl
          simp only [Act.put, List.setIfInBounds_toArray, List.set_cons_zero, List.set_cons_succ]
          refine wpAnyH_take (i := 19) (oi := { dst := some 63, op := Go.Op.move (Go.Operand.tmp 9), type := 3, pos := "law.go:33", after := #[{ on := 18, ground := Go.Ground.guard }], guard := some (18, true) }) (v := ?_) rfl (by kernel_rfl) (by kernel_rfl) (by kernel_rfl) (fun _ _ _ h => h) (Or.inl ⟨by rfl, ?_⟩) (by assumption) ?_
          rotate_left
          · intro W7 hSw
            (try dsimp only at hSw)
            go_simp
            try with_reducible rfl
          simp only [Act.put, List.setIfInBounds_toArray, List.set_cons_zero, List.set_cons_succ]
          refine wpAnyH_take (i := 20) (oi := { dst := some 64, op := Go.Op.move (Go.Operand.tmp 12), type := 3, pos := "law.go:33", after := #[{ on := 18, ground := Go.Ground.guard }], guard := some (18, true) }) (v := ?_) rfl (by kernel_rfl) (by kernel_rfl) (by kernel_rfl) (fun _ _ _ h => h) (Or.inl ⟨by rfl, ?_⟩) (by assumption) ?_
          rotate_left
          · intro W7 hSw
            (try dsimp only at hSw)
            go_simp
            try with_reducible rfl
          simp only [Act.put, List.setIfInBounds_toArray, List.set_cons_zero, List.set_cons_succ]
          refine wpAnyH_take (i := 21) (oi := { dst := some 65, op := Go.Op.binOp Go.BinOp.eql 3 (Go.Operand.tmp 63) (Go.Operand.tmp 64) 3, type := 4, pos := "law.go:33", after := #[{ on := 19, ground := Go.Ground.data }, { on := 20, ground := Go.Ground.data }, { on := 18, ground := Go.Ground.guard }], guard := some (18, true) }) (v := ?_) rfl (by kernel_rfl) (by kernel_rfl) (by kernel_rfl) (fun _ _ _ h => h) (Or.inl ⟨by rfl, ?_⟩) (by assumption) ?_
          rotate_left
          · intro W7 hSw
            (try dsimp only at hSw)
            go_simp
            try with_reducible rfl
          simp only [Act.put, List.setIfInBounds_toArray, List.set_cons_zero, List.set_cons_succ]
          refine wpAnyH_take (i := 22) (oi := { dst := some 66, op := Go.Op.pick (Go.Operand.tmp 62) (Go.Operand.tmp 65) (Go.Operand.const (Go.Value.bool false)), type := 4, pos := "law.go:33", after := #[{ on := 18, ground := Go.Ground.data }, { on := 21, ground := Go.Ground.data }], guard := none }) (v := ?_) rfl (by kernel_rfl) (by kernel_rfl) (by kernel_rfl) (fun _ _ _ h => h) (Or.inl ⟨by rfl, ?_⟩) (by assumption) ?_
          rotate_left
          · intro W7 hSw
            (try dsimp only at hSw)
            go_simp
            try with_reducible rfl
          simp only [Act.put, List.setIfInBounds_toArray, List.set_cons_zero, List.set_cons_succ]
          refine wpAnyH_take (i := 23) (oi := { dst := some 67, op := Go.Op.move (Go.Operand.tmp 66), type := 4, pos := "law.go:33", after := #[{ on := 22, ground := Go.Ground.data }, { on := 18, ground := Go.Ground.chain }], guard := none }) (v := ?_) rfl (by kernel_rfl) (by kernel_rfl) (by kernel_rfl) (fun _ _ _ h => h) (Or.inl ⟨by rfl, ?_⟩) (by assumption) ?_
          rotate_left
          · intro W7 hSw
            (try dsimp only at hSw)
            go_simp
            try with_reducible rfl
          simp only [Act.put, List.setIfInBounds_toArray, List.set_cons_zero, List.set_cons_succ]
          refine wpAnyH_take (i := 24) (oi := { dst := some 68, op := Go.Op.move (Go.Operand.tmp 10), type := 4, pos := "law.go:33", after := #[{ on := 23, ground := Go.Ground.guard }], guard := some (23, true) }) (v := ?_) rfl (by kernel_rfl) (by kernel_rfl) (by kernel_rfl) (fun _ _ _ h => h) (Or.inl ⟨by rfl, ?_⟩) (by assumption) ?_
          rotate_left
          · intro W7 hSw
            (try dsimp only at hSw)
            go_simp
            try with_reducible rfl
          simp only [Act.put, List.setIfInBounds_toArray, List.set_cons_zero, List.set_cons_succ]
          refine wpAnyH_take (i := 25) (oi := { dst := some 69, op := Go.Op.move (Go.Operand.tmp 13), type := 4, pos := "law.go:33", after := #[{ on := 23, ground := Go.Ground.guard }], guard := some (23, true) }) (v := ?_) rfl (by kernel_rfl) (by kernel_rfl) (by kernel_rfl) (fun _ _ _ h => h) (Or.inl ⟨by rfl, ?_⟩) (by assumption) ?_
          rotate_left
          · intro W7 hSw
            (try dsimp only at hSw)
            go_simp
            try with_reducible rfl
          simp only [Act.put, List.setIfInBounds_toArray, List.set_cons_zero, List.set_cons_succ]
          refine wpAnyH_take (i := 26) (oi := { dst := some 70, op := Go.Op.binOp Go.BinOp.eql 4 (Go.Operand.tmp 68) (Go.Operand.tmp 69) 4, type := 4, pos := "law.go:33", after := #[{ on := 24, ground := Go.Ground.data }, { on := 25, ground := Go.Ground.data }, { on := 23, ground := Go.Ground.guard }], guard := some (23, true) }) (v := ?_) rfl (by kernel_rfl) (by kernel_rfl) (by kernel_rfl) (fun _ _ _ h => h) (Or.inl ⟨by rfl, ?_⟩) (by assumption) ?_
          rotate_left
          · intro W7 hSw
            (try dsimp only at hSw)
            go_simp
            try with_reducible rfl
          simp only [Act.put, List.setIfInBounds_toArray, List.set_cons_zero, List.set_cons_succ]
          refine wpAnyH_take (i := 27) (oi := { dst := some 71, op := Go.Op.pick (Go.Operand.tmp 67) (Go.Operand.tmp 70) (Go.Operand.const (Go.Value.bool false)), type := 4, pos := "law.go:33", after := #[{ on := 23, ground := Go.Ground.data }, { on := 26, ground := Go.Ground.data }], guard := none }) (v := ?_) rfl (by kernel_rfl) (by kernel_rfl) (by kernel_rfl) (fun _ _ _ h => h) (Or.inl ⟨by rfl, ?_⟩) (by assumption) ?_
          rotate_left
          · intro W7 hSw
            (try dsimp only at hSw)
            go_simp
            try with_reducible rfl
          simp only [Act.put, List.setIfInBounds_toArray, List.set_cons_zero, List.set_cons_succ]
          refine wpAnyH_take (i := 28) (oi := { dst := some 72, op := Go.Op.move (Go.Operand.tmp 71), type := 4, pos := "law.go:33", after := #[{ on := 27, ground := Go.Ground.data }, { on := 23, ground := Go.Ground.chain }], guard := none }) (v := ?_) rfl (by kernel_rfl) (by kernel_rfl) (by kernel_rfl) (fun _ _ _ h => h) (Or.inl ⟨by rfl, ?_⟩) (by assumption) ?_
          rotate_left
          · intro W7 hSw
            (try dsimp only at hSw)
            go_simp
            try with_reducible rfl
          simp only [Act.put, List.setIfInBounds_toArray, List.set_cons_zero, List.set_cons_succ]
          refine wpAnyH_take (i := 29) (oi := { dst := some 73, op := Go.Op.load 26 (Go.Operand.tmp 8), type := 26, pos := "law.go:33", after := #[{ on := 28, ground := Go.Ground.guard }], guard := some (28, true) }) (v := ?_) rfl (by kernel_rfl) (by kernel_rfl) (by kernel_rfl) (fun _ _ _ h => h) (Or.inl ⟨by rfl, ?_⟩) (by assumption) ?_
          rotate_left
          · intro W7 hSw
            (try dsimp only at hSw)
            have p0 : W7.cell? ⟨w5.heap.size, 0, none⟩ = some (.int .i64 it2) := HK2.out W7 (bel_tr hSw hqW5) 0 (by omega)
            have p1 : W7.cell? ⟨w5.heap.size, 1, none⟩ = some (.int .i64 L2) := HK2.out W7 (bel_tr hSw hqW5) 1 (by omega)
            have p2 : W7.cell? ⟨w5.heap.size, 2, none⟩ = some (.int .i64 R2) := HK2.out W7 (bel_tr hSw hqW5) 2 (by omega)
            have p3 : W7.cell? ⟨w5.heap.size, 3, none⟩ = some (.int .i64 N2) := HK2.out W7 (bel_tr hSw hqW5) 3 (by omega)
            have p4 : W7.cell? ⟨w5.heap.size, 4, none⟩ = some (.bool dead2) := HK2.out W7 (bel_tr hSw hqW5) 4 (by omega)
            have p5 : W7.cell? ⟨w5.heap.size, 5, none⟩ = some (.slice ao2 len2 cap2) := HK2.out W7 (bel_tr hSw hqW5) 5 (by omega)
            have p6 : W7.cell? ⟨w5.heap.size, 6, none⟩ = some (.string tag2) := HK2.out W7 (bel_tr hSw hqW5) 6 (by omega)
            have p7 : W7.cell? ⟨w5.heap.size, 7, none⟩ = some (.string body2) := HK2.out W7 (bel_tr hSw hqW5) 7 (by omega)
            go_simp
            try with_reducible rfl
          simp only [Act.put, List.setIfInBounds_toArray, List.set_cons_zero, List.set_cons_succ]
          refine wpAnyH_take (i := 30) (oi := { dst := some 74, op := Go.Op.load 26 (Go.Operand.tmp 11), type := 26, pos := "law.go:33", after := #[{ on := 28, ground := Go.Ground.guard }], guard := some (28, true) }) (v := ?_) rfl (by kernel_rfl) (by kernel_rfl) (by kernel_rfl) (fun _ _ _ h => h) (Or.inl ⟨by rfl, ?_⟩) (by assumption) ?_
          rotate_left
          · intro W7 hSw
            (try dsimp only at hSw)
            have p0 : W7.cell? ⟨w6.heap.size, 0, none⟩ = some (.int .i64 it3) := HK3.out W7 (bel_tr hSw hqW5) 0 (by omega)
            have p1 : W7.cell? ⟨w6.heap.size, 1, none⟩ = some (.int .i64 L3) := HK3.out W7 (bel_tr hSw hqW5) 1 (by omega)
            have p2 : W7.cell? ⟨w6.heap.size, 2, none⟩ = some (.int .i64 R3) := HK3.out W7 (bel_tr hSw hqW5) 2 (by omega)
            have p3 : W7.cell? ⟨w6.heap.size, 3, none⟩ = some (.int .i64 N3) := HK3.out W7 (bel_tr hSw hqW5) 3 (by omega)
            have p4 : W7.cell? ⟨w6.heap.size, 4, none⟩ = some (.bool dead3) := HK3.out W7 (bel_tr hSw hqW5) 4 (by omega)
            have p5 : W7.cell? ⟨w6.heap.size, 5, none⟩ = some (.slice ao3 len3 cap3) := HK3.out W7 (bel_tr hSw hqW5) 5 (by omega)
            have p6 : W7.cell? ⟨w6.heap.size, 6, none⟩ = some (.string tag3) := HK3.out W7 (bel_tr hSw hqW5) 6 (by omega)
            have p7 : W7.cell? ⟨w6.heap.size, 7, none⟩ = some (.string body3) := HK3.out W7 (bel_tr hSw hqW5) 7 (by omega)
            go_simp
            try with_reducible rfl
          simp only [Act.put, List.setIfInBounds_toArray, List.set_cons_zero, List.set_cons_succ]
          refine wpAnyH_ready (rs := [31]) (by kernel_rfl) (by simp) ?_
          refine AllReadyH.cons (o := { dst := some 75, op := Go.Op.call { callee := Go.Callee.value (Go.Operand.func 15), args := #[Go.Operand.tmp 73, Go.Operand.tmp 74], argTypes := #[26, 26] }, type := 4, pos := "law.go:33", after := #[{ on := 29, ground := Go.Ground.data }, { on := 30, ground := Go.Ground.data }, { on := 28, ground := Go.Ground.chain }, { on := 28, ground := Go.Ground.guard }], guard := some (28, true) }) rfl (fun K hK => ?_) AllReadyH.nil
          go_simp
          refine (HS15.out _ hqW5).mono ?_
          rintro r W6 ⟨rfl, hbx⟩
          have hsW6 : Below W5.heap.size W5 W6 := hbx
          have hqW6 : Below Y3.heap.size Y3 W6 := bel_tr hbx hqW5
          clear hbx
          refine hK.out _ _ ?_ (fun hHeld => ?_)
          · (try dsimp only)
            exact hsW6
          clear hK K hHeld
          try simp only [Act.put, List.setIfInBounds_toArray, List.set_cons_zero, List.set_cons_succ]
          refine wpAnyH_strong (S' := fun W => Below W6.heap.size W6 W) (fun W h => bel_tr h hsW6) _ _ _ _ ?_
          have hHeld : Below W6.heap.size W6 W6 := Below.refl _ _
          refine wpAnyH_take (i := 32) (oi := { dst := some 76, op := Go.Op.pick (Go.Operand.tmp 72) (Go.Operand.tmp 75) (Go.Operand.const (Go.Value.bool false)), type := 4, pos := "law.go:33", after := #[{ on := 28, ground := Go.Ground.data }, { on := 31, ground := Go.Ground.data }], guard := none }) (v := ?_) rfl (by kernel_rfl) (by kernel_rfl) (by kernel_rfl) (fun _ _ _ h => h) (Or.inl ⟨by rfl, ?_⟩) (by assumption) ?_
          rotate_left
          · intro W7 hSw
            (try dsimp only at hSw)
            go_simp
            try with_reducible rfl
          simp only [Act.put, List.setIfInBounds_toArray, List.set_cons_zero, List.set_cons_succ]
          refine wpAnyH_take (i := 33) (oi := { dst := some 6, op := Go.Op.assign (Go.Operand.tmp 76), type := 4, pos := "law.go:33", after := #[{ on := 32, ground := Go.Ground.data }, { on := 31, ground := Go.Ground.chain }, { on := 0, ground := Go.Ground.phase }, { on := 1, ground := Go.Ground.phase }, { on := 2, ground := Go.Ground.phase }, { on := 3, ground := Go.Ground.phase }, { on := 4, ground := Go.Ground.phase }, { on := 5, ground := Go.Ground.phase }, { on := 6, ground := Go.Ground.phase }, { on := 7, ground := Go.Ground.phase }, { on := 8, ground := Go.Ground.phase }, { on := 9, ground := Go.Ground.phase }, { on := 10, ground := Go.Ground.phase }, { on := 11, ground := Go.Ground.phase }, { on := 12, ground := Go.Ground.phase }, { on := 13, ground := Go.Ground.phase }, { on := 14, ground := Go.Ground.phase }, { on := 15, ground := Go.Ground.phase }, { on := 16, ground := Go.Ground.phase }, { on := 17, ground := Go.Ground.phase }, { on := 18, ground := Go.Ground.phase }, { on := 19, ground := Go.Ground.phase }, { on := 20, ground := Go.Ground.phase }, { on := 21, ground := Go.Ground.phase }, { on := 22, ground := Go.Ground.phase }, { on := 23, ground := Go.Ground.phase }, { on := 24, ground := Go.Ground.phase }, { on := 25, ground := Go.Ground.phase }, { on := 26, ground := Go.Ground.phase }, { on := 27, ground := Go.Ground.phase }, { on := 28, ground := Go.Ground.phase }, { on := 29, ground := Go.Ground.phase }, { on := 30, ground := Go.Ground.phase }, { on := 31, ground := Go.Ground.phase }, { on := 32, ground := Go.Ground.phase }], guard := none }) (v := ?_) rfl (by kernel_rfl) (by kernel_rfl) (by kernel_rfl) (fun _ _ _ h => h) (Or.inl ⟨by rfl, ?_⟩) (by assumption) ?_
          rotate_left
          · intro W7 hSw
            (try dsimp only at hSw)
            go_simp
            try with_reducible rfl
          simp only [Act.put, List.setIfInBounds_toArray, List.set_cons_zero, List.set_cons_succ]
          refine wpAnyH_done (by kernel_rfl) ?_ _
          try clear hHeld
          go_wp2
          go_ret
          exact ⟨rfl, bel_tr hqW6 HY3.out.2⟩
      · go_simp
        obtain ⟨D12, hAD12⟩ : ∃ X, X = W3.alloc (.cells #[.int .u8 7] 5) := ⟨_, rfl⟩
        rw [← hAD12]
        have hsD12 : Below W3.heap.size W3 D12 := by rw [hAD12]; exact (Below.refl _ W3).alloc (Nat.le_refl _) _
        have hqD12 : Below Y3.heap.size Y3 D12 := bel_tr hsD12 hqW3
        have hrD12 : Rb D12 (some ⟨W3.heap.size, 0, none⟩) 1 1 [7] := by rw [hAD12]; exact rb_seven W3
        clear hAD12
        refine hK.out _ _ ?_ (fun hHeld => ?_)
        · (try dsimp only)
          exact hsD12
        clear hK K hHeld
        try simp only [Act.put, List.setIfInBounds_toArray, List.set_cons_zero, List.set_cons_succ]
        refine wpAnyH_strong (S' := fun W => Below D12.heap.size D12 W) (fun W h => bel_tr h hsD12) _ _ _ _ ?_
        have hHeld : Below D12.heap.size D12 D12 := Below.refl _ _
        refine wpAnyH_ready (rs := [8]) (by kernel_rfl) (by simp) ?_
        refine AllReadyH.cons (o := { dst := some 52, op := Go.Op.buildSlice 27 1 #[(0, Go.Operand.const (Go.Value.int Go.IntKind.u8 7))], type := 27, pos := "law.go:33", after := #[{ on := 7, ground := Go.Ground.guard }], guard := some (7, true) }) rfl (fun K hK => ?_) AllReadyH.nil
        go_simp
        obtain ⟨D8, hAD8⟩ : ∃ X, X = D12.alloc (.cells #[.int .u8 7] 5) := ⟨_, rfl⟩
        rw [← hAD8]
        have hsD8 : Below D12.heap.size D12 D8 := by rw [hAD8]; exact (Below.refl _ D12).alloc (Nat.le_refl _) _
        have hqD8 : Below Y3.heap.size Y3 D8 := bel_tr hsD8 hqD12
        have hrD8 : Rb D8 (some ⟨D12.heap.size, 0, none⟩) 1 1 [7] := by rw [hAD8]; exact rb_seven D12
        clear hAD8
        refine hK.out _ _ ?_ (fun hHeld => ?_)
        · (try dsimp only)
          exact hsD8
        clear hK K hHeld
        try simp only [Act.put, List.setIfInBounds_toArray, List.set_cons_zero, List.set_cons_succ]
        refine wpAnyH_strong (S' := fun W => Below D8.heap.size D8 W) (fun W h => bel_tr h hsD8) _ _ _ _ ?_
        have hHeld : Below D8.heap.size D8 D8 := Below.refl _ _
        refine wpAnyH_ready (rs := [10]) (by kernel_rfl) (by simp) ?_
        refine AllReadyH.cons (o := { dst := some 54, op := Go.Op.call { callee := Go.Callee.value (Go.Operand.func 13), args := #[Go.Operand.tmp 52, Go.Operand.tmp 53], argTypes := #[27, 26] }, type := 27, pos := "law.go:33", after := #[{ on := 8, ground := Go.Ground.data }, { on := 9, ground := Go.Ground.data }, { on := 7, ground := Go.Ground.chain }, { on := 7, ground := Go.Ground.guard }], guard := some (7, true) }) rfl (fun K hK => ?_) AllReadyH.nil
        go_simp
        refine (HR13.out _ _ hqD8 hrD8).mono ?_
        rintro r W4 ⟨xoW4, xnW4, xcW4, rfl, hrx, hbx⟩
        have hsW4 : Below D8.heap.size D8 W4 := hbx
        have hqW4 : Below Y3.heap.size Y3 W4 := bel_tr hbx hqD8
        have cvW4 : ∀ W, Below W4.heap.size W4 W → (convert 27 9 (.slice xoW4 xnW4 xcW4)).run Tryd.prog W = .ok (.string (strs PU)) W := fun W hW => conv_rb (hrx.kept hW)
        clear hrx hbx
        refine hK.out _ _ ?_ (fun hHeld => ?_)
        · (try dsimp only)
          exact hsW4
        clear hK K hHeld
        try simp only [Act.put, List.setIfInBounds_toArray, List.set_cons_zero, List.set_cons_succ]
        refine wpAnyH_strong (S' := fun W => Below W4.heap.size W4 W) (fun W h => bel_tr h hsW4) _ _ _ _ ?_
        have hHeld : Below W4.heap.size W4 W4 := Below.refl _ _
        refine wpAnyH_take (i := 11) (oi := { dst := some 55, op := Go.Op.convert 27 9 (Go.Operand.tmp 54), type := 9, pos := "law.go:33", after := #[{ on := 10, ground := Go.Ground.data }, { on := 7, ground := Go.Ground.guard }], guard := some (7, true) }) (v := ?_) rfl (by kernel_rfl) (by kernel_rfl) (by kernel_rfl) (fun _ _ _ h => h) (Or.inl ⟨by rfl, ?_⟩) (by assumption) ?_
        rotate_left
        · intro W7 hSw
          (try dsimp only at hSw)
          go_simp
          try with_reducible rfl
        simp only [Act.put, List.setIfInBounds_toArray, List.set_cons_zero, List.set_cons_succ]
        refine wpAnyH_ready (rs := [14]) (by kernel_rfl) (by simp) ?_
        refine AllReadyH.cons (o := { dst := some 58, op := Go.Op.call { callee := Go.Callee.value (Go.Operand.func 14), args := #[Go.Operand.tmp 56, Go.Operand.tmp 57], argTypes := #[27, 26] }, type := 27, pos := "law.go:33", after := #[{ on := 12, ground := Go.Ground.data }, { on := 13, ground := Go.Ground.data }, { on := 10, ground := Go.Ground.chain }, { on := 7, ground := Go.Ground.guard }], guard := some (7, true) }) rfl (fun K hK => ?_) AllReadyH.nil
        go_simp
        refine (HR14.out _ _ hqW4 ((hrD12.kept hsD8).kept hsW4)).mono ?_
        rintro r W5 ⟨xoW5, xnW5, xcW5, rfl, hrx, hbx⟩
        have hsW5 : Below W4.heap.size W4 W5 := hbx
        have hqW5 : Below Y3.heap.size Y3 W5 := bel_tr hbx hqW4
        have cvW5 : ∀ W, Below W5.heap.size W5 W → (convert 27 9 (.slice xoW5 xnW5 xcW5)).run Tryd.prog W = .ok (.string (strs PU)) W := fun W hW => conv_rb (hrx.kept hW)
        clear hrx hbx
        refine hK.out _ _ ?_ (fun hHeld => ?_)
        · (try dsimp only)
          exact hsW5
        clear hK K hHeld
        try simp only [Act.put, List.setIfInBounds_toArray, List.set_cons_zero, List.set_cons_succ]
        refine wpAnyH_strong (S' := fun W => Below W5.heap.size W5 W) (fun W h => bel_tr h hsW5) _ _ _ _ ?_
        have hHeld : Below W5.heap.size W5 W5 := Below.refl _ _
        refine wpAnyH_take (i := 15) (oi := { dst := some 59, op := Go.Op.convert 27 9 (Go.Operand.tmp 58), type := 9, pos := "law.go:33", after := #[{ on := 14, ground := Go.Ground.data }, { on := 7, ground := Go.Ground.guard }], guard := some (7, true) }) (v := ?_) rfl (by kernel_rfl) (by kernel_rfl) (by kernel_rfl) (fun _ _ _ h => h) (Or.inl ⟨by rfl, ?_⟩) (by assumption) ?_
        rotate_left
        · intro W7 hSw
          (try dsimp only at hSw)
          go_simp
          try with_reducible rfl
        simp only [Act.put, List.setIfInBounds_toArray, List.set_cons_zero, List.set_cons_succ]
        refine wpAnyH_take (i := 16) (oi := { dst := some 60, op := Go.Op.binOp Go.BinOp.eql 9 (Go.Operand.tmp 55) (Go.Operand.tmp 59) 9, type := 4, pos := "law.go:33", after := #[{ on := 11, ground := Go.Ground.data }, { on := 15, ground := Go.Ground.data }, { on := 7, ground := Go.Ground.guard }], guard := some (7, true) }) (v := ?_) rfl (by kernel_rfl) (by kernel_rfl) (by kernel_rfl) (fun _ _ _ h => h) (Or.inl ⟨by rfl, ?_⟩) (by assumption) ?_
        rotate_left
        · intro W7 hSw
          (try dsimp only at hSw)
          go_simp
          try with_reducible rfl
        simp only [Act.put, List.setIfInBounds_toArray, List.set_cons_zero, List.set_cons_succ]
        refine wpAnyH_take (i := 17) (oi := { dst := some 61, op := Go.Op.pick (Go.Operand.tmp 51) (Go.Operand.tmp 60) (Go.Operand.const (Go.Value.bool false)), type := 4, pos := "law.go:33", after := #[{ on := 7, ground := Go.Ground.data }, { on := 16, ground := Go.Ground.data }], guard := none }) (v := ?_) rfl (by kernel_rfl) (by kernel_rfl) (by kernel_rfl) (fun _ _ _ h => h) (Or.inl ⟨by rfl, ?_⟩) (by assumption) ?_
        rotate_left
        · intro W7 hSw
          (try dsimp only at hSw)
          go_simp
          try with_reducible rfl
        simp only [Act.put, List.setIfInBounds_toArray, List.set_cons_zero, List.set_cons_succ]
        refine wpAnyH_take (i := 18) (oi := { dst := some 62, op := Go.Op.move (Go.Operand.tmp 61), type := 4, pos := "law.go:33", after := #[{ on := 17, ground := Go.Ground.data }, { on := 14, ground := Go.Ground.chain }], guard := none }) (v := ?_) rfl (by kernel_rfl) (by kernel_rfl) (by kernel_rfl) (fun _ _ _ h => h) (Or.inl ⟨by rfl, ?_⟩) (by assumption) ?_
        rotate_left
        · intro W7 hSw
          (try dsimp only at hSw)
          go_simp
          try with_reducible rfl
        simp only [Act.put, List.setIfInBounds_toArray, List.set_cons_zero, List.set_cons_succ]
        refine wpAnyH_take (i := 19) (oi := { dst := some 63, op := Go.Op.move (Go.Operand.tmp 9), type := 3, pos := "law.go:33", after := #[{ on := 18, ground := Go.Ground.guard }], guard := some (18, true) }) (v := ?_) rfl (by kernel_rfl) (by kernel_rfl) (by kernel_rfl) (fun _ _ _ h => h) (Or.inl ⟨by rfl, ?_⟩) (by assumption) ?_
        rotate_left
        · intro W7 hSw
          (try dsimp only at hSw)
          go_simp
          try with_reducible rfl
        simp only [Act.put, List.setIfInBounds_toArray, List.set_cons_zero, List.set_cons_succ]
        refine wpAnyH_take (i := 20) (oi := { dst := some 64, op := Go.Op.move (Go.Operand.tmp 12), type := 3, pos := "law.go:33", after := #[{ on := 18, ground := Go.Ground.guard }], guard := some (18, true) }) (v := ?_) rfl (by kernel_rfl) (by kernel_rfl) (by kernel_rfl) (fun _ _ _ h => h) (Or.inl ⟨by rfl, ?_⟩) (by assumption) ?_
        rotate_left
        · intro W7 hSw
          (try dsimp only at hSw)
          go_simp
          try with_reducible rfl
        simp only [Act.put, List.setIfInBounds_toArray, List.set_cons_zero, List.set_cons_succ]
        refine wpAnyH_take (i := 21) (oi := { dst := some 65, op := Go.Op.binOp Go.BinOp.eql 3 (Go.Operand.tmp 63) (Go.Operand.tmp 64) 3, type := 4, pos := "law.go:33", after := #[{ on := 19, ground := Go.Ground.data }, { on := 20, ground := Go.Ground.data }, { on := 18, ground := Go.Ground.guard }], guard := some (18, true) }) (v := ?_) rfl (by kernel_rfl) (by kernel_rfl) (by kernel_rfl) (fun _ _ _ h => h) (Or.inl ⟨by rfl, ?_⟩) (by assumption) ?_
        rotate_left
        · intro W7 hSw
          (try dsimp only at hSw)
          go_simp
          try with_reducible rfl
        simp only [Act.put, List.setIfInBounds_toArray, List.set_cons_zero, List.set_cons_succ]
        refine wpAnyH_take (i := 22) (oi := { dst := some 66, op := Go.Op.pick (Go.Operand.tmp 62) (Go.Operand.tmp 65) (Go.Operand.const (Go.Value.bool false)), type := 4, pos := "law.go:33", after := #[{ on := 18, ground := Go.Ground.data }, { on := 21, ground := Go.Ground.data }], guard := none }) (v := ?_) rfl (by kernel_rfl) (by kernel_rfl) (by kernel_rfl) (fun _ _ _ h => h) (Or.inl ⟨by rfl, ?_⟩) (by assumption) ?_
        rotate_left
        · intro W7 hSw
          (try dsimp only at hSw)
          go_simp
          try with_reducible rfl
        simp only [Act.put, List.setIfInBounds_toArray, List.set_cons_zero, List.set_cons_succ]
        refine wpAnyH_take (i := 23) (oi := { dst := some 67, op := Go.Op.move (Go.Operand.tmp 66), type := 4, pos := "law.go:33", after := #[{ on := 22, ground := Go.Ground.data }, { on := 18, ground := Go.Ground.chain }], guard := none }) (v := ?_) rfl (by kernel_rfl) (by kernel_rfl) (by kernel_rfl) (fun _ _ _ h => h) (Or.inl ⟨by rfl, ?_⟩) (by assumption) ?_
        rotate_left
        · intro W7 hSw
          (try dsimp only at hSw)
          go_simp
          try with_reducible rfl
        simp only [Act.put, List.setIfInBounds_toArray, List.set_cons_zero, List.set_cons_succ]
        refine wpAnyH_take (i := 24) (oi := { dst := some 68, op := Go.Op.move (Go.Operand.tmp 10), type := 4, pos := "law.go:33", after := #[{ on := 23, ground := Go.Ground.guard }], guard := some (23, true) }) (v := ?_) rfl (by kernel_rfl) (by kernel_rfl) (by kernel_rfl) (fun _ _ _ h => h) (Or.inl ⟨by rfl, ?_⟩) (by assumption) ?_
        rotate_left
        · intro W7 hSw
          (try dsimp only at hSw)
          go_simp
          try with_reducible rfl
        simp only [Act.put, List.setIfInBounds_toArray, List.set_cons_zero, List.set_cons_succ]
        refine wpAnyH_take (i := 25) (oi := { dst := some 69, op := Go.Op.move (Go.Operand.tmp 13), type := 4, pos := "law.go:33", after := #[{ on := 23, ground := Go.Ground.guard }], guard := some (23, true) }) (v := ?_) rfl (by kernel_rfl) (by kernel_rfl) (by kernel_rfl) (fun _ _ _ h => h) (Or.inl ⟨by rfl, ?_⟩) (by assumption) ?_
        rotate_left
        · intro W7 hSw
          (try dsimp only at hSw)
          go_simp
          try with_reducible rfl
        simp only [Act.put, List.setIfInBounds_toArray, List.set_cons_zero, List.set_cons_succ]
        refine wpAnyH_take (i := 26) (oi := { dst := some 70, op := Go.Op.binOp Go.BinOp.eql 4 (Go.Operand.tmp 68) (Go.Operand.tmp 69) 4, type := 4, pos := "law.go:33", after := #[{ on := 24, ground := Go.Ground.data }, { on := 25, ground := Go.Ground.data }, { on := 23, ground := Go.Ground.guard }], guard := some (23, true) }) (v := ?_) rfl (by kernel_rfl) (by kernel_rfl) (by kernel_rfl) (fun _ _ _ h => h) (Or.inl ⟨by rfl, ?_⟩) (by assumption) ?_
        rotate_left
        · intro W7 hSw
          (try dsimp only at hSw)
          go_simp
          try with_reducible rfl
        simp only [Act.put, List.setIfInBounds_toArray, List.set_cons_zero, List.set_cons_succ]
        refine wpAnyH_take (i := 27) (oi := { dst := some 71, op := Go.Op.pick (Go.Operand.tmp 67) (Go.Operand.tmp 70) (Go.Operand.const (Go.Value.bool false)), type := 4, pos := "law.go:33", after := #[{ on := 23, ground := Go.Ground.data }, { on := 26, ground := Go.Ground.data }], guard := none }) (v := ?_) rfl (by kernel_rfl) (by kernel_rfl) (by kernel_rfl) (fun _ _ _ h => h) (Or.inl ⟨by rfl, ?_⟩) (by assumption) ?_
        rotate_left
        · intro W7 hSw
          (try dsimp only at hSw)
          go_simp
          try with_reducible rfl
        simp only [Act.put, List.setIfInBounds_toArray, List.set_cons_zero, List.set_cons_succ]
        refine wpAnyH_take (i := 28) (oi := { dst := some 72, op := Go.Op.move (Go.Operand.tmp 71), type := 4, pos := "law.go:33", after := #[{ on := 27, ground := Go.Ground.data }, { on := 23, ground := Go.Ground.chain }], guard := none }) (v := ?_) rfl (by kernel_rfl) (by kernel_rfl) (by kernel_rfl) (fun _ _ _ h => h) (Or.inl ⟨by rfl, ?_⟩) (by assumption) ?_
        rotate_left
        · intro W7 hSw
          (try dsimp only at hSw)
          go_simp
          try with_reducible rfl
        simp only [Act.put, List.setIfInBounds_toArray, List.set_cons_zero, List.set_cons_succ]
        refine wpAnyH_take (i := 29) (oi := { dst := some 73, op := Go.Op.load 26 (Go.Operand.tmp 8), type := 26, pos := "law.go:33", after := #[{ on := 28, ground := Go.Ground.guard }], guard := some (28, true) }) (v := ?_) rfl (by kernel_rfl) (by kernel_rfl) (by kernel_rfl) (fun _ _ _ h => h) (Or.inl ⟨by rfl, ?_⟩) (by assumption) ?_
        rotate_left
        · intro W7 hSw
          (try dsimp only at hSw)
          have p0 : W7.cell? ⟨w5.heap.size, 0, none⟩ = some (.int .i64 it2) := HK2.out W7 (bel_tr hSw hqW5) 0 (by omega)
          have p1 : W7.cell? ⟨w5.heap.size, 1, none⟩ = some (.int .i64 L2) := HK2.out W7 (bel_tr hSw hqW5) 1 (by omega)
          have p2 : W7.cell? ⟨w5.heap.size, 2, none⟩ = some (.int .i64 R2) := HK2.out W7 (bel_tr hSw hqW5) 2 (by omega)
          have p3 : W7.cell? ⟨w5.heap.size, 3, none⟩ = some (.int .i64 N2) := HK2.out W7 (bel_tr hSw hqW5) 3 (by omega)
          have p4 : W7.cell? ⟨w5.heap.size, 4, none⟩ = some (.bool dead2) := HK2.out W7 (bel_tr hSw hqW5) 4 (by omega)
          have p5 : W7.cell? ⟨w5.heap.size, 5, none⟩ = some (.slice ao2 len2 cap2) := HK2.out W7 (bel_tr hSw hqW5) 5 (by omega)
          have p6 : W7.cell? ⟨w5.heap.size, 6, none⟩ = some (.string tag2) := HK2.out W7 (bel_tr hSw hqW5) 6 (by omega)
          have p7 : W7.cell? ⟨w5.heap.size, 7, none⟩ = some (.string body2) := HK2.out W7 (bel_tr hSw hqW5) 7 (by omega)
          go_simp
          try with_reducible rfl
        simp only [Act.put, List.setIfInBounds_toArray, List.set_cons_zero, List.set_cons_succ]
        refine wpAnyH_take (i := 30) (oi := { dst := some 74, op := Go.Op.load 26 (Go.Operand.tmp 11), type := 26, pos := "law.go:33", after := #[{ on := 28, ground := Go.Ground.guard }], guard := some (28, true) }) (v := ?_) rfl (by kernel_rfl) (by kernel_rfl) (by kernel_rfl) (fun _ _ _ h => h) (Or.inl ⟨by rfl, ?_⟩) (by assumption) ?_
        rotate_left
        · intro W7 hSw
          (try dsimp only at hSw)
          have p0 : W7.cell? ⟨w6.heap.size, 0, none⟩ = some (.int .i64 it3) := HK3.out W7 (bel_tr hSw hqW5) 0 (by omega)
          have p1 : W7.cell? ⟨w6.heap.size, 1, none⟩ = some (.int .i64 L3) := HK3.out W7 (bel_tr hSw hqW5) 1 (by omega)
          have p2 : W7.cell? ⟨w6.heap.size, 2, none⟩ = some (.int .i64 R3) := HK3.out W7 (bel_tr hSw hqW5) 2 (by omega)
          have p3 : W7.cell? ⟨w6.heap.size, 3, none⟩ = some (.int .i64 N3) := HK3.out W7 (bel_tr hSw hqW5) 3 (by omega)
          have p4 : W7.cell? ⟨w6.heap.size, 4, none⟩ = some (.bool dead3) := HK3.out W7 (bel_tr hSw hqW5) 4 (by omega)
          have p5 : W7.cell? ⟨w6.heap.size, 5, none⟩ = some (.slice ao3 len3 cap3) := HK3.out W7 (bel_tr hSw hqW5) 5 (by omega)
          have p6 : W7.cell? ⟨w6.heap.size, 6, none⟩ = some (.string tag3) := HK3.out W7 (bel_tr hSw hqW5) 6 (by omega)
          have p7 : W7.cell? ⟨w6.heap.size, 7, none⟩ = some (.string body3) := HK3.out W7 (bel_tr hSw hqW5) 7 (by omega)
          go_simp
          try with_reducible rfl
        simp only [Act.put, List.setIfInBounds_toArray, List.set_cons_zero, List.set_cons_succ]
        refine wpAnyH_ready (rs := [31]) (by kernel_rfl) (by simp) ?_
        refine AllReadyH.cons (o := { dst := some 75, op := Go.Op.call { callee := Go.Callee.value (Go.Operand.func 15), args := #[Go.Operand.tmp 73, Go.Operand.tmp 74], argTypes := #[26, 26] }, type := 4, pos := "law.go:33", after := #[{ on := 29, ground := Go.Ground.data }, { on := 30, ground := Go.Ground.data }, { on := 28, ground := Go.Ground.chain }, { on := 28, ground := Go.Ground.guard }], guard := some (28, true) }) rfl (fun K hK => ?_) AllReadyH.nil
        go_simp
        refine (HS15.out _ hqW5).mono ?_
        rintro r W6 ⟨rfl, hbx⟩
        have hsW6 : Below W5.heap.size W5 W6 := hbx
        have hqW6 : Below Y3.heap.size Y3 W6 := bel_tr hbx hqW5
        clear hbx
        refine hK.out _ _ ?_ (fun hHeld => ?_)
        · (try dsimp only)
          exact hsW6
        clear hK K hHeld
        try simp only [Act.put, List.setIfInBounds_toArray, List.set_cons_zero, List.set_cons_succ]
        refine wpAnyH_strong (S' := fun W => Below W6.heap.size W6 W) (fun W h => bel_tr h hsW6) _ _ _ _ ?_
        have hHeld : Below W6.heap.size W6 W6 := Below.refl _ _
        refine wpAnyH_take (i := 32) (oi := { dst := some 76, op := Go.Op.pick (Go.Operand.tmp 72) (Go.Operand.tmp 75) (Go.Operand.const (Go.Value.bool false)), type := 4, pos := "law.go:33", after := #[{ on := 28, ground := Go.Ground.data }, { on := 31, ground := Go.Ground.data }], guard := none }) (v := ?_) rfl (by kernel_rfl) (by kernel_rfl) (by kernel_rfl) (fun _ _ _ h => h) (Or.inl ⟨by rfl, ?_⟩) (by assumption) ?_
        rotate_left
        · intro W7 hSw
          (try dsimp only at hSw)
          go_simp
          try with_reducible rfl
        simp only [Act.put, List.setIfInBounds_toArray, List.set_cons_zero, List.set_cons_succ]
        refine wpAnyH_take (i := 33) (oi := { dst := some 6, op := Go.Op.assign (Go.Operand.tmp 76), type := 4, pos := "law.go:33", after := #[{ on := 32, ground := Go.Ground.data }, { on := 31, ground := Go.Ground.chain }, { on := 0, ground := Go.Ground.phase }, { on := 1, ground := Go.Ground.phase }, { on := 2, ground := Go.Ground.phase }, { on := 3, ground := Go.Ground.phase }, { on := 4, ground := Go.Ground.phase }, { on := 5, ground := Go.Ground.phase }, { on := 6, ground := Go.Ground.phase }, { on := 7, ground := Go.Ground.phase }, { on := 8, ground := Go.Ground.phase }, { on := 9, ground := Go.Ground.phase }, { on := 10, ground := Go.Ground.phase }, { on := 11, ground := Go.Ground.phase }, { on := 12, ground := Go.Ground.phase }, { on := 13, ground := Go.Ground.phase }, { on := 14, ground := Go.Ground.phase }, { on := 15, ground := Go.Ground.phase }, { on := 16, ground := Go.Ground.phase }, { on := 17, ground := Go.Ground.phase }, { on := 18, ground := Go.Ground.phase }, { on := 19, ground := Go.Ground.phase }, { on := 20, ground := Go.Ground.phase }, { on := 21, ground := Go.Ground.phase }, { on := 22, ground := Go.Ground.phase }, { on := 23, ground := Go.Ground.phase }, { on := 24, ground := Go.Ground.phase }, { on := 25, ground := Go.Ground.phase }, { on := 26, ground := Go.Ground.phase }, { on := 27, ground := Go.Ground.phase }, { on := 28, ground := Go.Ground.phase }, { on := 29, ground := Go.Ground.phase }, { on := 30, ground := Go.Ground.phase }, { on := 31, ground := Go.Ground.phase }, { on := 32, ground := Go.Ground.phase }], guard := none }) (v := ?_) rfl (by kernel_rfl) (by kernel_rfl) (by kernel_rfl) (fun _ _ _ h => h) (Or.inl ⟨by rfl, ?_⟩) (by assumption) ?_
        rotate_left
        · intro W7 hSw
          (try dsimp only at hSw)
          go_simp
          try with_reducible rfl
        simp only [Act.put, List.setIfInBounds_toArray, List.set_cons_zero, List.set_cons_succ]
        refine wpAnyH_done (by kernel_rfl) ?_ _
        try clear hHeld
        go_wp2
        go_ret
        exact ⟨rfl, bel_tr hqW6 HY3.out.2⟩
    · have hn1 : (60 : Int) < n := by omega
      have hn2 : decide ((60 : Int) < (n : Int)) = true := decide_eq_true hn1
      have hn3 : decide (60 < n) = true := decide_eq_true (by omega)
      go_wp2
      go_ret
      exact ⟨rfl, HB2.out.2⟩
  · have hp1 : (20 : Int) < pn := by omega
    have hp2 : decide ((20 : Int) < (pn : Int)) = true := decide_eq_true hp1
    have hp3 : decide (20 < pn) = true := decide_eq_true (by omega)
    go_wp2
    go_ret
    exact ⟨rfl, HB2.out.2⟩
end Go.Proofs.YtopkeembbopbmaaDoor
