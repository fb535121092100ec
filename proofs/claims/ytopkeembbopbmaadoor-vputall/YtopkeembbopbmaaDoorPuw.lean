/- cardamomref16.PutVersion. -/
import Derived.Test.YtopkeembbopbmaaDoorMvr
import Derived.Test.YtopkeembbopbmaaDoorWho
namespace Go.Proofs.YtopkeembbopbmaaDoor
open Go.RowKit
set_option maxRecDepth 100000
set_option linter.unusedVariables false

theorem bel_tr3 {X W z : World} (k : Below W.heap.size W z) (h : Below X.heap.size X W) : Below X.heap.size X z := h.trans (k.mono h.size)

set_option maxHeartbeats 8000000 in
theorem rput14_may (fo : Option Addr) (fn fc : Nat) (fl : List Nat) (i l r n : Nat) (dead : Bool) (ao : Option Addr) (cap : Nat) (a : List (Nat × Nat)) (tag body : ByteArray) (w : World) (hL : Lite i l r n a tag body) (hf : Rb w fo fn fc fl) (hfn : fn ≤ 1000) (hA : At w ao a.length (castA a)) (hm : mayI ⟨i, l, r, n, dead, ao, a.length, cap, tag, body⟩ (castA a) = true) :
    Calls Tryd.prog 14 #[.slice fo fn fc, .agg #[.int .i64 i, .int .i64 l, .int .i64 r, .int .i64 n, .bool dead, .slice ao a.length cap, .string tag, .string body]] w fun e w' => ∃ xo N xc, e = .returned (.slice xo N xc) ∧ Rb w' xo N xc (fl ++ pv ⟨i, l, r, n, b2n dead, a, bl tag, bl body⟩) ∧ Below w.heap.size w w' := by
  have hk := hL.k
  have HL : Hid (Lite i l r n a tag body) := hL
  obtain ⟨tb, htb⟩ : ∃ tb, tb = w.heap.size := ⟨_, rfl⟩
  obtain ⟨X, hX⟩ : ∃ X, X = w.alloc (.cells #[.int .i64 i, .int .i64 l, .int .i64 r, .int .i64 n, .bool dead, .slice ao a.length cap, .string tag, .string body] 26) := ⟨_, rfl⟩
  have hBX : Below w.heap.size w X := by rw [hX]; exact (Below.refl _ w).alloc (Nat.le_refl _) _
  have x0 : X.cell? ⟨tb, 0, none⟩ = some (.int .i64 i) := by subst htb; rw [hX]; simp
  have x1 : X.cell? ⟨tb, 1, none⟩ = some (.int .i64 l) := by subst htb; rw [hX]; simp
  have x2 : X.cell? ⟨tb, 2, none⟩ = some (.int .i64 r) := by subst htb; rw [hX]; simp
  have x3 : X.cell? ⟨tb, 3, none⟩ = some (.int .i64 n) := by subst htb; rw [hX]; simp
  have x4 : X.cell? ⟨tb, 4, none⟩ = some (.bool dead) := by subst htb; rw [hX]; simp
  have x5 : X.cell? ⟨tb, 5, none⟩ = some (.slice ao a.length cap) := by subst htb; rw [hX]; simp
  have x6 : X.cell? ⟨tb, 6, none⟩ = some (.string tag) := by subst htb; rw [hX]; simp
  have x7 : X.cell? ⟨tb, 7, none⟩ = some (.string body) := by subst htb; rw [hX]; simp
  have hsX : tb < X.heap.size := by subst htb; rw [hX]; simp
  have cm := mver24 ⟨i, l, r, n, dead, ao, a.length, cap, tag, body⟩ (castA a) X (hA.kept hBX) (Nat.le_trans hL.t (by decide)) (Nat.le_trans hL.b (by decide))
  rw [hm] at cm
  unfold Vn.val at cm
  simp only at cm
  have HX : Hid (X = _ ∧ tb = w.heap.size ∧ Below w.heap.size w X ∧ At X ao a.length (castA a) ∧ Rb X fo fn fc fl) := ⟨hX, htb, hBX, hA.kept hBX, hf.kept hBX⟩
  have HCX : Hid (X.cell? ⟨tb, 0, none⟩ = some (.int .i64 i) ∧ X.cell? ⟨tb, 1, none⟩ = some (.int .i64 l) ∧ X.cell? ⟨tb, 2, none⟩ = some (.int .i64 r) ∧ X.cell? ⟨tb, 3, none⟩ = some (.int .i64 n) ∧ X.cell? ⟨tb, 4, none⟩ = some (.bool dead) ∧ X.cell? ⟨tb, 5, none⟩ = some (.slice ao a.length cap) ∧ X.cell? ⟨tb, 6, none⟩ = some (.string tag) ∧ X.cell? ⟨tb, 7, none⟩ = some (.string body)) := ⟨x0, x1, x2, x3, x4, x5, x6, x7⟩
  have b1 := hL.i
  have b2 := hL.l
  have b3 := hL.r
  have b4 := hL.n
  have HN : Hid ((put i).length ≤ 3 ∧ (put l).length ≤ 3 ∧ (put r).length ≤ 3 ∧ (put n).length ≤ 3 ∧ (put (b2n dead)).length ≤ 3 ∧ (put a.length).length ≤ 3) := ⟨put_3 b1, put_3 b2, put_3 b3, put_3 b4, put_3 (by unfold b2n; split <;> omega), put_3 (by omega)⟩
  have hb2n : b2n dead < 100000 := by unfold b2n; split <;> omega
  clear hL hA hBX hX htb hf hm
  go_enter Tryd.func14, Tryd.ntmps14
  go_wp2_with fail
  rw [← HX.out.1, ← HX.out.2.1]
  refine cm.mono ?_
  rintro e w2 ⟨rfl, hb2⟩
  have HB2 : Hid (Below X.heap.size X w2) := hb2
  have hs2 : tb < w2.heap.size := Nat.lt_of_lt_of_le hsX hb2.size
  have c0 : w2.cell? ⟨tb, 0, none⟩ = some (.int .i64 i) := (hb2.cell (p := ⟨tb, 0, none⟩) hsX).trans HCX.out.1
  have c1 : w2.cell? ⟨tb, 1, none⟩ = some (.int .i64 l) := (hb2.cell (p := ⟨tb, 1, none⟩) hsX).trans HCX.out.2.1
  have c2 : w2.cell? ⟨tb, 2, none⟩ = some (.int .i64 r) := (hb2.cell (p := ⟨tb, 2, none⟩) hsX).trans HCX.out.2.2.1
  have c3 : w2.cell? ⟨tb, 3, none⟩ = some (.int .i64 n) := (hb2.cell (p := ⟨tb, 3, none⟩) hsX).trans HCX.out.2.2.2.1
  have hdr : Below w2.heap.size w2 w2.drew := (Below.refl _ w2).drew
  have hfr : Rb w2.drew fo fn fc fl := (HX.out.2.2.2.2.kept hb2).kept hdr
  clear cm x0 x1 x2 x3 x4 x5 x6 x7 hb2
  go_wp2_with fail
  go_region_held3 (fun w' => w'.cell? ⟨tb, 0, none⟩ = some (.int .i64 i) ∧ w'.cell? ⟨tb, 1, none⟩ = some (.int .i64 l) ∧ w'.cell? ⟨tb, 2, none⟩ = some (.int .i64 r) ∧ w'.cell? ⟨tb, 3, none⟩ = some (.int .i64 n))
    (go_keep)
    (first
      | (go_at_call_of 27 (i); refine (rput27 fo fn fc fl i _ hfr (by omega) (by omega)).mono ?_; rintro e w3 ⟨o3, n3, c3', rfl, hr3, hb3⟩; obtain ⟨hcl3, hfl3, zw3'⟩ := callee_old hb3; have zw3 : tb < w3.heap.size := Nat.lt_of_lt_of_le hs2 zw3')
      | (go_at_call_of 27 (l); refine (rput27 o3 n3 c3' _ l w3 hr3 (by have h1 := hr3.len; have h2 := HX.out.2.2.2.2.len; have h3 := HN.out; simp only [List.length_append] at h1; omega) (by omega)).mono ?_; rintro e w4 ⟨o4, n4, c4', rfl, hr4, hb4⟩; have hcw4 : ∀ b o, b < w3.heap.size → w4.cell? ⟨b, o, none⟩ = w3.cell? ⟨b, o, none⟩ := fun b o h => hb4.cell (p := ⟨b, o, none⟩) h; have zw4 : tb < w4.heap.size := Nat.lt_of_lt_of_le zw3 hb4.size)
      | (go_at_call_of 27 (r); refine (rput27 o4 n4 c4' _ r w4 hr4 (by have h1 := hr4.len; have h2 := HX.out.2.2.2.2.len; have h3 := HN.out; simp only [List.length_append] at h1; omega) (by omega)).mono ?_; rintro e w5 ⟨o5, n5, c5', rfl, hr5, hb5⟩; have hcw5 : ∀ b o, b < w4.heap.size → w5.cell? ⟨b, o, none⟩ = w4.cell? ⟨b, o, none⟩ := fun b o h => hb5.cell (p := ⟨b, o, none⟩) h; have zw5 : tb < w5.heap.size := Nat.lt_of_lt_of_le zw4 hb5.size)
      | (go_at_call_of 27 (n); refine (rput27 o5 n5 c5' _ n w5 hr5 (by have h1 := hr5.len; have h2 := HX.out.2.2.2.2.len; have h3 := HN.out; simp only [List.length_append] at h1; omega) (by omega)).mono ?_; rintro e w6 ⟨o6, n6, c6', rfl, hr6, hb6⟩; have hcw6 : ∀ b o, b < w5.heap.size → w6.cell? ⟨b, o, none⟩ = w5.cell? ⟨b, o, none⟩ := fun b o h => hb6.cell (p := ⟨b, o, none⟩) h; have zw6 : tb < w6.heap.size := Nat.lt_of_lt_of_le zw5 hb6.size))
  have hb26 : Below w2.heap.size w2 w6 := bel_tr3 hb6 (bel_tr3 hb5 (bel_tr3 hb4 (bel_tr3 hb3 hdr)))
  have HB6 : Hid (Below X.heap.size X w6 ∧ Rb w6 o6 n6 c6' ((((fl ++ put i) ++ put l) ++ put r) ++ put n) ∧ n6 ≤ 1012) := ⟨bel_tr3 hb26 HB2.out, hr6, by have h1 := hr6.len; have h2 := HX.out.2.2.2.2.len; have h3 := HN.out; simp only [List.length_append] at h1; omega⟩
  have hn6 : n6 ≤ 1012 := HB6.out.2.2
  have hs6 : tb < w6.heap.size := Nat.lt_of_lt_of_le hsX HB6.out.1.size
  have d4 : w6.cell? ⟨tb, 4, none⟩ = some (.bool dead) := (HB6.out.1.cell (p := ⟨tb, 4, none⟩) hsX).trans HCX.out.2.2.2.2.1
  have d5 : w6.cell? ⟨tb, 5, none⟩ = some (.slice ao a.length cap) := (HB6.out.1.cell (p := ⟨tb, 5, none⟩) hsX).trans HCX.out.2.2.2.2.2.1
  have hdr6 : Below w6.heap.size w6 w6.drew := (Below.refl _ w6).drew
  have hfr6 : Rb w6.drew o6 n6 c6' _ := HB6.out.2.1.kept hdr6
  clear hr3 hr4 hr5 hr6 hb3 hb4 hb5 hb6 hb26 hfr hdr c0 c1 c2 c3 hcl3 hfl3 zw3' zw3 hcw4 hcw5 hcw6 zw4 zw5 zw6
  go_wp2_with fail
  have hwd : tb < w6.drew.heap.size := hs6
  go_region_held3 (fun w' => w'.cell? ⟨tb, 4, none⟩ = some (.bool dead) ∧ w'.cell? ⟨tb, 5, none⟩ = some (.slice ao a.length cap))
    (go_keep)
    (first
      | (go_at_call 28; refine (bit28 dead _).mono ?_; rintro e w7 ⟨rfl, rfl⟩)
      | (go_at_call_of 27 (a); refine (rput27 o8 n8 c8' _ a.length w8 hr8 (by have h1 := hr8.len; have h2 := HB6.out.2.1.len; have h3 := HN.out; simp only [List.length_append] at h1 h2; omega) (by omega)).mono ?_; rintro e w9 ⟨o9, n9, c9', rfl, hr9, hb9⟩; have hcw9 : ∀ b o, b < w8.heap.size → w9.cell? ⟨b, o, none⟩ = w8.cell? ⟨b, o, none⟩ := fun b o h => hb9.cell (p := ⟨b, o, none⟩) h; have zw9 : tb < w9.heap.size := Nat.lt_of_lt_of_le zw8 hb9.size)
      | (go_at_call_of 27 (b2n dead); refine (rput27 o6 n6 c6' _ (b2n dead) _ hfr6 (by omega) (by omega)).mono ?_; rintro e w8 ⟨o8, n8, c8', rfl, hr8, hb8⟩; obtain ⟨hcl8, hfl8, zw8'⟩ := callee_old hb8; have zw8 : tb < w8.heap.size := Nat.lt_of_lt_of_le hs6 zw8'))
  have hb69 : Below w6.heap.size w6 w9 := bel_tr3 hb9 (bel_tr3 hb8 hdr6)
  have HB9 : Hid (Below X.heap.size X w9 ∧ Rb w9 o9 n9 c9' (fl ++ (put i ++ (put l ++ (put r ++ (put n ++ (put (b2n dead) ++ put a.length)))))) ∧ n9 ≤ 1018) := ⟨bel_tr3 hb69 HB6.out.1, by simpa only [List.append_assoc] using hr9, by have h1 := hr9.len; have h2 := HB6.out.2.1.len; have h3 := HN.out; simp only [List.length_append] at h1 h2; omega⟩
  have hn9 : n9 ≤ 1018 := HB9.out.2.2
  have hs9 : tb < w9.heap.size := Nat.lt_of_lt_of_le hsX HB9.out.1.size
  obtain ⟨HH, hHH⟩ : ∃ q, q = fl ++ (put i ++ (put l ++ (put r ++ (put n ++ (put (b2n dead) ++ put a.length))))) := ⟨_, rfl⟩
  have HHE : Hid (HH = fl ++ (put i ++ (put l ++ (put r ++ (put n ++ (put (b2n dead) ++ put a.length)))))) := hHH
  rw [← hHH] at HB9
  clear hHH hr8 hr9 hb8 hb9 hb69 hdr6 hfr6 d4 d5 hcl8 hfl8 zw8' zw8 hcw9 zw9 hwd hn6 hs6
  go_wp2_with fail
  go_loopw [0, 5] (fun bs ix wr => ∃ (j : Nat) (o2 : Option Addr) (N2 c2 : Nat) (q2 : List Nat), j ≤ a.length ∧ ix = .int .i64 j ∧ bs = .slice o2 N2 c2 ∧ Rb wr o2 N2 c2 q2 ∧ N2 ≤ 1018 + 6 * j ∧ Below w9.heap.size w9 wr ∧ q2 = HH ++ pat (a.take j)) (fun _ ix _ => a.length - (intOf ix).toNat)
  case atStart => exact ⟨0, o9, n9, c9', HH, by omega, rfl, rfl, HB9.out.2.1, by omega, Below.refl _ _, by simp [pat]⟩
  case round =>
    obtain ⟨j, o2, N2, c2, q2, hj, rfl, rfl, hrb, hN2, hbl, hq⟩ := hrel
    have HQ2 : Hid (Rb wr o2 N2 c2 q2 ∧ Below w9.heap.size w9 wr ∧ q2 = HH ++ pat (a.take j)) := ⟨hrb, hbl, hq⟩
    have hBv : Below X.heap.size X wr := bel_tr3 hbl HB9.out.1
    have HBV : Hid (Below X.heap.size X wr) := hBv
    have hst : tb < wr.heap.size := Nat.lt_of_lt_of_le hsX hBv.size
    have c5 : wr.cell? ⟨tb, 5, none⟩ = some (.slice ao a.length cap) := (hBv.cell (p := ⟨tb, 5, none⟩) hsX).trans HCX.out.2.2.2.2.2.1
    have hdr : Below wr.heap.size wr wr.drew := (Below.refl _ wr).drew
    have hN2' : N2 ≤ 7018 := by omega
    by_cases hja : j < a.length
    · have hat := (HX.out.2.2.2.1.kept hBv).2.2 (by omega)
      obtain ⟨ab, aoff, rfl, hcc⟩ := hat
      obtain ⟨g0, g1⟩ := hcc j hja
      have hab : ab < wr.heap.size := World.block_lt_of_cell? wr ⟨ab, aoff + j * 2, none⟩ g0
      rw [castA_get] at g0 g1
      have hxl := HL.out.at_ j
      have HS : Hid (pat (a.take (j + 1)) = pat (a.take j) ++ (put (a.getD j (0, 0)).1 ++ put (a.getD j (0, 0)).2)) := pat_step a j hja
      generalize a.getD j (0, 0) = xy at *
      obtain ⟨x, y⟩ := xy
      simp only at g0 g1 hxl
      obtain ⟨hx1, hy1⟩ := hxl
      have q1 := rput27 o2 N2 c2 q2 x wr.drew (hrb.kept hdr) (by omega) (by omega)
      have HN2 : Hid ((put x).length ≤ 3 ∧ (put y).length ≤ 3) := ⟨put_3 hx1, put_3 hy1⟩
      have hji : (j : Int) < (a.length : Int) := by omega
      have hj0 : (0 : Int) ≤ (j : Int) := by omega
      have hjd : decide ((j : Int) < (a.length : Int)) = true := decide_eq_true hji
      clear hrb hbl hq hcc hBv
      go_wp2_with fail
      go_region_held3 (fun w' => w'.cell? ⟨tb, 5, none⟩ = some (.slice (some ⟨ab, aoff, none⟩) a.length cap) ∧ w'.cell? ⟨ab, aoff + j * 2, none⟩ = some (.int .i64 (x : Int)) ∧ w'.cell? ⟨ab, aoff + j * 2 + 1, none⟩ = some (.int .i64 (y : Int)))
        (go_keep)
        (first
          | (go_at_call_of 27 (y); refine (rput27 xo xn xc (q2 ++ put x) y w5 hrx (by have h1 := hrx.len; have h2 := HQ2.out.1.len; have h3 := HN2.out.1; rw [List.length_append] at h1; omega) (by omega)).mono ?_; rintro e w6 ⟨yo, yn, yc, rfl, hry, hby⟩; have hc6 : ∀ b o, b < w5.heap.size → w6.cell? ⟨b, o, none⟩ = w5.cell? ⟨b, o, none⟩ := fun b o h => hby.cell (p := ⟨b, o, none⟩) h; have zz1 : tb < w5.heap.size := Nat.lt_of_lt_of_le hst z5; have zz2 : ab < w5.heap.size := Nat.lt_of_lt_of_le hab z5)
          | (go_at_call_of 27 (x); refine q1.mono ?_; rintro e w5 ⟨xo, xn, xc, rfl, hrx, hbx⟩; obtain ⟨hcl, hfl, z5⟩ := callee_old hbx))
      have HE : Hid (Rb w6 yo yn yc (HH ++ pat (a.take (j + 1))) ∧ Below w9.heap.size w9 w6 ∧ yn ≤ 1018 + 6 * (j + 1)) := by
        have h1 := hrx.len
        have h2 := HQ2.out.1.len
        have h3 := HN2.out
        have h4 := hry.len
        rw [List.length_append] at h1 h4
        rw [List.length_append] at h4
        have e : (q2 ++ put x) ++ put y = HH ++ pat (a.take (j + 1)) := by rw [HS.out, HQ2.out.2.2]; simp
        exact ⟨by rw [← e]; exact hry, bel_tr3 (bel_tr3 hby (bel_tr3 hbx hdr)) HQ2.out.2.1, by omega⟩
      clear hrx hry hbx hby q1
      go_wp2
      go_roundw
      case rel => exact ⟨j + 1, yo, yn, yc, _, by omega, by go_num, rfl, HE.out.1, HE.out.2.2, HE.out.2.1, rfl⟩
      case measure => simp [intOf]; omega
    · have hjn : ¬ (j : Int) < (a.length : Int) := by omega
      have hjd : decide ((j : Int) < (a.length : Int)) = false := decide_eq_false hjn
      have HJ : Hid (j = a.length) := by show _ = _; omega
      have c6 : wr.cell? ⟨tb, 6, none⟩ = some (.string tag) := (hBv.cell (p := ⟨tb, 6, none⟩) hsX).trans HCX.out.2.2.2.2.2.2.1
      have c7 : wr.cell? ⟨tb, 7, none⟩ = some (.string body) := (hBv.cell (p := ⟨tb, 7, none⟩) hsX).trans HCX.out.2.2.2.2.2.2.2
      have ht := HL.out.t
      have hb := HL.out.b
      have q1 := rptext29 o2 N2 c2 q2 tag wr.drew (hrb.kept hdr) (by omega) (by omega)
      clear hrb hbl hq hBv hja
      go_wp2_with fail
      go_region_held3 (fun w' => w'.cell? ⟨tb, 6, none⟩ = some (.string tag) ∧ w'.cell? ⟨tb, 7, none⟩ = some (.string body))
        (go_keep)
        (first
          | (go_at_call_of 29 (body); refine (rptext29 xo xn xc (q2 ++ putT tag) body w5 hrx (by have h1 := hrx.len; have h2 := HQ2.out.1.len; have h3 : (putT tag).length ≤ 1009 := (by rw [putT_len]; have := put_len 8 tag.size (by omega); omega); rw [List.length_append] at h1; omega) (by omega)).mono ?_; rintro e w6 ⟨yo, yn, yc, rfl, hry, hby⟩; have hc6 : ∀ b o, b < w5.heap.size → w6.cell? ⟨b, o, none⟩ = w5.cell? ⟨b, o, none⟩ := fun b o h => hby.cell (p := ⟨b, o, none⟩) h; have zz1 : tb < w5.heap.size := Nat.lt_of_lt_of_le hst z5)
          | (go_at_call_of 29 (tag); refine q1.mono ?_; rintro e w5 ⟨xo, xn, xc, rfl, hrx, hbx⟩; obtain ⟨hcl, hfl, z5⟩ := callee_old hbx))
      have HE : Hid (Rb w6 yo yn yc (fl ++ pv ⟨i, l, r, n, b2n dead, a, bl tag, bl body⟩) ∧ Below w.heap.size w w6) := by
        have e : (q2 ++ putT tag) ++ putT body = fl ++ pv ⟨i, l, r, n, b2n dead, a, bl tag, bl body⟩ := by
          rw [HQ2.out.2.2, HHE.out, HJ.out, List.take_length]
          unfold pv
          rw [putT_x, putT_x]
          simp only [List.append_assoc]
        have hb2 : Below X.heap.size X w6 := bel_tr3 (bel_tr3 hby (bel_tr3 hbx hdr)) HBV.out
        exact ⟨by rw [← e]; exact hry, bel_tr3 hb2 HX.out.2.2.1⟩
      clear hrx hry hbx hby q1
      go_wp2
      go_ret
      exact ⟨yo, yn, yc, rfl, HE.out.1, HE.out.2⟩

set_option maxHeartbeats 4000000 in
theorem rput14_not (fo : Option Addr) (fn fc : Nat) (fl : List Nat) (v : Vn) (al : List (Int × Int)) (w : World) (hf : Rb w fo fn fc fl) (hfn : fn ≤ 1000) (hA : Has w v al) (hm : mayI v al = false) (ht : v.tag.size ≤ 100000) (hb : v.body.size ≤ 100000) :
    Calls Tryd.prog 14 #[.slice fo fn fc, v.val] w fun e w' => ∃ xo N xc, e = .returned (.slice xo N xc) ∧ Rb w' xo N xc fl ∧ Below w.heap.size w w' := by
  obtain ⟨X, hX⟩ : ∃ X, X = w.alloc (.cells (vcells v) 26) := ⟨_, rfl⟩
  have hBX : Below w.heap.size w X := by rw [hX]; exact (Below.refl _ w).alloc (Nat.le_refl _) _
  have cm := mver24 v al X (hA.kept hBX) ht hb
  rw [hm] at cm
  have HX : Hid (X = _ ∧ Below w.heap.size w X ∧ Rb X fo fn fc fl) := ⟨hX, hBX, hf.kept hBX⟩
  clear hX hBX hf hA hm ht hb
  obtain ⟨it, L, R, N, dead, ao, len, cap, tag, body⟩ := v
  unfold Vn.val at cm ⊢
  unfold vcells at HX
  simp only at cm ⊢
  go_enter Tryd.func14, Tryd.ntmps14
  go_wp2_with fail
  rw [← HX.out.1]
  refine cm.mono ?_
  rintro e w4 ⟨rfl, hb4⟩
  have HX4 : Hid (Below w.heap.size w w4 ∧ Rb w4 fo fn fc fl) := ⟨bel_tr3 hb4 HX.out.2.1, HX.out.2.2.kept hb4⟩
  have hw4 : Below w4.heap.size w4 (w4.alloc (.cells #[] 5)) := (Below.refl _ w4).alloc (Nat.le_refl _) _
  have HA : Hid (Rb (w4.alloc (.cells #[] 5)) fo fn fc fl) := HX4.out.2.kept hw4
  have HQ : Hid (Below w4.heap.size w4 (w4.alloc (.cells #[] 5))) := hw4
  clear cm hb4 hw4
  go_wp2_with (at_builtin; refine append_rb _ rfl _ _ rfl w4.heap.size _ 0 [] rfl (World.ownsRow_made w4 #[] 0 (Nat.le_refl _) (Nat.zero_le _) rfl) fo fn fc fl rfl HA.out (by omega) (by simp) ?_)
  intro v5 w5 hown hgrow
  have HO : Hid (∃ xo xc, v5 = .slice xo fn xc ∧ Rb w5 xo fn xc fl ∧ Below w.heap.size w w5) := by
    have hown2 : w5.ownsRow w4.heap.size 5 1 v5 fn (cells fl) := by simpa using hown
    obtain ⟨xo, xc, e, hrx⟩ := own_rb hown2 HX.out.2.2.lt
    exact ⟨xo, xc, e, hrx, bel_tr3 (HQ.out.grown hgrow (by simp) (fun k hk => by simp [Value.ownBlock] at hk; omega)) HX4.out.1⟩
  clear hown hgrow HA HQ
  go_wp2
  go_ret
  obtain ⟨xo, xc, rfl, h1, h2⟩ := HO.out
  exact ⟨xo, fn, xc, rfl, h1, h2⟩

/-- cardamomref16.PutVersion. -/
theorem rput14 (fo : Option Addr) (fn fc : Nat) (fl : List Nat) (v : Vn) (al : List (Int × Int)) (w : World) (hf : Rb w fo fn fc fl) (hfn : fn ≤ 1000) (hA : Has w v al) (ht : v.tag.size ≤ 100000) (hb : v.body.size ≤ 100000) :
    Calls Tryd.prog 14 #[.slice fo fn fc, v.val] w fun e w' => ∃ xo N xc, e = .returned (.slice xo N xc) ∧ Rb w' xo N xc (fl ++ vb v al) ∧ Below w.heap.size w w' := by
  cases hm : mayI v al with
  | false =>
    have e : vb v al = [] := by unfold vb; rw [hm]; rfl
    rw [e, List.append_nil]
    exact rput14_not fo fn fc fl v al w hf hfn hA hm ht hb
  | true =>
    have e : vb v al = pv (vp v al) := by unfold vb; rw [hm]; rfl
    rw [e]
    have hm' := hm
    obtain ⟨h1, h2, h3, h4, h5, h6, h7, h8, h9, h10, h11, h12⟩ := may_parts hm
    obtain ⟨it, L, R, N, dead, ao, len, cap, tag, body⟩ := v
    simp only at h1 h2 h3 h4 h5 h6 h7 h8 h11 h12
    obtain ⟨i, rfl⟩ := Int.eq_ofNat_of_zero_le (show 0 ≤ it by omega)
    obtain ⟨l, rfl⟩ := Int.eq_ofNat_of_zero_le (show 0 ≤ L by omega)
    obtain ⟨r, rfl⟩ := Int.eq_ofNat_of_zero_le (show 0 ≤ R by omega)
    obtain ⟨n, rfl⟩ := Int.eq_ofNat_of_zero_le (show 0 ≤ N by omega)
    have ea : al = castA (al.map (fun p => (p.1.toNat, p.2.toNat))) := (map_nat al h10).symm
    have hA' : At w ao len al := hA
    have hlen : len = (al.map (fun p => (p.1.toNat, p.2.toNat))).length := by rw [List.length_map]; exact hA'.1
    have hfit : ∀ p ∈ al.map (fun p => (p.1.toNat, p.2.toNat)), p.1 < 100000 ∧ p.2 < 100000 := fun p hp => by
      obtain ⟨q, hq, rfl⟩ := List.mem_map.1 hp
      obtain ⟨a1, a2, a3, a4⟩ := h10 q hq
      simp only
      omega
    unfold vp Vn.val
    simp only [Int.toNat_natCast]
    rw [ea] at hA' hm'
    rw [hlen] at hA' hm' ⊢
    have hl3 : (al.map (fun p => (p.1.toNat, p.2.toNat))).length ≤ 3 := by rw [List.length_map]; exact h9
    generalize al.map (fun p => (p.1.toNat, p.2.toNat)) = a at *
    exact rput14_may fo fn fc fl i l r n dead ao cap a tag body w ⟨by omega, by omega, by omega, by omega, by omega, hfit, by omega, by omega⟩ hf hfn hA' hm'

end Go.Proofs.YtopkeembbopbmaaDoor
