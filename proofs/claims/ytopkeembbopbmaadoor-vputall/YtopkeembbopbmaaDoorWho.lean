/- vput.whole: a version as bytes. -/
import Derived.Test.YtopkeembbopbmaaDoorWpu
import Derived.Test.YtopkeembbopbmaaDoorRdq
namespace Go.Proofs.YtopkeembbopbmaaDoor
open Go.RowKit
set_option maxRecDepth 100000
set_option linter.unusedVariables false

theorem put_3 {v : Nat} (h : v < 100000) : (put v).length ≤ 3 := put_len 2 v (by omega)

/-- The first numbers of a version. -/
def heads (i l r n d k : Nat) : List Nat := [i, l, r, n, d, k]
theorem heads_step (i l r n d k j : Nat) (h : j < 6) : ((heads i l r n d k).take (j + 1)).flatMap put = ((heads i l r n d k).take j).flatMap put ++ put ((heads i l r n d k).getD j 0) := by
  have hl : j < (heads i l r n d k).length := h
  rw [List.take_succ_eq_append_getElem hl, List.flatMap_append, List.getD_eq_getElem?_getD, List.getElem?_eq_getElem hl]
  simp
theorem pat_step (a : List (Nat × Nat)) (j : Nat) (h : j < a.length) : pat (a.take (j + 1)) = pat (a.take j) ++ (put (a.getD j (0, 0)).1 ++ put (a.getD j (0, 0)).2) := by
  rw [List.take_succ_eq_append_getElem h, pat_snoc, List.getD_eq_getElem?_getD, List.getElem?_eq_getElem h]; rfl
theorem castA_get (a : List (Nat × Nat)) (j : Nat) : (castA a).getD j (0, 0) = (((a.getD j (0, 0)).1 : Int), ((a.getD j (0, 0)).2 : Int)) := by
  unfold castA
  rw [List.getD_eq_getElem?_getD, List.getD_eq_getElem?_getD, List.getElem?_map]
  cases a[j]? <;> rfl
theorem castA_len (a : List (Nat × Nat)) : (castA a).length = a.length := by simp [castA]
theorem putT_x (s : ByteArray) : putT s = putx (bl s) := by unfold putT putx; rw [bl_len]

/-- What a version's parts must be to be put. -/
structure Lite (i l r n : Nat) (a : List (Nat × Nat)) (tag body : ByteArray) : Prop where
  i : i < 100000
  l : l < 100000
  r : r < 100000
  n : n < 100000
  k : a.length ≤ 1000
  a : ∀ p ∈ a, p.1 < 100000 ∧ p.2 < 100000
  t : tag.size ≤ 1000
  b : body.size ≤ 1000

theorem Lite.head {i l r n : Nat} {a : List (Nat × Nat)} {tag body : ByteArray} (h : Lite i l r n a tag body) (d : Bool) (j : Nat) : (heads i l r n (b2n d) a.length).getD j 0 < 100000 := by
  have h1 := h.i; have h2 := h.l; have h3 := h.r; have h4 := h.n; have h5 := h.k
  have h6 : b2n d < 100000 := by unfold b2n; split <;> omega
  match j with
  | 0 => exact h1
  | 1 => exact h2
  | 2 => exact h3
  | 3 => exact h4
  | 4 => exact h6
  | 5 => show a.length < _; omega
  | j + 6 => show 0 < _; omega

theorem Lite.at_ {i l r n : Nat} {a : List (Nat × Nat)} {tag body : ByteArray} (h : Lite i l r n a tag body) (j : Nat) : (a.getD j (0, 0)).1 < 100000 ∧ (a.getD j (0, 0)).2 < 100000 := by
  rw [List.getD_eq_getElem?_getD]
  cases e : a[j]? with
  | none => exact ⟨by show 0 < _; omega, by show 0 < _; omega⟩
  | some p => exact h.a p (List.mem_of_getElem? e)

set_option maxHeartbeats 8000000 in
theorem whole26 (i l r n : Nat) (dead : Bool) (ao : Option Addr) (cap : Nat) (a : List (Nat × Nat)) (tag body : ByteArray) (w : World) (hL : Lite i l r n a tag body) (hA : At w ao a.length (castA a)) :
    Calls Tryd.prog 26 #[.agg #[.int .i64 i, .int .i64 l, .int .i64 r, .int .i64 n, .bool dead, .slice ao a.length cap, .string tag, .string body]] w fun e w' => ∃ xo N xc, e = .returned (.slice xo N xc) ∧ Rb w' xo N xc (pv ⟨i, l, r, n, b2n dead, a, bl tag, bl body⟩) ∧ Below w.heap.size w w' := by
  have hk := hL.k
  have HL : Hid (Lite i l r n a tag body) := hL
  obtain ⟨tb, htb⟩ : ∃ tb, tb = w.heap.size := ⟨_, rfl⟩
  obtain ⟨X, hX⟩ : ∃ X, X = w.alloc (.cells #[.int .i64 i, .int .i64 l, .int .i64 r, .int .i64 n, .bool dead, .slice ao a.length cap, .string tag, .string body] 26) := ⟨_, rfl⟩
  have hBX : Below w.heap.size w X := by rw [hX]; exact (Below.refl _ w).alloc (Nat.le_refl _) _
  have x0 : X.cell? ⟨tb, 0, none⟩ = some (.int .i64 i) := by subst htb; rw [hX]; simp
  have x1 : X.cell? ⟨tb, 1, none⟩ = some (.int .i64 l) := by subst htb; rw [hX]; simp
  have x2 : X.cell? ⟨tb, 2, none⟩ = some (.int .i64 r) := by subst htb; rw [hX]; simp
  have x3 : X.cell? ⟨tb, 3, none⟩ = some (.int .i64 n) := by subst htb; rw [hX]; simp
  have x4 : X.cell? ⟨tb, 4, none⟩ = some (.bool dead) := by subst htb; rw [hX]; simp
  have x5 : X.cell? ⟨tb, 5, none⟩ = some (.slice ao a.length cap) := by subst htb; rw [hX]; simp
  have x6 : X.cell? ⟨tb, 6, none⟩ = some (.string tag) := by subst htb; rw [hX]; simp
  have x7 : X.cell? ⟨tb, 7, none⟩ = some (.string body) := by subst htb; rw [hX]; simp
  have hsX : tb < X.heap.size := by subst htb; rw [hX]; simp
  have HX : Hid (X = _ ∧ tb = w.heap.size ∧ Below w.heap.size w X ∧ At X ao a.length (castA a)) := ⟨hX, htb, hBX, hA.kept hBX⟩
  have H5 : Hid (X.cell? ⟨tb, 5, none⟩ = some (.slice ao a.length cap) ∧ X.cell? ⟨tb, 6, none⟩ = some (.string tag) ∧ X.cell? ⟨tb, 7, none⟩ = some (.string body)) := ⟨x5, x6, x7⟩
  clear hL hA hBX hX htb x6 x7
  go_enter Tryd.func26, Tryd.ntmps26
  go_wp2_with fail
  rw [← HX.out.1, ← HX.out.2.1]
  have cf := flag44 dead
  go_region_held3 (fun w' => w'.cell? ⟨tb, 0, none⟩ = some (.int .i64 i) ∧ w'.cell? ⟨tb, 1, none⟩ = some (.int .i64 l) ∧ w'.cell? ⟨tb, 2, none⟩ = some (.int .i64 r) ∧ w'.cell? ⟨tb, 3, none⟩ = some (.int .i64 n) ∧ w'.cell? ⟨tb, 4, none⟩ = some (.bool dead) ∧ w'.cell? ⟨tb, 5, none⟩ = some (.slice ao a.length cap))
    (go_keep)
    (first | (go_at_call 44; refine (cf _).mono ?_; rintro e w5 ⟨rfl, rfl⟩))
  go_wp2_with fail
  obtain ⟨Y, hY⟩ : ∃ Y, Y = (X.alloc (.cells #[.int .i64 i, .int .i64 l, .int .i64 r, .int .i64 n, .int .i64 (b2n dead : Nat), .int .i64 a.length] 3)).drew := ⟨_, rfl⟩
  rw [← hY]
  have hbY : Below X.heap.size X Y := by rw [hY]; exact ((Below.refl _ X).alloc (Nat.le_refl _) _).drew
  have hcY : ∀ j, j < 6 → Y.cell? ⟨X.heap.size, j, none⟩ = some (.int .i64 ((heads i l r n (b2n dead) a.length).getD j 0 : Nat)) := by
    intro j hj
    rw [hY]
    show (X.alloc _).cell? _ = _
    rw [World.cell?_alloc_at _ _ _ _ rfl]
    match j, hj with
    | 0, _ => rfl
    | 1, _ => rfl
    | 2, _ => rfl
    | 3, _ => rfl
    | 4, _ => rfl
    | 5, _ => rfl
  have hsY : X.heap.size < Y.heap.size := by rw [hY]; show _ < (X.alloc _).heap.size; simp
  obtain ⟨nb, hnb⟩ : ∃ nb, nb = X.heap.size := ⟨_, rfl⟩
  rw [← hnb] at hcY hsY hbY ⊢
  have HY : Hid (Below X.heap.size X Y ∧ (∀ j, j < 6 → Y.cell? ⟨nb, j, none⟩ = some (.int .i64 ((heads i l r n (b2n dead) a.length).getD j 0 : Nat))) ∧ nb = X.heap.size) := ⟨by rw [← hnb]; exact hbY, hcY, hnb⟩
  clear hY hbY hcY hnb x0 x1 x2 x3 x4 x5 cf
  go_loopw [3, 27] (fun bs ix wr => ∃ (j : Nat) (o : Option Addr) (N c : Nat) (q : List Nat), j ≤ 6 ∧ ix = .int .i64 j ∧ bs = .slice o N c ∧ Rb wr o N c q ∧ N ≤ 3 * j ∧ Below Y.heap.size Y wr ∧ q = ((heads i l r n (b2n dead) a.length).take j).flatMap put) (fun _ ix _ => 6 - (intOf ix).toNat)
  case atStart => exact ⟨0, none, 0, 0, [], by omega, rfl, rfl, Rb.none _, by omega, Below.refl _ _, rfl⟩
  case round =>
    obtain ⟨j, o, N, c, q, hj, rfl, rfl, hrb, hN, hbl, hq⟩ := hrel
    have HQ : Hid (Rb wr o N c q ∧ Below Y.heap.size Y wr ∧ q = ((heads i l r n (b2n dead) a.length).take j).flatMap put) := ⟨hrb, hbl, hq⟩
    by_cases hj6 : j < 6
    · have hcell := (hbl.cell (p := ⟨nb, j, none⟩) hsY).trans (HY.out.2.1 j hj6)
      have hxl := HL.out.head dead j
      have HS : Hid (((heads i l r n (b2n dead) a.length).take (j + 1)).flatMap put = ((heads i l r n (b2n dead) a.length).take j).flatMap put ++ put ((heads i l r n (b2n dead) a.length).getD j 0)) := heads_step _ _ _ _ _ _ j hj6
      generalize (heads i l r n (b2n dead) a.length).getD j 0 = x at *
      have c1 := put45 o N c q x wr hrb (by omega) (by omega)
      clear hrb hbl hq
      go_wp2_with fail
      refine c1.mono ?_
      rintro e w2 ⟨xo, xn, xc, rfl, hrx, hbx⟩
      have HX2 : Hid (Rb w2 xo xn xc (q ++ put x) ∧ Below Y.heap.size Y w2) := ⟨hrx, HQ.out.2.1.trans (hbx.mono HQ.out.2.1.size)⟩
      have hxn : xn ≤ 3 * (j + 1) := by
        have h1 := hrx.len
        have h2 := HQ.out.1.len
        have h3 := put_3 hxl
        rw [List.length_append] at h1
        omega
      clear c1 hrx hbx
      go_wp2
      go_roundw
      case rel => exact ⟨j + 1, xo, xn, xc, _, by omega, by go_num, rfl, HX2.out.1, hxn, HX2.out.2, by rw [HS.out, ← HQ.out.2.2]⟩
      case measure => simp [intOf]; omega
    · have HJ : Hid (j = 6) := by show _ = _; omega
      have hg6 : ¬ (j : Int) < 6 := by omega
      have hN18 : N ≤ 18 := by omega
      have hYs := HQ.out.2.1.size
      have htY : tb < Y.heap.size := by have := HY.out.2.2; omega
      have c5 : wr.cell? ⟨tb, 5, none⟩ = some (.slice ao a.length cap) := (hbl.cell (p := ⟨tb, 5, none⟩) htY).trans ((HY.out.1.cell (p := ⟨tb, 5, none⟩) hsX).trans H5.out.1)
      have HH : Hid (q = put i ++ (put l ++ (put r ++ (put n ++ (put (b2n dead) ++ put a.length))))) := by
        show _ = _
        rw [hq, HJ.out]; simp [heads]
      clear hrb hbl hq hN hj
      obtain ⟨wo, rfl⟩ : ∃ wo, wo = wr := ⟨_, rfl⟩
      go_wp2_with fail
      go_loopw [3, 38] (fun bs ix wr => ∃ (j : Nat) (o2 : Option Addr) (N2 c2 : Nat) (q2 : List Nat), j ≤ a.length ∧ ix = .int .i64 j ∧ bs = .slice o2 N2 c2 ∧ Rb wr o2 N2 c2 q2 ∧ N2 ≤ 18 + 6 * j ∧ Below wo.heap.size wo wr ∧ q2 = q ++ pat (a.take j)) (fun _ ix _ => a.length - (intOf ix).toNat)
      case atStart => exact ⟨0, o, N, c, q, by omega, rfl, rfl, HQ.out.1, by omega, Below.refl _ _, by simp [pat]⟩
      case round =>
        obtain ⟨j, o2, N2, c2, q2, hj, rfl, rfl, hrb, hN2, hbl, hq⟩ := hrel
        have HQ2 : Hid (Rb wr o2 N2 c2 q2 ∧ Below wo.heap.size wo wr ∧ q2 = q ++ pat (a.take j)) := ⟨hrb, hbl, hq⟩
        have hBv : Below X.heap.size X wr := HY.out.1.trans ((HQ.out.2.1.mono HY.out.1.size).trans (hbl.mono (Nat.le_trans HY.out.1.size hYs)))
        have hsv : X.heap.size ≤ wr.heap.size := hBv.size
        by_cases hja : j < a.length
        · have hat := (HX.out.2.2.2.kept hBv).2.2 (by omega)
          obtain ⟨ab, aoff, rfl, hcc⟩ := hat
          obtain ⟨g0, g1⟩ := hcc j hja
          rw [castA_get] at g0 g1
          have hxl := HL.out.at_ j
          have HS : Hid (pat (a.take (j + 1)) = pat (a.take j) ++ (put (a.getD j (0, 0)).1 ++ put (a.getD j (0, 0)).2)) := pat_step a j hja
          generalize a.getD j (0, 0) = xy at *
          obtain ⟨x, y⟩ := xy
          simp only at g0 g1 hxl
          obtain ⟨hx1, hy1⟩ := hxl
          obtain ⟨Z, hZ⟩ : ∃ Z, Z = wr.alloc (.cells #[.int .i64 (x : Int), .int .i64 (y : Int)] 42) := ⟨_, rfl⟩
          have hbZ : Below wr.heap.size wr Z := by rw [hZ]; exact (Below.refl _ wr).alloc (Nat.le_refl _) _
          have z0 : Z.cell? ⟨wr.heap.size, 0, none⟩ = some (.int .i64 (x : Int)) := by rw [hZ]; simp
          have z1 : Z.cell? ⟨wr.heap.size, 1, none⟩ = some (.int .i64 (y : Int)) := by rw [hZ]; simp
          have hsZ : wr.heap.size < Z.heap.size := by rw [hZ]; simp
          have HZ : Hid (Z = _ ∧ Below wr.heap.size wr Z) := ⟨hZ, hbZ⟩
          have hdr : Below Z.heap.size Z Z.drew := (Below.refl _ Z).drew
          have q1 := put45 o2 N2 c2 q2 x Z.drew ((hrb.kept hbZ).kept hdr) (by omega) (by omega)
          have HN : Hid ((put x).length ≤ 3 ∧ (put y).length ≤ 3) := ⟨put_3 hx1, put_3 hy1⟩
          have hN2' : N2 ≤ 6018 := by omega
          clear hrb hbl hq hcc hZ hbZ hBv
          go_wp2_with fail
          rw [← HZ.out.1]
          go_region_held3 (fun w' => w'.cell? ⟨wr.heap.size, 0, none⟩ = some (.int .i64 (x : Int)) ∧ w'.cell? ⟨wr.heap.size, 1, none⟩ = some (.int .i64 (y : Int)))
            (go_keep)
            (first
              | (go_at_call_of 45 (y); refine (put45 xo xn xc (q2 ++ put x) y w5 hrx (by have h1 := hrx.len; have h2 := HQ2.out.1.len; have h3 := HN.out.1; rw [List.length_append] at h1; omega) (by omega)).mono ?_; rintro e w6 ⟨yo, yn, yc, rfl, hry, hby⟩; have hc6 : ∀ b o, b < w5.heap.size → w6.cell? ⟨b, o, none⟩ = w5.cell? ⟨b, o, none⟩ := fun b o h => hby.cell (p := ⟨b, o, none⟩) h; have zz1 : wr.heap.size < w5.heap.size := Nat.lt_of_lt_of_le hsZ z5)
              | (go_at_call_of 45 (x); refine q1.mono ?_; rintro e w5 ⟨xo, xn, xc, rfl, hrx, hbx⟩; obtain ⟨hcl, hfl, z5⟩ := callee_old hbx))
          have HE : Hid (Rb w6 yo yn yc (q ++ pat (a.take (j + 1))) ∧ Below wo.heap.size wo w6 ∧ yn ≤ 18 + 6 * (j + 1)) := by
            have h1 := hrx.len
            have h2 := HQ2.out.1.len
            have h3 := HN.out
            have h4 := hry.len
            rw [List.length_append] at h1 h4
            rw [List.length_append] at h4
            have e : (q2 ++ put x) ++ put y = q ++ pat (a.take (j + 1)) := by rw [HS.out, HQ2.out.2.2]; simp
            have hb1 : Below wo.heap.size wo Z := HQ2.out.2.1.trans (HZ.out.2.mono HQ2.out.2.1.size)
            have hb2 : Below Z.heap.size Z w6 := hdr.trans ((hbx.mono (Nat.le_refl _)).trans (hby.mono hbx.size))
            exact ⟨by rw [← e]; exact hry, hb1.trans (hb2.mono hb1.size), by omega⟩
          clear hrx hry hbx hby q1
          go_wp2
          go_roundw
          case rel => exact ⟨j + 1, yo, yn, yc, _, by omega, by go_num, rfl, HE.out.1, HE.out.2.2, HE.out.2.1, rfl⟩
          case measure => simp [intOf]; omega
        · obtain rfl : j = a.length := by omega
          have hbo : Below X.heap.size X wo := HY.out.1.trans (HQ.out.2.1.mono HY.out.1.size)
          have c6 : wr.cell? ⟨tb, 6, none⟩ = some (.string tag) := (hBv.cell (p := ⟨tb, 6, none⟩) hsX).trans H5.out.2.1
          have c7 : wr.cell? ⟨tb, 7, none⟩ = some (.string body) := (hBv.cell (p := ⟨tb, 7, none⟩) hsX).trans H5.out.2.2
          have hst : tb < wr.heap.size := Nat.lt_of_lt_of_le hsX hsv
          have hdr : Below wr.heap.size wr wr.drew := (Below.refl _ wr).drew
          have ht := HL.out.t
          have hb := HL.out.b
          have q1 := ptext46 o2 N2 c2 q2 tag wr.drew (hrb.kept hdr) (by omega) (by omega)
          have HBV : Hid (Below X.heap.size X wr) := hBv
          have hN2' : N2 ≤ 6018 := by omega
          clear hrb hbl hq hBv hbo
          go_wp2_with fail
          go_region_held3 (fun w' => w'.cell? ⟨tb, 6, none⟩ = some (.string tag) ∧ w'.cell? ⟨tb, 7, none⟩ = some (.string body))
            (go_keep)
            (first
              | (go_at_call_of 46 (body); refine (ptext46 xo xn xc (q2 ++ putT tag) body w5 hrx (by have h1 := hrx.len; have h2 := HQ2.out.1.len; have h3 : (putT tag).length ≤ 1009 := (by rw [putT_len]; have := put_len 8 tag.size (by omega); omega); rw [List.length_append] at h1; omega) (by omega)).mono ?_; rintro e w6 ⟨yo, yn, yc, rfl, hry, hby⟩; have hc6 : ∀ b o, b < w5.heap.size → w6.cell? ⟨b, o, none⟩ = w5.cell? ⟨b, o, none⟩ := fun b o h => hby.cell (p := ⟨b, o, none⟩) h; have zz1 : tb < w5.heap.size := Nat.lt_of_lt_of_le hst z5)
              | (go_at_call_of 46 (tag); refine q1.mono ?_; rintro e w5 ⟨xo, xn, xc, rfl, hrx, hbx⟩; obtain ⟨hcl, hfl, z5⟩ := callee_old hbx))
          have HE : Hid (Rb w6 yo yn yc (pv ⟨i, l, r, n, b2n dead, a, bl tag, bl body⟩) ∧ Below w.heap.size w w6) := by
            have e : (q2 ++ putT tag) ++ putT body = pv ⟨i, l, r, n, b2n dead, a, bl tag, bl body⟩ := by
              rw [HQ2.out.2.2, HH.out, List.take_length]
              unfold pv
              rw [putT_x, putT_x]
              simp only [List.append_assoc]
            have hb1 : Below wr.heap.size wr w6 := hdr.trans ((hbx.mono (Nat.le_refl _)).trans (hby.mono hbx.size))
            have hb2 : Below X.heap.size X w6 := HBV.out.trans (hb1.mono hsv)
            have hb3 := HX.out.2.2.1
            exact ⟨by rw [← e]; exact hry, hb3.trans (hb2.mono hb3.size)⟩
          clear hrx hry hbx hby q1
          go_wp2
          go_ret
          exact ⟨yo, yn, yc, rfl, HE.out.1, HE.out.2⟩

end Go.Proofs.YtopkeembbopbmaaDoor
