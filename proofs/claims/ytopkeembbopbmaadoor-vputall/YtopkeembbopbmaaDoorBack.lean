/- VputBack: what is put is taken, whatever stands behind it; cut off it is none. -/
import Derived.Test.YtopkeembbopbmaaDoorBeg
import Derived.Test.YtopkeembbopbmaaDoorMak
namespace Go.Proofs.YtopkeembbopbmaaDoor
open Go.RowKit
set_option maxRecDepth 100000
set_option linter.unusedVariables false

theorem reads_rb {w : World} {ao : Option Addr} {n cap : Nat} {l : List Nat} (h : Rb w ao n cap l) : Reads8 w ao n := by
  have h1 := h.le
  have h2 := h.max
  refine ⟨by omega, ?_⟩
  rcases Nat.eq_zero_or_pos n with h0 | h0
  · exact ⟨0, 0, fun _ => 0, fun h => by omega, fun j hj => by omega⟩
  · obtain ⟨b, off, e, hc⟩ := h.at_ h0
    refine ⟨b, off, fun j => ((l.getD j 0 : Nat) : Int), fun _ => ⟨e, World.block_lt_of_cell? w ⟨b, off + 0, none⟩ (hc 0 h0)⟩, fun j hj => ⟨hc j hj, Int.natCast_nonneg _, ?_⟩⟩
    have hj' : j < l.length := by rw [h.len]; exact hj
    have := h.lt (l.getD j 0) (by rw [List.getD_eq_getElem?_getD, List.getElem?_eq_getElem hj']; exact List.getElem_mem hj')
    show ((l.getD j 0 : Nat) : Int) ≤ 255
    omega

theorem nil_lt : ∀ x ∈ ([] : List Nat), x < 256 := fun x hx => by cases hx

/-- A version out of numbers: what the law has made, and what it holds then. -/
theorem went_below {w w' : World} {o : Obj} (h : Went w.heap.size (w.alloc o) w') : Below w.heap.size w w' := by
  have h1 : Below w.heap.size w (w.alloc o) := (Below.refl _ w).alloc (Nat.le_refl _) _
  exact h1.trans (h.2.below (by simp) (fun k hk => by unfold But; omega))

set_option maxHeartbeats 8000000 in
theorem back4_short (a b : Addr) (po : Option Addr) (pn pc : Nat) (pl : List Nat) (ao : Option Addr) (n cap : Nat) (l : List Nat) (c : Nat) (w : World) (hV : Vars w a b) (hp : Rb w po pn pc pl) (hpn : pn ≤ 20) (hr : Rb w ao n cap l) (hn : n ≤ 20) (hc : c < 256) :
    Calls Tryd.prog 4 #[.slice po pn pc, .slice ao n cap, .int .u8 c] w fun r w' => r = .returned (.bool true) ∧ Below w.heap.size w w' := by
  have c1 := begun7 a b w hV
  have HV : Hid (Vars w a b) := hV
  have HR : Hid (Rb w ao n cap l) := hr
  have HP : Hid (Rb w po pn pc pl) := hp
  have hp1 : ¬ (20 : Int) < pn := by omega
  have hp2 : decide ((20 : Int) < (pn : Int)) = false := decide_eq_false hp1
  have hp3 : decide (20 < pn) = false := decide_eq_false (by omega)
  have hn1 : ¬ (20 : Int) < n := by omega
  have hn2 : decide ((20 : Int) < (n : Int)) = false := decide_eq_false hn1
  have hn3 : decide (20 < n) = false := decide_eq_false (by omega)
  clear hV hp hr
  go_enter Tryd.func4, Tryd.ntmps4
  go_wp2_with fail
  refine c1.mono ?_
  rintro r w1 ⟨rfl, hb1⟩
  have HB1 : Hid (Below w.heap.size w w1) := hb1
  have c2 := made10 po pn pc w1
  have hpk := pick_made (cap := pc) (reads_rb (HP.out.kept hb1)) (by omega)
  have HPK : Hid (Pick (w1.alloc (.cells #[.slice po pn pc, .int .i64 0] 44)) w1.heap.size) := hpk
  clear c1 hb1 hpk
  go_wp2_with fail
  refine c2.mono ?_
  rintro r w2 ⟨rfl, rfl⟩
  have c3 := version10 w1.heap.size _ HPK.out
  clear c2
  go_wp2_with fail
  refine c3.mono ?_
  rintro r w3 ⟨v, al, rfl, ⟨hv, _⟩, hm, hw⟩
  have hb3 : Below w1.heap.size w1 w3 := went_below hw
  have HB3 : Hid (Below w.heap.size w w3) := HB1.out.trans (hb3.mono HB1.out.size)
  obtain ⟨Y, hY⟩ : ∃ Y, Y = w3.alloc (.cells (vcells v) 26) := ⟨_, rfl⟩
  have hbY : Below w3.heap.size w3 Y := by rw [hY]; exact (Below.refl _ w3).alloc (Nat.le_refl _) _
  have hbwY : Below w.heap.size w Y := HB3.out.trans (hbY.mono HB3.out.size)
  have hcY : ∀ j, j < 8 → Y.cell? ⟨w3.heap.size, j, none⟩ = (vcells v)[j]? := by
    intro j hj
    rw [hY, World.cell?_alloc_at _ _ _ _ rfl]
  have htag : v.tag.size ≤ 6 := (may_parts hm).2.2.2.2.2.2.2.2.2.2.1
  have hbody : v.body.size ≤ 12 := (may_parts hm).2.2.2.2.2.2.2.2.2.2.2
  have c4 := put13 a b none 0 0 [] v al Y (HV.out.below hbwY) (Rb.none _) (by omega) (hv.kept hbY) (Nat.le_trans htag (by decide)) (Nat.le_trans hbody (by decide))
  have eP : ([] : List Nat) ++ vb v al = pv (vp v al) := by unfold vb; rw [if_pos hm]; rfl
  rw [eP] at c4
  have hsY : w3.heap.size < Y.heap.size := by rw [hY]; simp
  have HY : Hid (Y = w3.alloc (.cells (vcells v) 26) ∧ Below w3.heap.size w3 Y ∧ Below w.heap.size w Y ∧ (∀ j, j < 8 → Y.cell? ⟨w3.heap.size, j, none⟩ = (vcells v)[j]?)) := ⟨hY, hbY, hbwY, hcY⟩
  have HM : Hid (mayI v al = true ∧ Has Y v al) := ⟨hm, hv.kept hbY⟩
  have HPN : Hid (0 < (pv (vp v al)).length ∧ (pv (vp v al)).length ≤ 100) := ⟨pv_ne _, pv_len hm⟩
  have HPT : Hid (tvP mayN (pv (vp v al) ++ l) = some (vp v al, (pv (vp v al)).length)) := tvP_put hm l HR.out.lt
  have HPC : Hid (∀ k, k < (pv (vp v al)).length → tvP mayN ((pv (vp v al)).take k) = none) := fun k hk => tvP_cut hm k hk
  clear c3 hv hm hw hb3 hY hbY hbwY hcY htag hbody eP
  obtain ⟨V, hVe⟩ : ∃ V, V = vp v al := ⟨_, rfl⟩
  have HVP : Hid (Parts v al V) := by rw [hVe]; exact parts_vp HM.out.1
  rw [← hVe] at c4 HPN HPT HPC
  clear hVe
  obtain ⟨it, L, R, N, dead, vao, vlen, vcap, tag, body⟩ := v
  unfold Vn.val at c4 ⊢
  unfold vcells at HY
  simp only at c4 ⊢
  go_wp2_with fail
  rw [← HY.out.1]
  refine c4.mono ?_
  rintro r w4 ⟨xo, xn, xc, rfl, hrx, hb4⟩
  have hxn : xn = (pv V).length := hrx.len.symm
  have hx0 : 0 < xn := by have := HPN.out.1; omega
  have hx1 : xn ≤ 100 := by have := HPN.out.2; omega
  have HX4 : Hid (Rb w4 xo xn xc (pv V) ∧ Below Y.heap.size Y w4 ∧ xn = (pv V).length) := ⟨hrx, hb4, hxn⟩
  have hB4 : Below w.heap.size w w4 := HY.out.2.2.1.trans (hb4.mono HY.out.2.2.1.size)
  have HB4 : Hid (Below w.heap.size w w4 ∧ Rb w4 ao n cap l) := ⟨hB4, HR.out.kept hB4⟩
  have hx2 : decide ((xn : Int) = 0) = false := decide_eq_false (by omega)
  have hx3 : ((xn : Int) == 0) = false := beq_eq_false_iff_ne.2 (by omega)
  clear c4 hrx hb4 hB4 hxn
  have hw4 : Below w4.heap.size w4 (w4.alloc (.cells #[] 5)) := (Below.refl _ w4).alloc (Nat.le_refl _) _
  have HA : Hid (Rb (w4.alloc (.cells #[] 5)) xo xn xc (pv V)) := HX4.out.1.kept hw4
  have HQ : Hid (Below w4.heap.size w4 (w4.alloc (.cells #[] 5))) := hw4
  clear hw4
  go_wp2_with (at_builtin; refine append_rb _ rfl _ _ rfl w4.heap.size _ 0 [] rfl (World.ownsRow_made w4 #[] 0 (Nat.le_refl _) (Nat.zero_le _) rfl) xo xn xc (pv V) rfl HA.out (by omega) (by simp) ?_)
  intro v5 w5 hown hgrow
  have HO : Hid (w5.ownsRow w4.heap.size 5 1 v5 xn (cells (pv V)) ∧ Below w4.heap.size w4 w5) := ⟨by simpa using hown, HQ.out.grown hgrow (by simp) (fun k hk => by simp [Value.ownBlock] at hk; omega)⟩
  have HL5 : Hid (Rb w5 ao n cap l) := HB4.out.2.kept HO.out.2
  have hle5 := HO.out.2.size
  clear hown hgrow HA HQ
  go_wp2_with (at_builtin; refine append_rb _ rfl _ _ rfl w4.heap.size v5 _ _ rfl HO.out.1 ao n cap l rfl HL5.out (by omega) (by omega) ?_)
  intro v6 w6 hown hgrow
  have HO2 : Hid (w6.ownsRow w4.heap.size 5 1 v6 (xn + n) (cells (pv V ++ l)) ∧ Below w4.heap.size w4 w6) := ⟨by rw [cells_append]; exact hown, HO.out.2.grown hgrow (by omega) (fun k hk => (HO.out.1.lt k hk).1)⟩
  obtain ⟨zo, zc, rfl, hrz⟩ := own_rb HO2.out.1 (by intro y hy; rcases List.mem_append.1 hy with h | h; exact HX4.out.1.lt y h; exact HR.out.lt y h)
  have HB6 : Hid (Below w.heap.size w w6) := HB4.out.1.trans (HO2.out.2.mono HB4.out.1.size)
  have c6 := take11 a b zo (xn + n) zc (pv V ++ l) w6 (HV.out.below HB6.out) hrz (by omega)
  have hY4 : Below Y.heap.size Y w4 := HX4.out.2.1
  have HX6 : Hid (Rb w6 xo xn xc (pv V) ∧ Below Y.heap.size Y w6) := ⟨HX4.out.1.kept HO2.out.2, hY4.trans (HO2.out.2.mono hY4.size)⟩
  clear hown hgrow HO HO2 hrz HL5 hle5 HB4 hY4
  go_wp2_with fail
  refine c6.mono ?_
  rintro r w7 ⟨u, ul, m, ok, rfl, hat, _, _, hb7, hT⟩
  rw [HPT.out] at hT
  obtain ⟨rfl, hm7, hP7, _⟩ := hT
  obtain ⟨Z, hZ⟩ : ∃ Z, Z = w7.alloc (.cells (vcells u) 26) := ⟨_, rfl⟩
  have hbZ : Below w7.heap.size w7 Z := by rw [hZ]; exact (Below.refl _ w7).alloc (Nat.le_refl _) _
  have hb6Z : Below w6.heap.size w6 Z := hb7.trans (hbZ.mono hb7.size)
  have hcZ : ∀ j, j < 8 → Z.cell? ⟨w7.heap.size, j, none⟩ = (vcells u)[j]? := by
    intro j hj
    rw [hZ, World.cell?_alloc_at _ _ _ _ rfl]
  have hsZ : w7.heap.size < Z.heap.size := by rw [hZ]; simp
  have hwZ : Below w.heap.size w Z := HB6.out.trans (hb6Z.mono HB6.out.size)
  have HZ : Hid (Z = w7.alloc (.cells (vcells u) 26) ∧ Below w.heap.size w Z ∧ Below Y.heap.size Y Z ∧ Rb Z xo xn xc (pv V) ∧ (∀ j, j < 8 → Z.cell? ⟨w7.heap.size, j, none⟩ = (vcells u)[j]?) ∧ Has Z u ul ∧ Parts u ul V ∧ m = xn) := ⟨hZ, hwZ, HX6.out.2.trans (hb6Z.mono HX6.out.2.size), HX6.out.1.kept hb6Z, hcZ, hat.kept hbZ, hP7, by rw [hm7, HX4.out.2.2]⟩
  clear c6 hat hb7 hm7 hP7 hZ hbZ hb6Z hcZ hwZ
  obtain ⟨k, hk⟩ : ∃ k, k = c % xn := ⟨_, rfl⟩
  have hkx : k < xn := by rw [hk]; exact Nat.mod_lt _ hx0
  have ek : ((c : Int).tmod (xn : Int)) = (k : Int) := by rw [hk]; exact (Int.ofNat_tmod c xn).symm
  have ek2 : ((c : Int) % (xn : Int)) = (k : Int) := by rw [hk]; simp
  have hxc := HZ.out.2.2.2.1.le
  have hkxc : (k : Int) ≤ xc := by omega
  have hk0 : (0 : Int) ≤ k := by omega
  have hz1 : ¬ (xn : Int) = 0 := by omega
  obtain ⟨xb, xoff, rfl, _⟩ := HZ.out.2.2.2.1.at_ hx0
  have c7 := take11 a b _ k xc ((pv V).take k) Z (HV.out.below HZ.out.2.1) (rb_take HZ.out.2.2.2.1 k (by omega)) (by omega)
  have HCC : Hid (tvP mayN ((pv V).take k) = none) := HPC.out k (by have := HX4.out.2.2; omega)
  obtain ⟨uit, uL, uR, uN, udead, uao, ulen, ucap, utag, ubody⟩ := u
  have HMM : Hid (m = xn) := HZ.out.2.2.2.2.2.2.2
  obtain rfl : m = xn := HMM.out
  unfold vcells at HZ
  unfold Vn.val
  simp only
  clear hk HX6 HB6 HPC HMM
  go_wp2_with fail
  rw [← HZ.out.1]
  refine c7.mono ?_
  rintro r w8 ⟨u3, al3, m3, ok3, rfl, _, _, _, hb8, hT⟩
  rw [HCC.out] at hT
  obtain ⟨rfl, rfl, rfl, rfl⟩ := hT
  obtain ⟨X, hX⟩ : ∃ X, X = w8.alloc (.cells (vcells ⟨0, 0, 0, 0, false, none, 0, 0, ⟨#[]⟩, ⟨#[]⟩⟩) 26) := ⟨_, rfl⟩
  have hbX : Below w8.heap.size w8 X := by rw [hX]; exact (Below.refl _ w8).alloc (Nat.le_refl _) _
  have hY8 : Below Y.heap.size Y w8 := HZ.out.2.2.1.trans (hb8.mono HZ.out.2.2.1.size)
  have hwX : Below w.heap.size w X := HZ.out.2.1.trans ((hb8.trans (hbX.mono hb8.size)).mono HZ.out.2.1.size)
  have g1 : ∀ j, j < 8 → w8.cell? ⟨w3.heap.size, j, none⟩ = _ := fun j hj => (hY8.cell (p := ⟨w3.heap.size, j, none⟩) hsY).trans (HY.out.2.2.2 j hj)
  have g2 : ∀ j, j < 8 → w8.cell? ⟨w7.heap.size, j, none⟩ = _ := fun j hj => (hb8.cell (p := ⟨w7.heap.size, j, none⟩) hsZ).trans (HZ.out.2.2.2.2.1 j hj)
  have p0 : w8.cell? ⟨w3.heap.size, 0, none⟩ = some (.int .i64 it) := g1 0 (by omega)
  have p1 : w8.cell? ⟨w3.heap.size, 1, none⟩ = some (.int .i64 L) := g1 1 (by omega)
  have p2 : w8.cell? ⟨w3.heap.size, 2, none⟩ = some (.int .i64 R) := g1 2 (by omega)
  have p3 : w8.cell? ⟨w3.heap.size, 3, none⟩ = some (.int .i64 N) := g1 3 (by omega)
  have p4 : w8.cell? ⟨w3.heap.size, 4, none⟩ = some (.bool dead) := g1 4 (by omega)
  have p5 : w8.cell? ⟨w3.heap.size, 5, none⟩ = some (.slice vao vlen vcap) := g1 5 (by omega)
  have p6 : w8.cell? ⟨w3.heap.size, 6, none⟩ = some (.string tag) := g1 6 (by omega)
  have p7 : w8.cell? ⟨w3.heap.size, 7, none⟩ = some (.string body) := g1 7 (by omega)
  have q0 : w8.cell? ⟨w7.heap.size, 0, none⟩ = some (.int .i64 uit) := g2 0 (by omega)
  have q1 : w8.cell? ⟨w7.heap.size, 1, none⟩ = some (.int .i64 uL) := g2 1 (by omega)
  have q2 : w8.cell? ⟨w7.heap.size, 2, none⟩ = some (.int .i64 uR) := g2 2 (by omega)
  have q3 : w8.cell? ⟨w7.heap.size, 3, none⟩ = some (.int .i64 uN) := g2 3 (by omega)
  have q4 : w8.cell? ⟨w7.heap.size, 4, none⟩ = some (.bool udead) := g2 4 (by omega)
  have q5 : w8.cell? ⟨w7.heap.size, 5, none⟩ = some (.slice uao ulen ucap) := g2 5 (by omega)
  have q6 : w8.cell? ⟨w7.heap.size, 6, none⟩ = some (.string utag) := g2 6 (by omega)
  have q7 : w8.cell? ⟨w7.heap.size, 7, none⟩ = some (.string ubody) := g2 7 (by omega)
  have hs3 : w3.heap.size < w8.heap.size := Nat.lt_of_lt_of_le hsY hY8.size
  have hs7 : w7.heap.size < w8.heap.size := Nat.lt_of_lt_of_le hsZ hb8.size
  have c8 := same15 ⟨it, L, R, N, dead, vao, vlen, vcap, tag, body⟩ ⟨uit, uL, uR, uN, udead, uao, ulen, ucap, utag, ubody⟩ al ul X ((HM.out.2.kept hY8).kept hbX) (((HZ.out.2.2.2.2.2.1 : At Z uao ulen ul).kept hb8).kept hbX)
  rw [sm_parts HVP.out HZ.out.2.2.2.2.2.2.1] at c8
  unfold Vn.val at c8
  simp only at c8
  have HXE : Hid (X = _ ∧ Below w.heap.size w X) := ⟨hX, hwX⟩
  unfold vcells at HXE
  clear c7 hb8 hbX hY8 hwX g1 g2 hX
  unfold Vn.val
  simp only
  go_wp2_with fail
  rw [← HXE.out.1]
  refine c8.mono ?_
  rintro r w9 ⟨rfl, hb9⟩
  have HB9 : Hid (Below w.heap.size w w9) := HXE.out.2.trans (hb9.mono HXE.out.2.size)
  clear c8 hb9 p0 p1 p2 p3 p4 p5 p6 p7 q0 q1 q2 q3 q4 q5 q6 q7
  go_wp2
  go_ret
  exact ⟨rfl, HB9.out⟩

set_option maxHeartbeats 1000000 in
theorem back4_long (a b : Addr) (po : Option Addr) (pn pc : Nat) (ao : Option Addr) (n cap : Nat) (c : Nat) (w : World) (hV : Vars w a b) (h : 20 < pn ∨ 20 < n) (h1 : pn ≤ maxLen) (h2 : n ≤ maxLen) :
    Calls Tryd.prog 4 #[.slice po pn pc, .slice ao n cap, .int .u8 c] w fun r w' => r = .returned (.bool true) ∧ Below w.heap.size w w' := by
  have c1 := begun7 a b w hV
  clear hV
  by_cases h1 : 20 < pn
  · have hs1 : (20 : Int) < pn := by omega
    have hs2 : decide ((20 : Int) < (pn : Int)) = true := decide_eq_true hs1
    have hs3 : decide (20 < pn) = true := decide_eq_true h1
    go_enter Tryd.func4, Tryd.ntmps4
    go_wp2_with fail
    refine c1.mono ?_
    rintro r w1 ⟨rfl, hb1⟩
    have HB1 : Hid (Below w.heap.size w w1) := hb1
    clear c1 hb1
    go_wp2
    go_ret
    exact ⟨rfl, HB1.out⟩
  · have hs1 : ¬ (20 : Int) < pn := by omega
    have hs2 : decide ((20 : Int) < (pn : Int)) = false := decide_eq_false hs1
    have hs3 : decide (20 < pn) = false := decide_eq_false h1
    have h2 : 20 < n := by omega
    have hn1 : (20 : Int) < n := by omega
    have hn2 : decide ((20 : Int) < (n : Int)) = true := decide_eq_true hn1
    have hn3 : decide (20 < n) = true := decide_eq_true h2
    clear h
    go_enter Tryd.func4, Tryd.ntmps4
    go_wp2_with fail
    refine c1.mono ?_
    rintro r w1 ⟨rfl, hb1⟩
    have HB1 : Hid (Below w.heap.size w w1) := hb1
    clear c1 hb1
    go_wp2
    go_ret
    exact ⟨rfl, HB1.out⟩

/-- VputBack. -/
theorem back4 (a b : Addr) (po : Option Addr) (pn pc : Nat) (pl : List Nat) (ao : Option Addr) (n cap : Nat) (l : List Nat) (c : Nat) (w : World) (hV : Vars w a b) (hp : Rb w po pn pc pl) (hr : Rb w ao n cap l) (hc : c < 256) :
    Calls Tryd.prog 4 #[.slice po pn pc, .slice ao n cap, .int .u8 c] w fun r w' => r = .returned (.bool true) ∧ Below w.heap.size w w' := by
  by_cases h : 20 < pn ∨ 20 < n
  · exact back4_long a b po pn pc ao n cap c w hV h (Nat.le_trans hp.le hp.max) (Nat.le_trans hr.le hr.max)
  · exact back4_short a b po pn pc pl ao n cap l c w hV hp (by omega) hr (by omega) hc

end Go.Proofs.YtopkeembbopbmaaDoor
