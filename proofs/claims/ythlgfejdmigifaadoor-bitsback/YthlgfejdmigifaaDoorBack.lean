/- BitsBack: what is put is taken, whatever stands behind it; cut off it is none. -/
import Derived.Test.YthlgfejdmigifaaDoorOne
namespace Go.Proofs.YthlgfejdmigifaaDoor
open Go.RowKit
set_option maxRecDepth 100000
set_option linter.unusedVariables false

theorem tkText_put (s : ByteArray) (l : List Nat) (hs : s.size < 34359738368) : tkText (putT s ++ l) = some (bl s, (putT s).length) := by
  have e : putT s ++ l = put s.size ++ (bl s ++ l) := by simp [putT]
  have h := take_put s.size (bl s ++ l) hs
  unfold tkText
  rw [e, h]
  have hb := bl_len s
  have hle : ¬ (put s.size ++ (bl s ++ l)).length - (put s.size).length < s.size := by simp; omega
  simp only [if_neg hle]
  rw [List.drop_left]
  have e2 : (bl s ++ l).take s.size = bl s := by rw [← hb]; exact List.take_left
  rw [e2, putT_len]

theorem take5_cut (v m : Nat) (h : m < (put v).length) : take5 ((put v).take m) = none := tk_cut 5 false v m h

theorem tkText_cut (s : ByteArray) (m : Nat) (hs : s.size < 34359738368) (h : m < (putT s).length) : tkText ((putT s).take m) = none := by
  have hb := bl_len s
  by_cases hm : m < (put s.size).length
  · have e : (putT s).take m = (put s.size).take m := by
      unfold putT
      rw [List.take_append_of_le_length (by omega)]
    unfold tkText
    rw [e, take5_cut s.size m hm]
  · have e : (putT s).take m = put s.size ++ (bl s).take (m - (put s.size).length) := by
      unfold putT
      rw [List.take_append, List.take_of_length_le (by omega)]
    have ht := take_put s.size ((bl s).take (m - (put s.size).length)) hs
    unfold tkText
    rw [e, ht]
    rw [putT_len] at h
    have hlt : (put s.size ++ (bl s).take (m - (put s.size).length)).length - (put s.size).length < s.size := by simp; omega
    simp only [if_pos hlt]

set_option maxHeartbeats 4000000 in
theorem back4_short (a : Addr) (v : Nat) (s : ByteArray) (ao : Option Addr) (n cap : Nat) (l : List Nat) (c : Nat) (w : World) (hg : Err w a) (hv : v < 4294967296) (hs : s.size ≤ 200) (hr : Rb w ao n cap l) (hn : n ≤ 20) (hc : c < 256) :
    Calls Tryd.prog 4 #[.int .u32 v, .string s, .slice ao n cap, .int .u8 c] w fun r w' => r = .returned (.bool true) ∧ Below w.heap.size w w' := by
  have c1 := begun7 a w hg
  have HG : Hid (Err w a) := hg
  have HR : Hid (Rb w ao n cap l) := hr
  have hn1 : ¬ (20 : Int) < n := by omega
  have hn2 : decide ((20 : Int) < (n : Int)) = false := decide_eq_false hn1
  have hn3 : decide (20 < n) = false := decide_eq_false (by omega)
  have hs1 : ¬ (200 : Int) < s.size := by omega
  have hs2 : decide ((200 : Int) < (s.size : Int)) = false := decide_eq_false hs1
  have hs3 : decide (200 < s.size) = false := decide_eq_false (by omega)
  have hpl : (put v).length ≤ 5 := put_len 4 v (by omega)
  have hpn := put_ne v
  have hpl2 : (put s.size).length ≤ 2 := put_len 1 s.size (by omega)
  have hpn2 := put_ne s.size
  have hTl := putT_len s
  have hT5 : take5 (put v ++ l) = some (v, (put v).length) := take_put v l (by omega)
  have hTT : tkText (putT s ++ l) = some (bl s, (putT s).length) := tkText_put s l (by omega)
  have HT : Hid (take5 (put v ++ l) = some (v, (put v).length) ∧ tkText (putT s ++ l) = some (bl s, (putT s).length)) := ⟨hT5, hTT⟩
  obtain ⟨N, hN⟩ : ∃ N, N = (put v).length := ⟨_, rfl⟩
  obtain ⟨M, hM⟩ : ∃ M, M = (putT s).length := ⟨_, rfl⟩
  have HN : Hid (N = (put v).length ∧ M = (putT s).length) := ⟨hN, hM⟩
  have hN5 : N ≤ 5 := by omega
  have hN0 : 0 < N := by omega
  have hM5 : M ≤ 300 := by omega
  have hM0 : 0 < M := by omega
  clear hg hr hT5 hTT hpl hpn hpl2 hpn2 hTl hN hM
  go_enter Tryd.func4, Tryd.ntmps4
  go_wp2_with fail
  refine c1.mono ?_
  rintro r w1 ⟨rfl, hb1⟩
  have HB1 : Hid (Below w.heap.size w w1) := hb1
  have c2 := put8_nil v w1 (by omega)
  clear c1 hb1
  go_wp2_with fail
  refine c2.mono ?_
  rintro r w2 ⟨xo, xn, xc, rfl, hrx, hb2⟩
  have exn : xn = N := by rw [HN.out.1]; exact hrx.len.symm
  subst exn
  have HX : Hid (Rb w2 xo xn xc (put v)) := hrx
  have HB2 : Hid (Below w.heap.size w w2) := HB1.out.trans (hb2.mono HB1.out.size)
  have c3 := ptext10_nil s w2 (by omega)
  clear c2 hrx hb2 HB1
  go_wp2_with fail
  refine c3.mono ?_
  rintro r w3 ⟨yo, yn, yc, rfl, hry, hb3⟩
  have eyn : yn = M := by rw [HN.out.2]; exact hry.len.symm
  subst eyn
  have HY : Hid (Rb w3 yo yn yc (putT s)) := hry
  have HX3 : Hid (Rb w3 xo xn xc (put v)) := HX.out.kept hb3
  have HB3 : Hid (Below w.heap.size w w3) := HB2.out.trans (hb3.mono HB2.out.size)
  have hx0 : decide ((xn : Int) = 0) = false := decide_eq_false (by omega)
  have hy0 : decide ((yn : Int) = 0) = false := decide_eq_false (by omega)
  have hx0' : ((xn : Int) == 0) = false := beq_eq_false_iff_ne.2 (by omega)
  have hy0' : ((yn : Int) == 0) = false := beq_eq_false_iff_ne.2 (by omega)
  clear c3 hry hb3 HB2 HX
  have HX3' := HX3
  have HY3 : Hid (Rb w3 yo yn yc (putT s)) := HY
  clear HY HX3'
  have hw3 : Below w3.heap.size w3 (w3.alloc (.cells #[] 5)) := (Below.refl _ w3).alloc (Nat.le_refl _) _
  have HP : Hid (Rb (w3.alloc (.cells #[] 5)) xo xn xc (put v)) := HX3.out.kept hw3
  have HQ : Hid (Below w3.heap.size w3 (w3.alloc (.cells #[] 5))) := hw3
  clear hw3
  go_wp2_with (at_builtin; refine append_rb _ rfl _ _ rfl w3.heap.size _ 0 [] rfl (World.ownsRow_made w3 #[] 0 (Nat.le_refl _) (Nat.zero_le _) rfl) xo xn xc (put v) rfl HP.out (by omega) (by simp) ?_)
  intro v4 w4 hown hgrow
  have HO : Hid (w4.ownsRow w3.heap.size 5 1 v4 xn (cells (put v)) ∧ Below w3.heap.size w3 w4) := ⟨by simpa using hown, HQ.out.grown hgrow (by simp) (fun k hk => by simp [Value.ownBlock] at hk; omega)⟩
  have HL4 : Hid (Rb w4 ao n cap l) := (HR.out.kept HB3.out).kept HO.out.2
  have hle4 := HO.out.2.size
  clear hown hgrow HP HQ
  go_wp2_with (at_builtin; refine append_rb _ rfl _ _ rfl w3.heap.size v4 _ _ rfl HO.out.1 ao n cap l rfl HL4.out (by omega) (by omega) ?_)
  intro v5 w5 hown hgrow
  have HO2 : Hid (w5.ownsRow w3.heap.size 5 1 v5 (xn + n) (cells ((put v) ++ l)) ∧ Below w3.heap.size w3 w5) := ⟨by rw [cells_append]; exact hown, HO.out.2.grown hgrow (by omega) (fun k hk => (HO.out.1.lt k hk).1)⟩
  obtain ⟨zo, zc, rfl, hrz⟩ := own_rb HO2.out.1 (by intro y hy; rcases List.mem_append.1 hy with h | h; exact HX3.out.lt y h; exact HR.out.lt y h)
  have HB5 : Hid (Below w.heap.size w w5) := HB3.out.trans (HO2.out.2.mono HB3.out.size)
  have cc := take12 a zo (xn + n) zc ((put v) ++ l) w5 hrz (by omega) (HG.out.below HB5.out)
  rw [HT.out.1] at cc
  have HX5 : Hid (Rb w5 xo xn xc (put v)) := HX3.out.kept HO2.out.2
  have HY5 : Hid (Rb w5 yo yn yc (putT s)) := HY3.out.kept HO2.out.2
  clear hown hgrow HO HO2 hrz HL4 hle4 HX3 HY3 HB3
  go_wp2_with fail
  refine cc.mono ?_
  rintro r w6 ⟨hbb, h1, _⟩
  obtain rfl := h1 _ _ rfl
  have HB6 : Hid (Below w.heap.size w w6) := HB5.out.trans (hbb.mono HB5.out.size)
  have HX6 : Hid (Rb w6 xo xn xc (put v)) := HX5.out.kept hbb
  have HY6 : Hid (Rb w6 yo yn yc (putT s)) := HY5.out.kept hbb
  clear cc h1 hbb HX5 HY5 HB5
  have hw6 : Below w6.heap.size w6 (w6.alloc (.cells #[] 5)) := (Below.refl _ w6).alloc (Nat.le_refl _) _
  have HP : Hid (Rb (w6.alloc (.cells #[] 5)) yo yn yc (putT s)) := HY6.out.kept hw6
  have HQ : Hid (Below w6.heap.size w6 (w6.alloc (.cells #[] 5))) := hw6
  clear hw6
  go_wp2_with (at_builtin; refine append_rb _ rfl _ _ rfl w6.heap.size _ 0 [] rfl (World.ownsRow_made w6 #[] 0 (Nat.le_refl _) (Nat.zero_le _) rfl) yo yn yc (putT s) rfl HP.out (by omega) (by simp) ?_)
  intro v7 w7 hown hgrow
  have HO : Hid (w7.ownsRow w6.heap.size 5 1 v7 yn (cells (putT s)) ∧ Below w6.heap.size w6 w7) := ⟨by simpa using hown, HQ.out.grown hgrow (by simp) (fun k hk => by simp [Value.ownBlock] at hk; omega)⟩
  have HL7 : Hid (Rb w7 ao n cap l) := (HR.out.kept HB6.out).kept HO.out.2
  have hle7 := HO.out.2.size
  clear hown hgrow HP HQ
  go_wp2_with (at_builtin; refine append_rb _ rfl _ _ rfl w6.heap.size v7 _ _ rfl HO.out.1 ao n cap l rfl HL7.out (by omega) (by omega) ?_)
  intro v8 w8 hown hgrow
  have HO2 : Hid (w8.ownsRow w6.heap.size 5 1 v8 (yn + n) (cells ((putT s) ++ l)) ∧ Below w6.heap.size w6 w8) := ⟨by rw [cells_append]; exact hown, HO.out.2.grown hgrow (by omega) (fun k hk => (HO.out.1.lt k hk).1)⟩
  obtain ⟨zo, zc, rfl, hrz⟩ := own_rb HO2.out.1 (by intro y hy; rcases List.mem_append.1 hy with h | h; exact HY6.out.lt y h; exact HR.out.lt y h)
  have HB8 : Hid (Below w.heap.size w w8) := HB6.out.trans (HO2.out.2.mono HB6.out.size)
  have cc := take14 a zo (yn + n) zc ((putT s) ++ l) w8 hrz (by omega) (HG.out.below HB8.out)
  rw [HT.out.2] at cc
  have HX8 : Hid (Rb w8 xo xn xc (put v)) := HX6.out.kept HO2.out.2
  have HY8 : Hid (Rb w8 yo yn yc (putT s)) := HY6.out.kept HO2.out.2
  clear hown hgrow HO HO2 hrz HL7 hle7 HX6 HY6 HB6
  go_wp2_with fail
  refine cc.mono ?_
  rintro r w9 ⟨hbb, h1, _⟩
  obtain rfl := h1 _ _ rfl
  have HB9 : Hid (Below w.heap.size w w9) := HB8.out.trans (hbb.mono HB8.out.size)
  have HX9 : Hid (Rb w9 xo xn xc (put v)) := HX8.out.kept hbb
  have HY9 : Hid (Rb w9 yo yn yc (putT s)) := HY8.out.kept hbb
  clear cc h1 hbb HX8 HY8 HB8
  rw [strs_bl]
  obtain ⟨xb, xoff, rfl, _⟩ := HX9.out.at_ (by omega)
  obtain ⟨yb, yoff, rfl, _⟩ := HY9.out.at_ (by omega)
  have hxc := HX9.out.le
  have hyc := HY9.out.le
  obtain ⟨k, hk⟩ : ∃ k, k = c % xn := ⟨_, rfl⟩
  obtain ⟨m, hm⟩ : ∃ m, m = c % yn := ⟨_, rfl⟩
  have hkx : k < xn := by rw [hk]; exact Nat.mod_lt _ hN0
  have hmy : m < yn := by rw [hm]; exact Nat.mod_lt _ hM0
  have ek : ((c : Int).tmod (xn : Int)) = (k : Int) := by rw [hk]; exact (Int.ofNat_tmod c xn).symm
  have em : ((c : Int).tmod (yn : Int)) = (m : Int) := by rw [hm]; exact (Int.ofNat_tmod c yn).symm
  have ek2 : ((c : Int) % (xn : Int)) = (k : Int) := by rw [hk]; simp
  have em2 : ((c : Int) % (yn : Int)) = (m : Int) := by rw [hm]; simp
  have hkxc : (k : Int) ≤ xc := by omega
  have hmyc : (m : Int) ≤ yc := by omega
  have hk0 : (0 : Int) ≤ k := by omega
  have hm0 : (0 : Int) ≤ m := by omega
  have hz1 : ¬ (xn : Int) = 0 := by omega
  have hz2 : ¬ (yn : Int) = 0 := by omega
  have HCX : Hid (take5 ((put v).take k) = none) := take5_cut v k (by have := HN.out.1; omega)
  have HCY : Hid (tkText ((putT s).take m) = none) := tkText_cut s m (by omega) (by have := HN.out.2; omega)
  have c7 := take12 a _ k xc ((put v).take k) w9 (rb_take HX9.out k (by omega)) (by omega) (HG.out.below HB9.out)
  rw [HCX.out] at c7
  clear hk hm
  go_wp2_with fail
  refine c7.mono ?_
  rintro r w10 ⟨hbb, _, h2⟩
  obtain rfl := h2 (by first | rfl | trivial)
  have HB10 : Hid (Below w.heap.size w w10) := HB9.out.trans (hbb.mono HB9.out.size)
  have c8 := take14 a _ m yc ((putT s).take m) w10 (rb_take (HY9.out.kept hbb) m (by omega)) (by omega) (HG.out.below HB10.out)
  rw [HCY.out] at c8
  have HN2 : Hid _ := HN
  clear c7 h2 hbb HX9 HY9 HB9
  go_wp2_with fail
  refine c8.mono ?_
  rintro r w11 ⟨hbb, _, h2⟩
  obtain rfl := h2 (by first | rfl | trivial)
  have HB11 : Hid (Below w.heap.size w w11) := HB10.out.trans (hbb.mono HB10.out.size)
  have en : (put v).length = xn := HN.out.1.symm
  have em' : (putT s).length = yn := HN.out.2.symm
  clear c8 h2 hbb HB10
  go_wp2
  go_ret
  exact ⟨rfl, HB11.out⟩

set_option maxHeartbeats 1000000 in
theorem back4_long (a : Addr) (v : Nat) (s : ByteArray) (ao : Option Addr) (n cap : Nat) (c : Nat) (w : World) (hg : Err w a) (h : 200 < s.size ∨ 20 < n) :
    Calls Tryd.prog 4 #[.int .u32 v, .string s, .slice ao n cap, .int .u8 c] w fun r w' => r = .returned (.bool true) ∧ Below w.heap.size w w' := by
  have c1 := begun7 a w hg
  clear hg
  by_cases h1 : 200 < s.size
  · have hs1 : (200 : Int) < s.size := by omega
    have hs2 : decide ((200 : Int) < (s.size : Int)) = true := decide_eq_true hs1
    have hs3 : decide (200 < s.size) = true := decide_eq_true h1
    go_enter Tryd.func4, Tryd.ntmps4
    go_wp2_with fail
    refine c1.mono ?_
    rintro r w1 ⟨rfl, hb1⟩
    have HB1 : Hid (Below w.heap.size w w1) := hb1
    clear c1 hb1
    go_wp2
    go_ret
    exact ⟨rfl, HB1.out⟩
  · have hs1 : ¬ (200 : Int) < s.size := by omega
    have hs2 : decide ((200 : Int) < (s.size : Int)) = false := decide_eq_false hs1
    have hs3 : decide (200 < s.size) = false := decide_eq_false h1
    have h2 : 20 < n := by omega
    have hn1 : (20 : Int) < n := by omega
    have hn2 : decide ((20 : Int) < (n : Int)) = true := decide_eq_true hn1
    have hn3 : decide (20 < n) = true := decide_eq_true h2
    clear h
    go_enter Tryd.func4, Tryd.ntmps4
    go_wp2_with fail
    refine c1.mono ?_
    rintro r w1 ⟨rfl, hb1⟩
    have HB1 : Hid (Below w.heap.size w w1) := hb1
    clear c1 hb1
    go_wp2
    go_ret
    exact ⟨rfl, HB1.out⟩

/-- BitsBack. -/
theorem back4 (a : Addr) (v : Nat) (s : ByteArray) (ao : Option Addr) (n cap : Nat) (l : List Nat) (c : Nat) (w : World) (hg : Err w a) (hv : v < 4294967296) (hs : s.size ≤ maxLen) (hr : Rb w ao n cap l) (hc : c < 256) :
    Calls Tryd.prog 4 #[.int .u32 v, .string s, .slice ao n cap, .int .u8 c] w fun r w' => r = .returned (.bool true) ∧ Below w.heap.size w w' := by
  by_cases h : 200 < s.size ∨ 20 < n
  · exact back4_long a v s ao n cap c w hg h
  · exact back4_short a v s ao n cap l c w hg hv (by omega) hr (by omega) hc

end Go.Proofs.YthlgfejdmigifaaDoor
