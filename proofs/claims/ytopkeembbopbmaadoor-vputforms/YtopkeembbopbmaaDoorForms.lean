/- VputForms: which bytes are no version. -/
import Derived.Test.YtopkeembbopbmaaDoorBeg
import Derived.Laws.IdiomStrings
import Derived.Lib.SmallJoins
namespace Go.Proofs.YtopkeembbopbmaaDoor
open Go.RowKit
set_option maxRecDepth 100000
set_option linter.unusedVariables false

/-- The world behind '[]byte(s)', and the room there. -/
def gc (w : World) (s : ByteArray) : Nat := grownCap w s.size 0 5
def nw (w : World) (s : ByteArray) : World := w.drew.alloc (.cells (bytesRow s (grownCap w s.size 0 5)) 5 ((bytesRow s (grownCap w s.size 0 5)).size, (bytesRow s (grownCap w s.size 0 5)).size + 1))
theorem cvt_bytes (s : ByteArray) (w : World) : (convert 9 27 (.string s)).run Tryd.prog w = .ok (.slice (some ⟨w.heap.size, 0, none⟩) s.size (gc w s)) (nw w s) := run_bytes_of_string w 9 27 5 s Tryd.underlying9 Tryd.underlying27 Tryd.underlying5
theorem nw_below (w : World) (s : ByteArray) : Below w.heap.size w (nw w s) := (Below.refl _ w).drew.alloc (Nat.le_refl _) _
theorem nw_rb (w : World) (s : ByteArray) (hs : s.size ≤ 1000) : Rb (nw w s) (some ⟨w.heap.size, 0, none⟩) s.size (gc w s) (bl s) := by
  have hge := grownCap_ge w s.size 0 5
  refine ⟨bl_lt s, bl_len s, by unfold gc; omega, grownCap_le_maxLen w s.size 0 5 (by unfold maxLen; omega), (fun h => by cases h), fun h0 => ⟨w.heap.size, 0, rfl, fun j hj => ?_⟩⟩
  rw [Nat.zero_add]
  have hj' : j < s.data.size := hj
  have e : (nw w s).cell? ⟨w.heap.size, j, none⟩ = (bytesRow s (grownCap w s.size 0 5))[j]? := World.cell?_alloc_mark w.drew _ 5 _ j
  rw [e, bytesRow_at s _ j hj']
  have hb : j < (bl s).length := by rw [bl_len]; exact hj
  rw [List.getD_eq_getElem?_getD, List.getElem?_eq_getElem hb]
  simp [bl]

def badL : List ByteArray := [⟨#[]⟩, ⟨#[7, 3, 1, 2, 0, 0, 0, 0]⟩, ⟨#[2, 1, 1, 2, 0, 0, 0, 0]⟩, ⟨#[2, 3, 1, 2, 2, 0, 0, 0]⟩, ⟨#[2, 3, 1, 2, 1, 0, 0, 1, 120]⟩, ⟨#[2, 3, 1, 2, 0, 4, 0, 0, 1, 0, 2, 0, 3, 0, 0, 0]⟩, ⟨#[2, 3, 1, 2, 0, 0, 1, 65, 0]⟩, ⟨#[130, 0, 3, 1, 2, 0, 0, 0, 0]⟩, ⟨#[2, 3, 1, 2, 0, 0, 0, 13, 97, 98, 99, 100, 101, 102, 103, 104, 105, 106, 107, 108, 109]⟩]

theorem bad_at (k : Nat) (hk : k < 9) : ∃ x : ByteArray, badL[k]? = some x ∧ tvP mayN (bl x) = none ∧ x.size ≤ 30 := by
  have hcase : k = 0 ∨ k = 1 ∨ k = 2 ∨ k = 3 ∨ k = 4 ∨ k = 5 ∨ k = 6 ∨ k = 7 ∨ k = 8 := by omega
  rcases hcase with rfl | rfl | rfl | rfl | rfl | rfl | rfl | rfl | rfl
  · exact ⟨_, rfl, by rfl, by decide⟩
  · exact ⟨_, rfl, by rfl, by decide⟩
  · exact ⟨_, rfl, by rfl, by decide⟩
  · exact ⟨_, rfl, by rfl, by decide⟩
  · exact ⟨_, rfl, by rfl, by decide⟩
  · exact ⟨_, rfl, by rfl, by decide⟩
  · exact ⟨_, rfl, by rfl, by decide⟩
  · exact ⟨_, rfl, by rfl, by decide⟩
  · exact ⟨_, rfl, by rfl, by decide⟩

theorem bad_cell {V w1 : World} (hV : V = w1.alloc (.cells #[.string ⟨#[]⟩, .string ⟨#[7, 3, 1, 2, 0, 0, 0, 0]⟩, .string ⟨#[2, 1, 1, 2, 0, 0, 0, 0]⟩, .string ⟨#[2, 3, 1, 2, 2, 0, 0, 0]⟩, .string ⟨#[2, 3, 1, 2, 1, 0, 0, 1, 120]⟩, .string ⟨#[2, 3, 1, 2, 0, 4, 0, 0, 1, 0, 2, 0, 3, 0, 0, 0]⟩, .string ⟨#[2, 3, 1, 2, 0, 0, 1, 65, 0]⟩, .string ⟨#[130, 0, 3, 1, 2, 0, 0, 0, 0]⟩, .string ⟨#[2, 3, 1, 2, 0, 0, 0, 13, 97, 98, 99, 100, 101, 102, 103, 104, 105, 106, 107, 108, 109]⟩] 9)) (k : Nat) (x : ByteArray) (hk : k < 9) (hx : badL[k]? = some x) : V.cell? ⟨w1.heap.size, k, none⟩ = some (.string x) := by
  subst hV
  rw [World.cell?_alloc_at _ _ _ _ (by simp)]
  have hcase : k = 0 ∨ k = 1 ∨ k = 2 ∨ k = 3 ∨ k = 4 ∨ k = 5 ∨ k = 6 ∨ k = 7 ∨ k = 8 := by omega
  rcases hcase with rfl | rfl | rfl | rfl | rfl | rfl | rfl | rfl | rfl <;> (cases hx; rfl)

/-- The world behind '[]byte("x")'. -/
def mx (w : World) : World := w.alloc (.cells #[.int .u8 120] 5 (1, 2))
theorem rb_x (w : World) : Rb (mx w) (some ⟨w.heap.size, 0, none⟩) 1 1 [120] := by
  refine ⟨by decide, rfl, by decide, by decide, (fun h => by cases h), fun _ => ⟨_, 0, rfl, fun j hj => ?_⟩⟩
  obtain rfl : j = 0 := by omega
  rw [Nat.zero_add]
  unfold mx
  rw [World.cell?_alloc_mark]
  rfl
theorem mx_below (w : World) : Below w.heap.size w (mx w) := (Below.refl _ w).alloc (Nat.le_refl _) _
theorem cvt_x (w : World) : (convert 27 27 (.slice (some ⟨w.heap.size, 0, none⟩) 1 1)).run Tryd.prog (w.alloc (.cells #[.int .u8 120] 5)) = .ok (.slice (some ⟨w.heap.size, 0, none⟩) 1 1) (mx w) := Lib.run_convert_bytes_const w 27 5 _ 1 1 Tryd.underlying27 Tryd.underlying5

def goodB : ByteArray := ⟨#[2, 3, 1, 2, 0, 1, 2, 5, 1, 97, 1, 98]⟩
def goodV : Vp := ⟨2, 3, 1, 2, 0, [(2, 5)], [97], [98]⟩
theorem good_t : tvP mayN (bl goodB) = some (goodV, 12) := by rfl

set_option maxHeartbeats 8000000 in
theorem forms6 (a b : Addr) (w : World) (hV : Vars w a b) : Calls Tryd.prog 6 #[] w fun r w' => r = .returned (.bool true) ∧ Below w.heap.size w w' := by
  have c1 := begun7 a b w hV
  have HV : Hid (Vars w a b) := hV
  clear hV
  go_enter Tryd.func6, Tryd.ntmps6
  go_wp2_with fail
  refine c1.mono ?_
  rintro r w1 ⟨rfl, hb1⟩
  have hnw := nw_below w1 goodB
  have hbn : Below w.heap.size w (nw w1 goodB) := hb1.trans (hnw.mono hb1.size)
  have c2 := take11 a b _ goodB.size (gc w1 goodB) (bl goodB) (nw w1 goodB) (HV.out.below hbn) (nw_rb w1 goodB (by decide)) (by decide)
  have cvt := cvt_bytes goodB w1
  have HN : Hid (Below w.heap.size w (nw w1 goodB)) := hbn
  clear c1 hb1 hnw hbn
  unfold goodB at cvt
  go_wp2_with fail
  refine c2.mono ?_
  rintro r w2 ⟨u, al, m, ok, rfl, hat, htt, htd, hb2, hT⟩
  rw [good_t] at hT
  obtain ⟨rfl, rfl, hP, hM⟩ := hT
  have HB2 : Hid (Below w.heap.size w w2) := HN.out.trans (hb2.mono HN.out.size)
  have HU : Hid (Has w2 u al ∧ al = [(2, 5)]) := ⟨hat, hP.2.2.2.2.2.1⟩
  clear c2 cvt hat htt htd hb2 hP hM HN
  obtain ⟨it, L, R, N, dead, ao, len, cap, tag, body⟩ := u
  unfold Vn.val
  simp only
  obtain ⟨Y, hY⟩ : ∃ Y, Y = w2.alloc (.cells #[.int .i64 it, .int .i64 L, .int .i64 R, .int .i64 N, .bool dead, .slice ao len cap, .string tag, .string body] 26) := ⟨_, rfl⟩
  obtain ⟨V, hV⟩ : ∃ V, V = Y.alloc (.cells #[.string ⟨#[]⟩, .string ⟨#[7, 3, 1, 2, 0, 0, 0, 0]⟩, .string ⟨#[2, 1, 1, 2, 0, 0, 0, 0]⟩, .string ⟨#[2, 3, 1, 2, 2, 0, 0, 0]⟩, .string ⟨#[2, 3, 1, 2, 1, 0, 0, 1, 120]⟩, .string ⟨#[2, 3, 1, 2, 0, 4, 0, 0, 1, 0, 2, 0, 3, 0, 0, 0]⟩, .string ⟨#[2, 3, 1, 2, 0, 0, 1, 65, 0]⟩, .string ⟨#[130, 0, 3, 1, 2, 0, 0, 0, 0]⟩, .string ⟨#[2, 3, 1, 2, 0, 0, 0, 13, 97, 98, 99, 100, 101, 102, 103, 104, 105, 106, 107, 108, 109]⟩] 9) := ⟨_, rfl⟩
  have hYs : Y.heap.size = w2.heap.size + 1 := by rw [hY]; simp
  have hbY : Below w2.heap.size w2 Y := by rw [hY]; exact (Below.refl _ w2).alloc (Nat.le_refl _) _
  have hbV : Below Y.heap.size Y V := by rw [hV]; exact (Below.refl _ Y).alloc (Nat.le_refl _) _
  have hb2V : Below w2.heap.size w2 V := hbY.trans (hbV.mono (by omega))
  have HC : Hid (∀ (k : Nat) (x : ByteArray), k < 9 → badL[k]? = some x → V.cell? ⟨w2.heap.size + 1, k, none⟩ = some (.string x)) := by rw [← hYs]; exact bad_cell hV
  have y5 : V.cell? ⟨w2.heap.size, 5, none⟩ = some (.slice ao len cap) := (hbV.cell (p := ⟨w2.heap.size, 5, none⟩) (by show w2.heap.size < _; omega)).trans (by rw [hY]; simp)
  have hVs : w2.heap.size + 1 < V.heap.size := by rw [hV]; simp; omega
  have HW : Hid (Below w.heap.size w V ∧ Has V ⟨it, L, R, N, dead, ao, len, cap, tag, body⟩ al ∧ al = [(2, 5)] ∧ V.cell? ⟨w2.heap.size, 5, none⟩ = some (.slice ao len cap)) := ⟨HB2.out.trans (hb2V.mono HB2.out.size), HU.out.1.kept hb2V, HU.out.2, y5⟩
  rw [hY] at hV
  have HVE : Hid (V = _) := hV
  clear hV hY hYs hbY hbV hb2V y5 HU HB2
  go_wp2_with fail
  rw [← HVE.out]
  clear HVE
  go_loopw [6] (fun i wr => ∃ k : Nat, k ≤ 9 ∧ i = .int .i64 k ∧ Below V.heap.size V wr) (fun i _ => 9 - (intOf i).toNat)
  case atStart => exact ⟨0, by omega, rfl, Below.refl _ _⟩
  case round =>
    obtain ⟨k, hk, rfl, hbr⟩ := hrel
    have HBR : Hid (Below V.heap.size V wr) := hbr
    by_cases hend : k = 9
    · have h71 : ¬ (k : Int) < 9 := by omega
      have h72 : decide ((k : Int) < 9) = false := decide_eq_false h71
      have h73 : decide (k < 9) = false := decide_eq_false (by omega)
      have y5 : wr.cell? ⟨w2.heap.size, 5, none⟩ = some (.slice ao len cap) := (hbr.cell (p := ⟨w2.heap.size, 5, none⟩) (by show w2.heap.size < _; omega)).trans HW.out.2.2.2
      have hA : At wr ao len al := (HW.out.2.1 : At V ao len al).kept hbr
      have eal := HW.out.2.2.1
      subst eal
      obtain ⟨hl1, _, hc⟩ := hA
      obtain rfl : len = 1 := hl1
      obtain ⟨ab, aoff, rfl, hcc⟩ := hc (by omega)
      obtain ⟨z0, z1⟩ := hcc 0 (by omega)
      replace z0 : wr.cell? ⟨ab, aoff, none⟩ = some (.int .i64 2) := by simpa using z0
      replace z1 : wr.cell? ⟨ab, aoff + 1, none⟩ = some (.int .i64 5) := by simpa using z1
      have hbw : Below w.heap.size w wr := HW.out.1.trans (hbr.mono HW.out.1.size)
      have hmx := mx_below wr
      have hbm : Below w.heap.size w (mx wr) := hbw.trans (hmx.mono hbw.size)
      have c5 := put13 a b _ 1 1 [120] ⟨0, 0, 0, 0, false, none, 0, 0, ⟨#[]⟩, ⟨#[]⟩⟩ [] (mx wr) (HV.out.below hbm) (rb_x wr) (by omega) (At.none _ _) (by decide) (by decide)
      have e5 : [120] ++ vb ⟨0, 0, 0, 0, false, none, 0, 0, ⟨#[]⟩, ⟨#[]⟩⟩ [] = [120] := by rfl
      rw [e5] at c5
      unfold Vn.val at c5
      simp only at c5
      have kx := cvt_x wr
      have HM : Hid (Below w.heap.size w (mx wr)) := hbm
      clear hk hend hbr hcc hc hbw hmx hbm e5
      go_wp2_with fail
      refine c5.mono ?_
      rintro r w5 ⟨xo, xn, xc, rfl, hrx, hb5⟩
      have cv := fun W (hW : Below w5.heap.size w5 W) => conv_rb (hrx.kept hW)
      have es : strs [120] = ⟨#[120]⟩ := rfl
      have cv5 := conv_rb hrx
      rw [es] at cv5
      have HB5 : Hid (Below w.heap.size w w5) := HM.out.trans (hb5.mono HM.out.size)
      clear c5 hrx hb5 cv es kx z0 z1 y5
      go_wp2
      go_ret
      exact ⟨rfl, HB5.out⟩
    · obtain ⟨x, hx, ht, hxs⟩ := bad_at k (by omega)
      have hk9 : (k : Int) < 9 := by omega
      have hk0 : (0 : Int) ≤ k := by omega
      have f0 : wr.cell? ⟨w2.heap.size + 1, k, none⟩ = some (.string x) := (hbr.cell (p := ⟨w2.heap.size + 1, k, none⟩) hVs).trans (HC.out k x (by omega) hx)
      have cvt := fun w => cvt_bytes x w
      have hnw := nw_below wr x
      have hbw : Below w.heap.size w wr := HW.out.1.trans (hbr.mono HW.out.1.size)
      have hbn : Below w.heap.size w (nw wr x) := hbw.trans (hnw.mono hbw.size)
      have c2 := take11 a b _ x.size (gc wr x) (bl x) (nw wr x) (HV.out.below hbn) (nw_rb wr x (by omega)) (by omega)
      have HNW : Hid (Below V.heap.size V (nw wr x)) := hbr.trans (hnw.mono hbr.size)
      have HT : Hid (tvP mayN (bl x) = none) := ht
      clear hx ht hnw hbr hbw hbn
      go_wp2_with fail
      refine c2.mono ?_
      rintro r w5 ⟨u, al5, m, ok, rfl, _, _, _, hb5, hT⟩
      rw [HT.out] at hT
      obtain ⟨rfl, rfl, rfl, rfl⟩ := hT
      have HB5 : Hid (Below V.heap.size V w5) := HNW.out.trans (hb5.mono HNW.out.size)
      have hs5 := HB5.out.size
      clear c2 hb5 f0 cvt
      unfold Vn.val
      simp only
      go_wp2
      go_roundw
      case rel => exact ⟨k + 1, by omega, by go_num, HB5.out.alloc hs5 _⟩
      case measure => simp [intOf]; omega

end Go.Proofs.YtopkeembbopbmaaDoor
