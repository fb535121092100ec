/- BitsForms: which bytes some numbers are, and which are none. -/
import Derived.Test.YthlgfejdmigifaaDoorOne
import Derived.Laws.IdiomStrings
import Derived.Lib.SmallJoins
namespace Go.Proofs.YthlgfejdmigifaaDoor
open Go.RowKit
set_option maxRecDepth 100000
set_option linter.unusedVariables false

/-- The world behind '[]byte(s)', and the room there. -/
def gc (w : World) (s : ByteArray) : Nat := grownCap w s.size 0 5
def nw (w : World) (s : ByteArray) : World := w.drew.alloc (.cells (bytesRow s (grownCap w s.size 0 5)) 5 ((bytesRow s (grownCap w s.size 0 5)).size, (bytesRow s (grownCap w s.size 0 5)).size + 1))
theorem cvt_bytes (s : ByteArray) (w : World) : (convert 9 23 (.string s)).run Tryd.prog w = .ok (.slice (some ⟨w.heap.size, 0, none⟩) s.size (gc w s)) (nw w s) := run_bytes_of_string w 9 23 5 s Tryd.underlying9 Tryd.underlying23 Tryd.underlying5
theorem nw_below (w : World) (s : ByteArray) : Below w.heap.size w (nw w s) := (Below.refl _ w).drew.alloc (Nat.le_refl _) _
theorem nw_rb (w : World) (s : ByteArray) (hs : s.size ≤ 1000) : Rb (nw w s) (some ⟨w.heap.size, 0, none⟩) s.size (gc w s) (bl s) := by
  have hge := grownCap_ge w s.size 0 5
  refine ⟨bl_lt s, bl_len s, by unfold gc; omega, grownCap_le_maxLen w s.size 0 5 (by unfold maxLen; omega), (fun h => by cases h), fun h0 => ⟨w.heap.size, 0, rfl, fun j hj => ?_⟩⟩
  rw [Nat.zero_add]
  have hj' : j < s.data.size := hj
  have e : (nw w s).cell? ⟨w.heap.size, j, none⟩ = (bytesRow s (grownCap w s.size 0 5))[j]? := World.cell?_alloc_mark w.drew _ 5 _ j
  rw [e, bytesRow_at s _ j hj']
  have hb : j < (bl s).length := by rw [bl_len]; exact hj
  rw [List.getD_eq_getElem?_getD, List.getElem?_eq_getElem hb]
  simp [bl]

def numsL : List Nat := [0, 1, 127, 128, 16383, 16384, 34359738367]
def textsL : List ByteArray := [⟨#[0]⟩, ⟨#[1]⟩, ⟨#[127]⟩, ⟨#[128, 1]⟩, ⟨#[255, 127]⟩, ⟨#[128, 128, 1]⟩, ⟨#[255, 255, 255, 255, 127]⟩]
def badL : List ByteArray := [⟨#[]⟩, ⟨#[128]⟩, ⟨#[128, 0]⟩, ⟨#[255, 255, 255, 255, 255, 1]⟩, ⟨#[255, 128, 0]⟩]

theorem put_0 : put 0 = [0] := by
  rw [put_small _ (by decide)]
theorem put_1 : put 1 = [1] := by
  rw [put_small _ (by decide)]
theorem put_127 : put 127 = [127] := by
  rw [put_small _ (by decide)]
theorem put_128 : put 128 = [128, 1] := by
  rw [put_great _ (by decide)]
  rw [put_small _ (by decide)]
theorem put_16383 : put 16383 = [255, 127] := by
  rw [put_great _ (by decide)]
  rw [put_small _ (by decide)]
theorem put_16384 : put 16384 = [128, 128, 1] := by
  rw [put_great _ (by decide)]
  rw [put_great _ (by decide)]
  rw [put_small _ (by decide)]
theorem put_34359738367 : put 34359738367 = [255, 255, 255, 255, 127] := by
  rw [put_great _ (by decide)]
  rw [put_great _ (by decide)]
  rw [put_great _ (by decide)]
  rw [put_great _ (by decide)]
  rw [put_small _ (by decide)]

theorem forms_at (k : Nat) (hk : k < 7) : ∃ (v : Nat) (x : ByteArray), numsL[k]? = some v ∧ textsL[k]? = some x ∧ bl x = put v ∧ strs (put v) = x ∧ v < 34359738368 ∧ x.size ≤ 5 := by
  have hcase : k = 0 ∨ k = 1 ∨ k = 2 ∨ k = 3 ∨ k = 4 ∨ k = 5 ∨ k = 6 := by omega
  rcases hcase with rfl | rfl | rfl | rfl | rfl | rfl | rfl
  · exact ⟨_, _, rfl, rfl, by rw [put_0]; rfl, by rw [put_0]; rfl, by decide, by decide⟩
  · exact ⟨_, _, rfl, rfl, by rw [put_1]; rfl, by rw [put_1]; rfl, by decide, by decide⟩
  · exact ⟨_, _, rfl, rfl, by rw [put_127]; rfl, by rw [put_127]; rfl, by decide, by decide⟩
  · exact ⟨_, _, rfl, rfl, by rw [put_128]; rfl, by rw [put_128]; rfl, by decide, by decide⟩
  · exact ⟨_, _, rfl, rfl, by rw [put_16383]; rfl, by rw [put_16383]; rfl, by decide, by decide⟩
  · exact ⟨_, _, rfl, rfl, by rw [put_16384]; rfl, by rw [put_16384]; rfl, by decide, by decide⟩
  · exact ⟨_, _, rfl, rfl, by rw [put_34359738367]; rfl, by rw [put_34359738367]; rfl, by decide, by decide⟩

theorem bad_at (k : Nat) (hk : k < 5) : ∃ x : ByteArray, badL[k]? = some x ∧ take5 (bl x) = none ∧ tkText (bl x) = none ∧ x.size ≤ 6 := by
  have hcase : k = 0 ∨ k = 1 ∨ k = 2 ∨ k = 3 ∨ k = 4 := by omega
  rcases hcase with rfl | rfl | rfl | rfl | rfl
  · exact ⟨_, rfl, rfl, rfl, by decide⟩
  · exact ⟨_, rfl, rfl, rfl, by decide⟩
  · exact ⟨_, rfl, rfl, rfl, by decide⟩
  · exact ⟨_, rfl, rfl, rfl, by decide⟩
  · exact ⟨_, rfl, rfl, rfl, by decide⟩

theorem nums_cell {W w1 : World} (hW : W = ((w1.alloc (.cells #[.int .i64 0, .int .i64 1, .int .i64 127, .int .i64 128, .int .i64 16383, .int .i64 16384, .int .i64 34359738367] 3)).alloc (.cells #[.string ⟨#[0]⟩, .string ⟨#[1]⟩, .string ⟨#[127]⟩, .string ⟨#[128, 1]⟩, .string ⟨#[255, 127]⟩, .string ⟨#[128, 128, 1]⟩, .string ⟨#[255, 255, 255, 255, 127]⟩] 9))) (k v : Nat) (x : ByteArray) (hk : k < 7) (hv : numsL[k]? = some v) (hx : textsL[k]? = some x) :
    W.cell? ⟨w1.heap.size, k, none⟩ = some (.int .i64 v) ∧ W.cell? ⟨w1.heap.size + 1, k, none⟩ = some (.string x) := by
  subst hW
  refine ⟨?_, ?_⟩
  · rw [World.cell?_alloc_past _ _ _ (hn := by simp), World.cell?_alloc_at _ _ _ _ (by simp)]
    have hcase : k = 0 ∨ k = 1 ∨ k = 2 ∨ k = 3 ∨ k = 4 ∨ k = 5 ∨ k = 6 := by omega
    rcases hcase with rfl | rfl | rfl | rfl | rfl | rfl | rfl <;> (cases hv; rfl)
  · rw [World.cell?_alloc_at _ _ _ _ (by simp)]
    have hcase : k = 0 ∨ k = 1 ∨ k = 2 ∨ k = 3 ∨ k = 4 ∨ k = 5 ∨ k = 6 := by omega
    rcases hcase with rfl | rfl | rfl | rfl | rfl | rfl | rfl <;> (cases hx; rfl)

theorem bad_cell {V w1 : World} (hV : V = w1.alloc (.cells #[.string ⟨#[]⟩, .string ⟨#[128]⟩, .string ⟨#[128, 0]⟩, .string ⟨#[255, 255, 255, 255, 255, 1]⟩, .string ⟨#[255, 128, 0]⟩] 9)) (k : Nat) (x : ByteArray) (hk : k < 5) (hx : badL[k]? = some x) : V.cell? ⟨w1.heap.size, k, none⟩ = some (.string x) := by
  subst hV
  rw [World.cell?_alloc_at _ _ _ _ (by simp)]
  have hcase : k = 0 ∨ k = 1 ∨ k = 2 ∨ k = 3 ∨ k = 4 := by omega
  rcases hcase with rfl | rfl | rfl | rfl | rfl <;> (cases hx; rfl)

theorem rb_three (w : World) (x y z : Nat) (hx : x < 256) (hy : y < 256) (hz : z < 256) : Rb (w.alloc (.cells #[.int .u8 x, .int .u8 y, .int .u8 z] 5 (3, 4))) (some ⟨w.heap.size, 0, none⟩) 3 3 [x, y, z] := by
  refine ⟨by simp; omega, rfl, by decide, by decide, (fun h => by cases h), fun _ => ⟨_, 0, rfl, fun j hj => ?_⟩⟩
  rw [Nat.zero_add, World.cell?_alloc_mark]
  have hcase : j = 0 ∨ j = 1 ∨ j = 2 := by omega
  rcases hcase with rfl | rfl | rfl <;> rfl

/-- The world behind '[]byte("\x03ab")', and with a nought ahead. -/
def m3 (w : World) : World := w.alloc (.cells #[.int .u8 3, .int .u8 97, .int .u8 98] 5 (3, 4))
def m0 (w : World) : World := w.alloc (.cells #[.int .u8 0, .int .u8 97, .int .u8 98] 5 (3, 4))
theorem rb_3 (w : World) : Rb (m3 w) (some ⟨w.heap.size, 0, none⟩) 3 3 [3, 97, 98] := rb_three w 3 97 98 (by decide) (by decide) (by decide)
theorem rb_0 (w : World) : Rb (m0 w) (some ⟨w.heap.size, 0, none⟩) 3 3 [0, 97, 98] := rb_three w 0 97 98 (by decide) (by decide) (by decide)
theorem m3_below (w : World) : Below w.heap.size w (m3 w) := (Below.refl _ w).alloc (Nat.le_refl _) _
theorem m0_below (w : World) : Below w.heap.size w (m0 w) := (Below.refl _ w).alloc (Nat.le_refl _) _
theorem cvt_3 (w : World) : (convert 23 23 (.slice (some ⟨w.heap.size, 0, none⟩) 3 3)).run Tryd.prog (w.alloc (.cells #[.int .u8 3, .int .u8 97, .int .u8 98] 5)) = .ok (.slice (some ⟨w.heap.size, 0, none⟩) 3 3) (m3 w) := Lib.run_convert_bytes_const w 23 5 _ 3 3 Tryd.underlying23 Tryd.underlying5
theorem cvt_0 (w : World) : (convert 23 23 (.slice (some ⟨w.heap.size, 0, none⟩) 3 3)).run Tryd.prog (w.alloc (.cells #[.int .u8 0, .int .u8 97, .int .u8 98] 5)) = .ok (.slice (some ⟨w.heap.size, 0, none⟩) 3 3) (m0 w) := Lib.run_convert_bytes_const w 23 5 _ 3 3 Tryd.underlying23 Tryd.underlying5

set_option maxHeartbeats 8000000 in
theorem forms6 (a : Addr) (w : World) (hg : Err w a) : Calls Tryd.prog 6 #[] w fun r w' => r = .returned (.bool true) ∧ Below w.heap.size w w' := by
  have c1 := begun7 a w hg
  have HG : Hid (Err w a) := hg
  clear hg
  go_enter Tryd.func6, Tryd.ntmps6
  go_wp2_with fail
  refine c1.mono ?_
  rintro r w1 ⟨rfl, hb1⟩
  have HB1 : Hid (Below w.heap.size w w1) := hb1
  clear c1 hb1
  obtain ⟨W, hW⟩ : ∃ W, W = ((w1.alloc (.cells #[.int .i64 0, .int .i64 1, .int .i64 127, .int .i64 128, .int .i64 16383, .int .i64 16384, .int .i64 34359738367] 3)).alloc (.cells #[.string ⟨#[0]⟩, .string ⟨#[1]⟩, .string ⟨#[127]⟩, .string ⟨#[128, 1]⟩, .string ⟨#[255, 127]⟩, .string ⟨#[128, 128, 1]⟩, .string ⟨#[255, 255, 255, 255, 127]⟩] 9)) := ⟨_, rfl⟩
  have HC : Hid (∀ (k v : Nat) (x : ByteArray), k < 7 → numsL[k]? = some v → textsL[k]? = some x → W.cell? ⟨w1.heap.size, k, none⟩ = some (.int .i64 v) ∧ W.cell? ⟨w1.heap.size + 1, k, none⟩ = some (.string x)) := nums_cell hW
  have HW : Hid (Below w.heap.size w W ∧ w1.heap.size + 1 < W.heap.size) := by
    refine ⟨?_, by rw [hW]; simp⟩
    rw [hW]
    have := HB1.out.size
    exact (HB1.out.alloc this _).alloc (by simp; omega) _
  have HWE : Hid (W = _) := hW
  clear hW
  go_wp2_with fail
  rw [← HWE.out]
  clear HWE
  go_loopw [3] (fun i wr => ∃ k : Nat, k ≤ 7 ∧ i = .int .i64 k ∧ Below W.heap.size W wr) (fun i _ => 7 - (intOf i).toNat)
  case atStart => exact ⟨0, by omega, rfl, Below.refl _ _⟩
  case round =>
    obtain ⟨k, hk, rfl, hbr⟩ := hrel
    have HBR : Hid (Below W.heap.size W wr) := hbr
    clear hbr
    by_cases hend : k = 7
    · have h71 : ¬ (k : Int) < 7 := by omega
      have h72 : decide ((k : Int) < 7) = false := decide_eq_false h71
      have h73 : decide (k < 7) = false := decide_eq_false (by omega)
      clear hk hend
      obtain ⟨u, rfl⟩ : ∃ u, u = wr := ⟨wr, rfl⟩
      have HV0 : Hid (Below w.heap.size w u) := HW.out.1.trans (HBR.out.mono HW.out.1.size)
      clear HBR HW HC HB1
      obtain ⟨V, hV⟩ : ∃ V, V = u.alloc (.cells #[.string ⟨#[]⟩, .string ⟨#[128]⟩, .string ⟨#[128, 0]⟩, .string ⟨#[255, 255, 255, 255, 255, 1]⟩, .string ⟨#[255, 128, 0]⟩] 9) := ⟨_, rfl⟩
      have HC : Hid (∀ (k : Nat) (x : ByteArray), k < 5 → badL[k]? = some x → V.cell? ⟨u.heap.size, k, none⟩ = some (.string x)) := bad_cell hV
      have HV : Hid (Below w.heap.size w V ∧ u.heap.size < V.heap.size) := by
        refine ⟨?_, by rw [hV]; simp⟩
        rw [hV]
        exact HV0.out.alloc HV0.out.size _
      have HVE : Hid (V = _) := hV
      clear hV HV0
      go_wp2_with fail
      rw [← HVE.out]
      clear HVE
      go_loopw [8] (fun i wr => ∃ k : Nat, k ≤ 5 ∧ i = .int .i64 k ∧ Below V.heap.size V wr) (fun i _ => 5 - (intOf i).toNat)
      case atStart => exact ⟨0, by omega, rfl, Below.refl _ _⟩
      case round =>
        obtain ⟨k, hk, rfl, hbr⟩ := hrel
        have HBS : Hid (Below w.heap.size w wr) := HV.out.1.trans (hbr.mono HV.out.1.size)
        by_cases hend : k = 5
        · subst hend
          clear hbr HV HC
          have c14 := take14 a _ 3 3 [3, 97, 98] _ (rb_3 wr) (by omega) (HG.out.below (HBS.out.trans ((m3_below wr).mono HBS.out.size)))
          have e1 : tkText [3, 97, 98] = none := rfl
          have k3 := cvt_3 wr
          have e2 : tkText [0, 97, 98] = some ([], 1) := rfl
          rw [e1] at c14
          have HA : Hid (Below w.heap.size w (m3 wr)) := HBS.out.trans ((m3_below wr).mono HBS.out.size)
          clear HBS e1
          go_wp2_with fail
          refine c14.mono ?_
          rintro r w6 ⟨hb6, _, h2⟩
          obtain rfl := h2 (by first | rfl | trivial)
          have HB6 : Hid (Below w.heap.size w w6) := HA.out.trans (hb6.mono HA.out.size)
          have c15 := take14 a _ 3 3 [0, 97, 98] _ (rb_0 w6) (by omega) (HG.out.below (HB6.out.trans ((m0_below w6).mono HB6.out.size)))
          rw [e2] at c15
          have HA2 : Hid (Below w.heap.size w (m0 w6)) := HB6.out.trans ((m0_below w6).mono HB6.out.size)
          have k0 := cvt_0 w6
          clear k3 c14 h2 hb6 HA HB6 e2
          go_wp2_with fail
          refine c15.mono ?_
          rintro r w7 ⟨hb7, h1, _⟩
          obtain rfl := h1 _ _ rfl
          have HB7 : Hid (Below w.heap.size w w7) := HA2.out.trans (hb7.mono HA2.out.size)
          have es : strs [] = ⟨#[]⟩ := rfl
          rw [es]
          clear c15 h1 hb7 HA2
          go_wp2
          go_ret
          exact ⟨rfl, HB7.out⟩
        · obtain ⟨x, hx, h5, ht, hxs⟩ := bad_at k (by omega)
          have fT : ∀ Wx, Below V.heap.size V Wx → Wx.cell? ⟨u.heap.size, k, none⟩ = some (.string x) := fun Wx h => (h.cell (p := ⟨u.heap.size, k, none⟩) HV.out.2).trans (HC.out k x (by omega) hx)
          have hk5 : (k : Int) < 5 := by omega
          have hk0 : (0 : Int) ≤ k := by omega
          have HFT : Hid (∀ Wx, Below V.heap.size V Wx → Wx.cell? ⟨u.heap.size, k, none⟩ = some (.string x)) := fT
          have f0 := fT wr hbr
          have cvt := fun w => cvt_bytes x w
          have HBV : Hid (Below V.heap.size V wr) := hbr
          have hnw := nw_below wr x
          have c12 := take12 a _ x.size (gc wr x) (bl x) (nw wr x) (nw_rb wr x (by omega)) (by omega) (HG.out.below (HBS.out.trans (hnw.mono HBS.out.size)))
          rw [h5] at c12
          have HNW : Hid (Below wr.heap.size wr (nw wr x)) := hnw
          have HTT : Hid (tkText (bl x) = none) := ht
          clear hx h5 ht hnw fT hbr
          go_wp2_with fail
          refine c12.mono ?_
          rintro r w5 ⟨hb5, _, h2⟩
          obtain rfl := h2 (by first | rfl | trivial)
          have HB5 : Hid (Below V.heap.size V w5) := HBV.out.trans ((HNW.out.trans (hb5.mono HNW.out.size)).mono HBV.out.size)
          have HW5 : Hid (Below w.heap.size w w5) := HV.out.1.trans (HB5.out.mono HV.out.1.size)
          have f1 := HFT.out w5 HB5.out
          have hnw := nw_below w5 x
          have c14 := take14 a _ x.size (gc w5 x) (bl x) (nw w5 x) (nw_rb w5 x (by omega)) (by omega) (HG.out.below (HW5.out.trans (hnw.mono HW5.out.size)))
          rw [HTT.out] at c14
          have HNW5 : Hid (Below w5.heap.size w5 (nw w5 x)) := hnw
          clear c12 h2 hb5 f0 hnw HNW
          go_wp2_with fail
          refine c14.mono ?_
          rintro r w6 ⟨hb6, _, h2⟩
          obtain rfl := h2 (by first | rfl | trivial)
          have HB6 : Hid (Below V.heap.size V w6) := HB5.out.trans ((HNW5.out.trans (hb6.mono HNW5.out.size)).mono HB5.out.size)
          clear c14 h2 hb6 f1 cvt
          go_wp2_with fail
          go_roundw
          case rel => exact ⟨k + 1, by omega, by simp, HB6.out⟩
          case measure => simp [intOf]; omega
    · obtain ⟨v, x, hv, hx, hbl, hst, hvl, hxs⟩ := forms_at k (by omega)
      have hk7 : (k : Int) < 7 := by omega
      have hk0 : (0 : Int) ≤ k := by omega
      have HF : Hid (∀ Wx, Below W.heap.size W Wx → Wx.cell? ⟨w1.heap.size, k, none⟩ = some (.int .i64 v) ∧ Wx.cell? ⟨w1.heap.size + 1, k, none⟩ = some (.string x)) := by
        intro Wx h
        obtain ⟨q1, q2⟩ := HC.out k v x (by omega) hv hx
        have := HW.out.2
        exact ⟨(h.cell (p := ⟨w1.heap.size, k, none⟩) (by show w1.heap.size < _; omega)).trans q1, (h.cell (p := ⟨w1.heap.size + 1, k, none⟩) (by show w1.heap.size + 1 < _; omega)).trans q2⟩
      obtain ⟨f1, f2⟩ := HF.out wr HBR.out
      have cvt := fun w => cvt_bytes x w
      have HV : Hid (strs (put v) = x) := hst
      have hx5 : take5 (bl x) = some (v, x.size) := by
        have h := take_put v [] hvl
        rw [List.append_nil, ← hbl, bl_len] at h
        exact h
      have HX : Hid (take5 (bl x) = some (v, x.size)) := hx5
      have HBW : Hid (Below w.heap.size w wr) := HW.out.1.trans (HBR.out.mono HW.out.1.size)
      have hnw := nw_below wr x
      have c12 := take12 a _ x.size (gc wr x) (bl x) (nw wr x) (nw_rb wr x (by omega)) (by omega) (HG.out.below (HBW.out.trans (hnw.mono HBW.out.size)))
      rw [hx5] at c12
      have HNW : Hid (Below wr.heap.size wr (nw wr x)) := hnw
      clear hv hx hbl hst hx5 hnw
      go_wp2_with fail
      refine c12.mono ?_
      rintro r w5 ⟨hb5, h1, _⟩
      obtain rfl := h1 _ _ rfl
      have HB5 : Hid (Below W.heap.size W w5) := HBR.out.trans ((HNW.out.trans (hb5.mono HNW.out.size)).mono HBR.out.size)
      have fN : ∀ Wx, Below w5.heap.size w5 Wx → Wx.cell? ⟨w1.heap.size, k, none⟩ = some (.int .i64 v) := fun Wx h => (HF.out Wx (HB5.out.trans (h.mono HB5.out.size))).1
      have fT : ∀ Wx, Below w5.heap.size w5 Wx → Wx.cell? ⟨w1.heap.size + 1, k, none⟩ = some (.string x) := fun Wx h => (HF.out Wx (HB5.out.trans (h.mono HB5.out.size))).2
      have hdr : Below w5.heap.size w5 w5.drew := (Below.refl _ w5).drew
      clear c12 h1 hb5 f1 f2 cvt
      go_wp2_with fail
      refine wp_region_held_drew (S := fun Wx => Below w5.heap.size w5 Wx) (by kernel_rfl) ?_ (fun hHeld => ?_)
      · (try dsimp only)
        exact hdr
      refine wpAnyH_take (i := 0) (oi := { dst := some 41, op := Go.Op.move (Go.Operand.tmp 1), type := 34, pos := "law.go:84", after := #[], guard := none }) (v := ?_) rfl (by kernel_rfl) (by kernel_rfl) (by kernel_rfl) (fun _ _ _ h => h) (Or.inl ⟨by rfl, ?_⟩) (by assumption) ?_
      rotate_left
      · intro w hSw
        (try dsimp only at hSw)
        go_simp
        try with_reducible rfl
      simp only [Act.put, List.setIfInBounds_toArray, List.set_cons_zero, List.set_cons_succ]
      refine wpAnyH_take (i := 1) (oi := { dst := some 42, op := Go.Op.move (Go.Operand.tmp 3), type := 3, pos := "law.go:84", after := #[], guard := none }) (v := ?_) rfl (by kernel_rfl) (by kernel_rfl) (by kernel_rfl) (fun _ _ _ h => h) (Or.inl ⟨by rfl, ?_⟩) (by assumption) ?_
      rotate_left
      · intro w hSw
        (try dsimp only at hSw)
        go_simp
        try with_reducible rfl
      simp only [Act.put, List.setIfInBounds_toArray, List.set_cons_zero, List.set_cons_succ]
      refine wpAnyH_take (i := 2) (oi := { dst := some 43, op := Go.Op.indexAddr 34 (Go.Operand.tmp 41) (Go.Operand.tmp 42), type := 0, pos := "law.go:84", after := #[{ on := 0, ground := Go.Ground.data }, { on := 1, ground := Go.Ground.data }], guard := none }) (v := ?_) rfl (by kernel_rfl) (by kernel_rfl) (by kernel_rfl) (fun _ _ _ h => h) (Or.inl ⟨by rfl, ?_⟩) (by assumption) ?_
      rotate_left
      · intro w hSw
        (try dsimp only at hSw)
        go_simp
        try with_reducible rfl
      simp only [Act.put, List.setIfInBounds_toArray, List.set_cons_zero, List.set_cons_succ]
      refine wpAnyH_take (i := 3) (oi := { dst := some 44, op := Go.Op.load 3 (Go.Operand.tmp 43), type := 3, pos := "law.go:84", after := #[{ on := 2, ground := Go.Ground.data }], guard := none }) (v := ?_) rfl (by kernel_rfl) (by kernel_rfl) (by kernel_rfl) (fun _ _ _ h => h) (Or.inl ⟨by rfl, ?_⟩) (by assumption) ?_
      rotate_left
      · intro w hSw
        (try dsimp only at hSw)
        go_simp
        try with_reducible rfl
      simp only [Act.put, List.setIfInBounds_toArray, List.set_cons_zero, List.set_cons_succ]
      refine wpAnyH_take (i := 6) (oi := { dst := some 47, op := Go.Op.move (Go.Operand.tmp 2), type := 35, pos := "law.go:84", after := #[], guard := none }) (v := ?_) rfl (by kernel_rfl) (by kernel_rfl) (by kernel_rfl) (fun _ _ _ h => h) (Or.inl ⟨by rfl, ?_⟩) (by assumption) ?_
      rotate_left
      · intro w hSw
        (try dsimp only at hSw)
        go_simp
        try with_reducible rfl
      simp only [Act.put, List.setIfInBounds_toArray, List.set_cons_zero, List.set_cons_succ]
      refine wpAnyH_take (i := 7) (oi := { dst := some 48, op := Go.Op.move (Go.Operand.tmp 3), type := 3, pos := "law.go:84", after := #[], guard := none }) (v := ?_) rfl (by kernel_rfl) (by kernel_rfl) (by kernel_rfl) (fun _ _ _ h => h) (Or.inl ⟨by rfl, ?_⟩) (by assumption) ?_
      rotate_left
      · intro w hSw
        (try dsimp only at hSw)
        go_simp
        try with_reducible rfl
      simp only [Act.put, List.setIfInBounds_toArray, List.set_cons_zero, List.set_cons_succ]
      refine wpAnyH_take (i := 8) (oi := { dst := some 49, op := Go.Op.indexAddr 35 (Go.Operand.tmp 47) (Go.Operand.tmp 48), type := 0, pos := "law.go:84", after := #[{ on := 6, ground := Go.Ground.data }, { on := 7, ground := Go.Ground.data }], guard := none }) (v := ?_) rfl (by kernel_rfl) (by kernel_rfl) (by kernel_rfl) (fun _ _ _ h => h) (Or.inl ⟨by rfl, ?_⟩) (by assumption) ?_
      rotate_left
      · intro w hSw
        (try dsimp only at hSw)
        go_simp
        try with_reducible rfl
      simp only [Act.put, List.setIfInBounds_toArray, List.set_cons_zero, List.set_cons_succ]
      refine wpAnyH_take (i := 9) (oi := { dst := some 50, op := Go.Op.load 9 (Go.Operand.tmp 49), type := 9, pos := "law.go:84", after := #[{ on := 8, ground := Go.Ground.data }], guard := none }) (v := ?_) rfl (by kernel_rfl) (by kernel_rfl) (by kernel_rfl) (fun _ _ _ h => h) (Or.inl ⟨by rfl, ?_⟩) (by assumption) ?_
      rotate_left
      · intro w hSw
        (try dsimp only at hSw)
        go_simp
        try with_reducible rfl
      simp only [Act.put, List.setIfInBounds_toArray, List.set_cons_zero, List.set_cons_succ]
      refine wpAnyH_ready (rs := [4]) (by kernel_rfl) (by simp) ?_
      refine AllReadyH.cons (o := { dst := some 45, op := Go.Op.call { callee := Go.Callee.value (Go.Operand.func 8), args := #[Go.Operand.const (Go.Value.slice none 0 0), Go.Operand.tmp 44], argTypes := #[23, 3] }, type := 23, pos := "law.go:84", after := #[{ on := 3, ground := Go.Ground.data }], guard := none }) rfl (fun K hK => ?_) AllReadyH.nil
      go_simp
      refine (put8_nil v _ (by omega)).mono ?_
      rintro r W2 ⟨xo, xn, xc, rfl, hrx, hbx⟩
      have hs2 : Below w5.heap.size w5 W2 := hdr.trans (hbx.mono hdr.size)
      have cvx : ∀ Wx, Below W2.heap.size W2 Wx → (convert 23 9 (.slice xo xn xc)).run Tryd.prog Wx = .ok (.string x) Wx := fun Wx hW => by have h := conv_rb (hrx.kept hW); rwa [HV.out] at h
      have fN2 : ∀ Wx, Below W2.heap.size W2 Wx → Wx.cell? ⟨w1.heap.size, k, none⟩ = some (.int .i64 v) := fun Wx h => fN Wx (hs2.trans (h.mono hs2.size))
      have fT2 : ∀ Wx, Below W2.heap.size W2 Wx → Wx.cell? ⟨w1.heap.size + 1, k, none⟩ = some (.string x) := fun Wx h => fT Wx (hs2.trans (h.mono hs2.size))
      clear hrx
      refine hK.out _ _ ?_ (fun hHeld => ?_)
      · (try dsimp only)
        exact hs2
      clear hK K hHeld
      try simp only [Act.put, List.setIfInBounds_toArray, List.set_cons_zero, List.set_cons_succ]
      refine wpAnyH_strong (S' := fun Wx => Below W2.heap.size W2 Wx) (fun Wx h => hs2.trans (h.mono hs2.size)) _ _ _ _ ?_
      have hHeld : Below W2.heap.size W2 W2 := Below.refl _ _
      refine wpAnyH_take (i := 5) (oi := { dst := some 46, op := Go.Op.convert 23 9 (Go.Operand.tmp 45), type := 9, pos := "law.go:84", after := #[{ on := 4, ground := Go.Ground.data }], guard := none }) (v := ?_) rfl (by kernel_rfl) (by kernel_rfl) (by kernel_rfl) (fun _ _ _ h => h) (Or.inl ⟨by rfl, ?_⟩) (by assumption) ?_
      rotate_left
      · intro w hSw
        (try dsimp only at hSw)
        go_simp
        try with_reducible rfl
      simp only [Act.put, List.setIfInBounds_toArray, List.set_cons_zero, List.set_cons_succ]
      refine wpAnyH_take (i := 10) (oi := { dst := some 51, op := Go.Op.binOp Go.BinOp.neq 9 (Go.Operand.tmp 46) (Go.Operand.tmp 50) 9, type := 4, pos := "law.go:84", after := #[{ on := 5, ground := Go.Ground.data }, { on := 9, ground := Go.Ground.data }], guard := none }) (v := ?_) rfl (by kernel_rfl) (by kernel_rfl) (by kernel_rfl) (fun _ _ _ h => h) (Or.inl ⟨by rfl, ?_⟩) (by assumption) ?_
      rotate_left
      · intro w hSw
        (try dsimp only at hSw)
        go_simp
        try with_reducible rfl
      simp only [Act.put, List.setIfInBounds_toArray, List.set_cons_zero, List.set_cons_succ]
      refine wpAnyH_take (i := 11) (oi := { dst := some 52, op := Go.Op.move (Go.Operand.tmp 51), type := 4, pos := "law.go:84", after := #[{ on := 10, ground := Go.Ground.data }, { on := 4, ground := Go.Ground.chain }], guard := none }) (v := ?_) rfl (by kernel_rfl) (by kernel_rfl) (by kernel_rfl) (fun _ _ _ h => h) (Or.inl ⟨by rfl, ?_⟩) (by assumption) ?_
      rotate_left
      · intro w hSw
        (try dsimp only at hSw)
        go_simp
        try with_reducible rfl
      simp only [Act.put, List.setIfInBounds_toArray, List.set_cons_zero, List.set_cons_succ]
      refine wpAnyH_take (i := 12) (oi := { dst := some 53, op := Go.Op.move (Go.Operand.tmp 6), type := 4, pos := "law.go:84", after := #[{ on := 11, ground := Go.Ground.guard }], guard := some (11, false) }) (v := ?_) rfl (by kernel_rfl) (by kernel_rfl) (by kernel_rfl) (fun _ _ _ h => h) (Or.inl ⟨by rfl, ?_⟩) (by assumption) ?_
      rotate_left
      · intro w hSw
        (try dsimp only at hSw)
        go_simp
        try with_reducible rfl
      simp only [Act.put, List.setIfInBounds_toArray, List.set_cons_zero, List.set_cons_succ]
      refine wpAnyH_take (i := 13) (oi := { dst := some 54, op := Go.Op.unOp Go.UnOp.not 4 (Go.Operand.tmp 53), type := 4, pos := "law.go:84", after := #[{ on := 12, ground := Go.Ground.data }, { on := 11, ground := Go.Ground.guard }], guard := some (11, false) }) (v := ?_) rfl (by kernel_rfl) (by kernel_rfl) (by kernel_rfl) (fun _ _ _ h => h) (Or.inl ⟨by rfl, ?_⟩) (by assumption) ?_
      rotate_left
      · intro w hSw
        (try dsimp only at hSw)
        go_simp
        try with_reducible rfl
      simp only [Act.put, List.setIfInBounds_toArray, List.set_cons_zero, List.set_cons_succ]
      refine wpAnyH_take (i := 14) (oi := { dst := some 55, op := Go.Op.pick (Go.Operand.tmp 52) (Go.Operand.const (Go.Value.bool true)) (Go.Operand.tmp 54), type := 4, pos := "law.go:84", after := #[{ on := 11, ground := Go.Ground.data }, { on := 13, ground := Go.Ground.data }], guard := none }) (v := ?_) rfl (by kernel_rfl) (by kernel_rfl) (by kernel_rfl) (fun _ _ _ h => h) (Or.inl ⟨by rfl, ?_⟩) (by assumption) ?_
      rotate_left
      · intro w hSw
        (try dsimp only at hSw)
        go_simp
        try with_reducible rfl
      simp only [Act.put, List.setIfInBounds_toArray, List.set_cons_zero, List.set_cons_succ]
      refine wpAnyH_take (i := 15) (oi := { dst := some 56, op := Go.Op.move (Go.Operand.tmp 55), type := 4, pos := "law.go:84", after := #[{ on := 14, ground := Go.Ground.data }, { on := 11, ground := Go.Ground.chain }], guard := none }) (v := ?_) rfl (by kernel_rfl) (by kernel_rfl) (by kernel_rfl) (fun _ _ _ h => h) (Or.inl ⟨by rfl, ?_⟩) (by assumption) ?_
      rotate_left
      · intro w hSw
        (try dsimp only at hSw)
        go_simp
        try with_reducible rfl
      simp only [Act.put, List.setIfInBounds_toArray, List.set_cons_zero, List.set_cons_succ]
      refine wpAnyH_take (i := 16) (oi := { dst := some 57, op := Go.Op.move (Go.Operand.tmp 4), type := 3, pos := "law.go:84", after := #[{ on := 15, ground := Go.Ground.guard }], guard := some (15, false) }) (v := ?_) rfl (by kernel_rfl) (by kernel_rfl) (by kernel_rfl) (fun _ _ _ h => h) (Or.inl ⟨by rfl, ?_⟩) (by assumption) ?_
      rotate_left
      · intro w hSw
        (try dsimp only at hSw)
        go_simp
        try with_reducible rfl
      simp only [Act.put, List.setIfInBounds_toArray, List.set_cons_zero, List.set_cons_succ]
      refine wpAnyH_take (i := 17) (oi := { dst := some 58, op := Go.Op.move (Go.Operand.tmp 1), type := 34, pos := "law.go:84", after := #[{ on := 15, ground := Go.Ground.guard }], guard := some (15, false) }) (v := ?_) rfl (by kernel_rfl) (by kernel_rfl) (by kernel_rfl) (fun _ _ _ h => h) (Or.inl ⟨by rfl, ?_⟩) (by assumption) ?_
      rotate_left
      · intro w hSw
        (try dsimp only at hSw)
        go_simp
        try with_reducible rfl
      simp only [Act.put, List.setIfInBounds_toArray, List.set_cons_zero, List.set_cons_succ]
      refine wpAnyH_take (i := 18) (oi := { dst := some 59, op := Go.Op.move (Go.Operand.tmp 3), type := 3, pos := "law.go:84", after := #[{ on := 15, ground := Go.Ground.guard }], guard := some (15, false) }) (v := ?_) rfl (by kernel_rfl) (by kernel_rfl) (by kernel_rfl) (fun _ _ _ h => h) (Or.inl ⟨by rfl, ?_⟩) (by assumption) ?_
      rotate_left
      · intro w hSw
        (try dsimp only at hSw)
        go_simp
        try with_reducible rfl
      simp only [Act.put, List.setIfInBounds_toArray, List.set_cons_zero, List.set_cons_succ]
      refine wpAnyH_take (i := 19) (oi := { dst := some 60, op := Go.Op.indexAddr 34 (Go.Operand.tmp 58) (Go.Operand.tmp 59), type := 0, pos := "law.go:84", after := #[{ on := 17, ground := Go.Ground.data }, { on := 18, ground := Go.Ground.data }, { on := 15, ground := Go.Ground.guard }], guard := some (15, false) }) (v := ?_) rfl (by kernel_rfl) (by kernel_rfl) (by kernel_rfl) (fun _ _ _ h => h) (Or.inl ⟨by rfl, ?_⟩) (by assumption) ?_
      rotate_left
      · intro w hSw
        (try dsimp only at hSw)
        go_simp
        try with_reducible rfl
      simp only [Act.put, List.setIfInBounds_toArray, List.set_cons_zero, List.set_cons_succ]
      refine wpAnyH_take (i := 20) (oi := { dst := some 61, op := Go.Op.load 3 (Go.Operand.tmp 60), type := 3, pos := "law.go:84", after := #[{ on := 19, ground := Go.Ground.data }, { on := 15, ground := Go.Ground.guard }], guard := some (15, false) }) (v := ?_) rfl (by kernel_rfl) (by kernel_rfl) (by kernel_rfl) (fun _ _ _ h => h) (Or.inl ⟨by rfl, ?_⟩) (by assumption) ?_
      rotate_left
      · intro w hSw
        (try dsimp only at hSw)
        go_simp
        try with_reducible rfl
      simp only [Act.put, List.setIfInBounds_toArray, List.set_cons_zero, List.set_cons_succ]
      refine wpAnyH_take (i := 21) (oi := { dst := some 62, op := Go.Op.binOp Go.BinOp.neq 3 (Go.Operand.tmp 57) (Go.Operand.tmp 61) 3, type := 4, pos := "law.go:84", after := #[{ on := 16, ground := Go.Ground.data }, { on := 20, ground := Go.Ground.data }, { on := 15, ground := Go.Ground.guard }], guard := some (15, false) }) (v := ?_) rfl (by kernel_rfl) (by kernel_rfl) (by kernel_rfl) (fun _ _ _ h => h) (Or.inl ⟨by rfl, ?_⟩) (by assumption) ?_
      rotate_left
      · intro w hSw
        (try dsimp only at hSw)
        go_simp
        try with_reducible rfl
      simp only [Act.put, List.setIfInBounds_toArray, List.set_cons_zero, List.set_cons_succ]
      refine wpAnyH_take (i := 22) (oi := { dst := some 63, op := Go.Op.pick (Go.Operand.tmp 56) (Go.Operand.const (Go.Value.bool true)) (Go.Operand.tmp 62), type := 4, pos := "law.go:84", after := #[{ on := 15, ground := Go.Ground.data }, { on := 21, ground := Go.Ground.data }], guard := none }) (v := ?_) rfl (by kernel_rfl) (by kernel_rfl) (by kernel_rfl) (fun _ _ _ h => h) (Or.inl ⟨by rfl, ?_⟩) (by assumption) ?_
      rotate_left
      · intro w hSw
        (try dsimp only at hSw)
        go_simp
        try with_reducible rfl
      simp only [Act.put, List.setIfInBounds_toArray, List.set_cons_zero, List.set_cons_succ]
      refine wpAnyH_take (i := 23) (oi := { dst := some 64, op := Go.Op.move (Go.Operand.tmp 63), type := 4, pos := "law.go:84", after := #[{ on := 22, ground := Go.Ground.data }, { on := 15, ground := Go.Ground.chain }], guard := none }) (v := ?_) rfl (by kernel_rfl) (by kernel_rfl) (by kernel_rfl) (fun _ _ _ h => h) (Or.inl ⟨by rfl, ?_⟩) (by assumption) ?_
      rotate_left
      · intro w hSw
        (try dsimp only at hSw)
        go_simp
        try with_reducible rfl
      simp only [Act.put, List.setIfInBounds_toArray, List.set_cons_zero, List.set_cons_succ]
      refine wpAnyH_take (i := 24) (oi := { dst := some 65, op := Go.Op.move (Go.Operand.tmp 5), type := 3, pos := "law.go:84", after := #[{ on := 23, ground := Go.Ground.guard }], guard := some (23, false) }) (v := ?_) rfl (by kernel_rfl) (by kernel_rfl) (by kernel_rfl) (fun _ _ _ h => h) (Or.inl ⟨by rfl, ?_⟩) (by assumption) ?_
      rotate_left
      · intro w hSw
        (try dsimp only at hSw)
        go_simp
        try with_reducible rfl
      simp only [Act.put, List.setIfInBounds_toArray, List.set_cons_zero, List.set_cons_succ]
      refine wpAnyH_take (i := 25) (oi := { dst := some 66, op := Go.Op.move (Go.Operand.tmp 2), type := 35, pos := "law.go:84", after := #[{ on := 23, ground := Go.Ground.guard }], guard := some (23, false) }) (v := ?_) rfl (by kernel_rfl) (by kernel_rfl) (by kernel_rfl) (fun _ _ _ h => h) (Or.inl ⟨by rfl, ?_⟩) (by assumption) ?_
      rotate_left
      · intro w hSw
        (try dsimp only at hSw)
        go_simp
        try with_reducible rfl
      simp only [Act.put, List.setIfInBounds_toArray, List.set_cons_zero, List.set_cons_succ]
      refine wpAnyH_take (i := 26) (oi := { dst := some 67, op := Go.Op.move (Go.Operand.tmp 3), type := 3, pos := "law.go:84", after := #[{ on := 23, ground := Go.Ground.guard }], guard := some (23, false) }) (v := ?_) rfl (by kernel_rfl) (by kernel_rfl) (by kernel_rfl) (fun _ _ _ h => h) (Or.inl ⟨by rfl, ?_⟩) (by assumption) ?_
      rotate_left
      · intro w hSw
        (try dsimp only at hSw)
        go_simp
        try with_reducible rfl
      simp only [Act.put, List.setIfInBounds_toArray, List.set_cons_zero, List.set_cons_succ]
      refine wpAnyH_take (i := 27) (oi := { dst := some 68, op := Go.Op.indexAddr 35 (Go.Operand.tmp 66) (Go.Operand.tmp 67), type := 0, pos := "law.go:84", after := #[{ on := 25, ground := Go.Ground.data }, { on := 26, ground := Go.Ground.data }, { on := 23, ground := Go.Ground.guard }], guard := some (23, false) }) (v := ?_) rfl (by kernel_rfl) (by kernel_rfl) (by kernel_rfl) (fun _ _ _ h => h) (Or.inl ⟨by rfl, ?_⟩) (by assumption) ?_
      rotate_left
      · intro w hSw
        (try dsimp only at hSw)
        go_simp
        try with_reducible rfl
      simp only [Act.put, List.setIfInBounds_toArray, List.set_cons_zero, List.set_cons_succ]
      refine wpAnyH_take (i := 28) (oi := { dst := some 69, op := Go.Op.load 9 (Go.Operand.tmp 68), type := 9, pos := "law.go:84", after := #[{ on := 27, ground := Go.Ground.data }, { on := 23, ground := Go.Ground.guard }], guard := some (23, false) }) (v := ?_) rfl (by kernel_rfl) (by kernel_rfl) (by kernel_rfl) (fun _ _ _ h => h) (Or.inl ⟨by rfl, ?_⟩) (by assumption) ?_
      rotate_left
      · intro w hSw
        (try dsimp only at hSw)
        go_simp
        try with_reducible rfl
      simp only [Act.put, List.setIfInBounds_toArray, List.set_cons_zero, List.set_cons_succ]
      refine wpAnyH_take (i := 29) (oi := { dst := some 70, op := Go.Op.call { callee := Go.Callee.builtin Go.Builtin.len, args := #[Go.Operand.tmp 69], argTypes := #[9] }, type := 3, pos := "law.go:84", after := #[{ on := 28, ground := Go.Ground.data }, { on := 23, ground := Go.Ground.guard }], guard := some (23, false) }) (v := ?_) rfl (by kernel_rfl) (by kernel_rfl) (by kernel_rfl) (fun _ _ _ h => h) (Or.inl ⟨by rfl, ?_⟩) (by assumption) ?_
      rotate_left
      · intro w hSw
        (try dsimp only at hSw)
        go_simp
        try with_reducible rfl
      simp only [Act.put, List.setIfInBounds_toArray, List.set_cons_zero, List.set_cons_succ]
      refine wpAnyH_take (i := 30) (oi := { dst := some 71, op := Go.Op.binOp Go.BinOp.neq 3 (Go.Operand.tmp 65) (Go.Operand.tmp 70) 3, type := 4, pos := "law.go:84", after := #[{ on := 24, ground := Go.Ground.data }, { on := 29, ground := Go.Ground.data }, { on := 23, ground := Go.Ground.guard }], guard := some (23, false) }) (v := ?_) rfl (by kernel_rfl) (by kernel_rfl) (by kernel_rfl) (fun _ _ _ h => h) (Or.inl ⟨by rfl, ?_⟩) (by assumption) ?_
      rotate_left
      · intro w hSw
        (try dsimp only at hSw)
        go_simp
        try with_reducible rfl
      simp only [Act.put, List.setIfInBounds_toArray, List.set_cons_zero, List.set_cons_succ]
      refine wpAnyH_take (i := 31) (oi := { dst := some 72, op := Go.Op.pick (Go.Operand.tmp 64) (Go.Operand.const (Go.Value.bool true)) (Go.Operand.tmp 71), type := 4, pos := "law.go:84", after := #[{ on := 23, ground := Go.Ground.data }, { on := 30, ground := Go.Ground.data }], guard := none }) (v := ?_) rfl (by kernel_rfl) (by kernel_rfl) (by kernel_rfl) (fun _ _ _ h => h) (Or.inl ⟨by rfl, ?_⟩) (by assumption) ?_
      rotate_left
      · intro w hSw
        (try dsimp only at hSw)
        go_simp
        try with_reducible rfl
      simp only [Act.put, List.setIfInBounds_toArray, List.set_cons_zero, List.set_cons_succ]
      refine wpAnyH_done (by kernel_rfl) ?_ _
      have HB6 : Hid (Below W.heap.size W W2) := HB5.out.trans (hs2.mono HB5.out.size)
      clear hHeld cvx hs2 hbx hdr fN fT fN2 fT2 HB5
      go_wp2_with fail
      exact ⟨⟨k + 1, by omega, by simp, HB6.out⟩, by simp [intOf]; omega⟩

end Go.Proofs.YthlgfejdmigifaaDoor
