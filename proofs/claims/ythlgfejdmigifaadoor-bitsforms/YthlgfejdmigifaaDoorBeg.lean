/- bits does something: begun. -/
import Derived.Test.YthlgfejdmigifaaDoorPtx
import Derived.Test.YthlgfejdmigifaaDoorRfn
namespace Go.Proofs.YthlgfejdmigifaaDoor
open Go.RowKit
set_option maxRecDepth 100000
set_option linter.unusedVariables false

theorem rb_nil (w : World) : Rb w none 0 0 [] := Rb.none w

/-- Own bytes are read. -/
theorem own_rb {w : World} {base n : Nat} {x : Value} {l : List Nat} (h : w.ownsRow base 5 1 x n (cells l)) (hl : ∀ y ∈ l, y < 256) : ∃ ao cap, x = .slice ao n cap ∧ Rb w ao n cap l := by
  have h' := h
  rcases h.2 with ⟨rfl, rfl⟩ | ⟨g, cap, cur, rfl, r⟩
  · exact ⟨none, 0, rfl, Rb.of_own h' hl⟩
  · exact ⟨_, cap, rfl, Rb.of_own h' hl⟩

theorem put300 : put 300 = [172, 2] := by rw [put_great 300 (by decide), put_small _ (by decide)]
theorem putab : putT ⟨#[97, 98]⟩ = [2, 97, 98] := by
  unfold putT
  have e : (⟨#[97, 98]⟩ : ByteArray).size = 2 := rfl
  rw [e, put_small 2 (by decide)]
  rfl

set_option maxHeartbeats 4000000 in
theorem begun7 (a : Addr) (w : World) (hg : Err w a) : Calls Tryd.prog 7 #[] w fun r w' => r = .returned (.bool true) ∧ Below w.heap.size w w' := by
  have c1 := put8 none 0 0 [] 300 w (rb_nil w) (by omega) (by omega)
  rw [put300] at c1
  have HG : Hid (Err w a) := hg
  clear hg
  go_enter Tryd.func7, Tryd.ntmps7
  go_wp2_with fail
  refine c1.mono ?_
  rintro r w1 ⟨x, rfl, hown, hb1⟩
  clear c1
  obtain ⟨ao, cap, rfl, hr⟩ := own_rb hown (by decide)
  have c2 := take12 a ao 2 cap [172, 2] w1 hr (by omega) (HG.out.below hb1)
  have HB1 : Hid (Below w.heap.size w w1) := hb1
  have HR : Hid (Rb w1 ao 2 cap [172, 2]) := hr
  clear hown hb1 hr
  go_wp2_with fail
  refine c2.mono ?_
  rintro r w2 ⟨hb2, h1, _⟩
  obtain rfl := h1 300 2 rfl
  have HR2 : Hid (Rb w2 ao 2 cap [172, 2]) := HR.out.kept hb2
  have HB2 : Hid (Below w.heap.size w w2) := HB1.out.trans (hb2.mono HB1.out.size)
  have c3 := ptext10 none 0 0 [] ⟨#[97, 98]⟩ w2 (rb_nil w2) (by omega) (by decide)
  rw [putab] at c3
  clear c2 h1 hb2 HB1 HR
  go_wp2_with fail
  refine c3.mono ?_
  rintro r w3 ⟨x, rfl, hown, hb3⟩
  clear c3
  obtain ⟨bo, bcap, rfl, hr⟩ := own_rb hown (by decide)
  have HB3 : Hid (Below w.heap.size w w3) := HB2.out.trans (hb3.mono HB2.out.size)
  have HR3 : Hid (Rb w3 ao 2 cap [172, 2]) := HR2.out.kept hb3
  have c4 := take14 a bo 3 bcap [2, 97, 98] w3 hr (by omega) (HG.out.below HB3.out)
  clear hown hb3 hr HR2 HB2
  go_wp2_with fail
  refine c4.mono ?_
  rintro r w4 ⟨hb4, h1, _⟩
  obtain rfl := h1 [97, 98] 3 rfl
  have HB4 : Hid (Below w.heap.size w w4) := HB3.out.trans (hb4.mono HB3.out.size)
  have HR4 : Hid (Rb w4 ao 2 cap [172, 2]) := HR3.out.kept hb4
  have c5 := take12 a none 0 0 [] w4 (rb_nil w4) (by omega) (HG.out.below HB4.out)
  clear c4 h1 hb4 HB3 HR3
  go_wp2_with fail
  refine c5.mono ?_
  rintro r w5 ⟨hb5, _, h2⟩
  obtain rfl := h2 rfl
  have HB5 : Hid (Below w.heap.size w w5) := HB4.out.trans (hb5.mono HB4.out.size)
  have cv := conv_rb (HR4.out.kept hb5)
  have e1 : strs [172, 2] = ⟨#[172, 2]⟩ := rfl
  have e2 : strs [97, 98] = ⟨#[97, 98]⟩ := rfl
  rw [e1] at cv
  rw [e2]
  clear c5 h2 hb5 HB4 HR4
  go_wp2
  go_ret
  exact ⟨rfl, HB5.out⟩

end Go.Proofs.YthlgfejdmigifaaDoor
