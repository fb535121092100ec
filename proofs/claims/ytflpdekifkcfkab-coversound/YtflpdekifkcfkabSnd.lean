/- CoverSound: what is covered is: each that the one lets through the other does. -/
import Derived.Test.YtflpdekifkcfkabCbeg
import Derived.Test.YtflpdekifkcfkabBoxes
namespace Go.Proofs.Ytflpdekifkcfkab
open Go.RowKit
set_option linter.unusedVariables false

namespace Ev
theorem or_row (f g : Ft) : (Ft.two 6 f g).row false = both false (f.row false) (g.row false) := rfl

theorem sound_key (f g : Ft) {n : Nat} (h : ∀ b, g.row false = some b → ∀ x ∈ b, x.ok n) :
    (covers (f.row false) (g.row false) = true → ((f.row false).isSome && (g.row false).isSome) = true) ∧
    covers ((Ft.two 6 f g).row false) (g.row false) = ((Ft.two 6 f g).row false).isSome ∧
    (((Ft.two 6 f g).row false).isSome && (g.row false).isSome) = ((Ft.two 6 f g).row false).isSome := by
  rw [or_row]
  cases hf : f.row false with
  | none => exact ⟨fun h => (by cases h), rfl, rfl⟩
  | some a =>
    cases hg : g.row false with
    | none => exact ⟨fun h => (by cases h), rfl, rfl⟩
    | some b =>
      refine ⟨fun _ => rfl, ?_, by simp⟩
      rw [show both false (some a) (some b) = few (a ++ b) from rfl]
      unfold few
      split
      · rfl
      · exact cov_right (h b hg)

theorem sound_lets {f g : Ft} (hf : f.fine) (hg : g.fine) (h : covers (f.row false) (g.row false) = true) (al : List (Int × Int)) (t : ByteArray) (hs : Small al) (k : g.lets al t = true) : f.lets al t = true := by
  cases ef : f.row false with
  | none => rw [ef] at h; cases h
  | some a =>
    cases eg : g.row false with
    | none => rw [ef, eg] at h; cases h
    | some b =>
      rw [ef, eg] at h
      have e1 := (row_said f false a hf ef).2.2 al t hs
      have e2 := (row_said g false b hg eg).2.2 al t hs
      rw [k] at e2
      have := cov_lets h al t (by rw [e2]; rfl)
      rw [this] at e1
      cases hl : f.lets al t with
      | true => rfl
      | false => rw [hl] at e1; cases e1
end Ev

set_option maxHeartbeats 2000000 in
theorem snd_long (a0 a1 a2 : Option Addr) (l0 c0 l1 c1 l2 c2 : Nat) (w : World) (h0 : l0 ≤ maxLen) (h1 : l1 ≤ maxLen) (h2 : l2 ≤ maxLen) (h : (40 < l0 ∨ 40 < l1) ∨ 60 < l2) :
    Calls Try.prog 4 #[.slice a0 l0 c0, .slice a1 l1 c1, .slice a2 l2 c2] w fun e w' => e = .returned (.bool true) ∧ Below w.heap.size w w' := by
  unfold maxLen at h0 h1 h2
  by_cases g0 : 40 < l0
  · clear h
    go_enter Try.func4, Try.ntmps4
    go_wp2_with fail
    refine (begun8 _).mono ?_
    rintro e w1 ⟨rfl, hb1⟩
    go_wp2
    go_ret
    exact ⟨rfl, hb1⟩
  · by_cases g1 : 40 < l1
    · clear h
      go_enter Try.func4, Try.ntmps4
      go_wp2_with fail
      refine (begun8 _).mono ?_
      rintro e w1 ⟨rfl, hb1⟩
      go_wp2
      go_ret
      exact ⟨rfl, hb1⟩
    · have g2 : 60 < l2 := by omega
      clear h
      go_enter Try.func4, Try.ntmps4
      go_wp2_with fail
      refine (begun8 _).mono ?_
      rintro e w1 ⟨rfl, hb1⟩
      go_wp2
      go_ret
      exact ⟨rfl, hb1⟩

set_option maxRecDepth 100000 in
set_option maxHeartbeats 8000000 in
theorem snd_short (a0 a1 a2 : Option Addr) (l0 c0 l1 c1 l2 c2 : Nat) (w : World) (h0 : l0 ≤ 40) (h1 : l1 ≤ 40) (h2 : l2 ≤ 60) (r0 : Reads8 w a0 l0) (r1 : Reads8 w a1 l1) (r2 : Reads8 w a2 l2) :
    Calls Try.prog 4 #[.slice a0 l0 c0, .slice a1 l1 c1, .slice a2 l2 c2] w fun e w' => e = .returned (.bool true) ∧ Below w.heap.size w w' := by
  go_enter Try.func4, Try.ntmps4
  go_wp2_with fail
  refine (begun8 _).mono ?_
  rintro e w1 ⟨rfl, hb0⟩
  replace r0 := reads_below r0 hb0
  replace r1 := reads_below r1 hb0
  replace r2 := reads_below r2 hb0
  go_wp2_with fail
  refine (made10 _ _ _ _).mono ?_
  rintro e W1 ⟨rfl, hW1⟩
  have hp1 : Pick W1 w1.heap.size := by rw [hW1]; exact pick_made r0 (by omega)
  have hbW1 : Below w1.heap.size w1 W1 := by rw [hW1]; exact (Below.refl _ _).alloc (Nat.le_refl _) _
  have hsW1 : w1.heap.size < W1.heap.size := by rw [hW1]; simp
  clear hW1
  go_wp2_with fail
  refine (filter11 w1.heap.size 3 3 W1 (by omega) (by omega) hp1).mono ?_
  rintro e w2 ⟨f, o1, k1, l1', h1, t1, x1, n1, rfl, ok1, dp1, ly1, hw1⟩
  have hb1 : Below w1.heap.size w1 w2 := hbW1.trans (hw1.2.below (by omega) (fun k hk => by unfold But; omega))
  have lf1 : Lies Any w2 f o1 k1 l1' h1 t1 x1 n1 := Lies.mono (fun _ _ _ => trivial) f ly1
  clear hp1 ly1 hw1 hbW1 hsW1
  replace r1 := reads_below r1 hb1
  replace r2 := reads_below r2 hb1
  go_wp2_with fail
  refine (made10 _ _ _ _).mono ?_
  rintro e W2 ⟨rfl, hW2⟩
  have hp2 : Pick W2 w2.heap.size := by rw [hW2]; exact pick_made r1 (by omega)
  have hbW2 : Below w2.heap.size w2 W2 := by rw [hW2]; exact (Below.refl _ _).alloc (Nat.le_refl _) _
  have hsW2 : w2.heap.size < W2.heap.size := by rw [hW2]; simp
  clear hW2
  go_wp2_with fail
  refine (filter11 w2.heap.size 3 3 W2 (by omega) (by omega) hp2).mono ?_
  rintro e w3 ⟨g, o2, k2, l2', h2, t2, x2, n2, rfl, ok2, dp2, ly2, hw2⟩
  have hb2 : Below w2.heap.size w2 w3 := hbW2.trans (hw2.2.below (by omega) (fun k hk => by unfold But; omega))
  have lf2 : Lies Any w3 g o2 k2 l2' h2 t2 x2 n2 := Lies.mono (fun _ _ _ => trivial) g ly2
  clear hp2 ly2 hw2 hbW2 hsW2
  replace r2 := reads_below r2 hb2
  have lf1' := lf1.below hb2
  clear lf1
  have lf1 := lf1'
  clear lf1'
  have hs12 := hb1.size
  have hbw3 : Below w.heap.size w w3 := hb0.trans ((hb1.trans (hb2.mono hs12)).mono hb0.size)
  go_wp2_with fail
  obtain ⟨U, hU⟩ : ∃ U, U = (((w3.alloc (.cells #[.int .i64 o1, .int .i64 k1, .int .i64 l1', .int .i64 h1, .string t1, .slice x1 n1 n1] 26)).alloc (.cells #[.int .i64 o2, .int .i64 k2, .int .i64 l2', .int .i64 h2, .string t2, .slice x2 n2 n2] 26)).alloc (.cells #[.int .i64 o1, .int .i64 k1, .int .i64 l1', .int .i64 h1, .string t1, .slice x1 n1 n1, .int .i64 o2, .int .i64 k2, .int .i64 l2', .int .i64 h2, .string t2, .slice x2 n2 n2] 26)).alloc (.cells #[.int .i64 6, .int .i64 0, .int .i64 0, .int .i64 0, .string ⟨#[]⟩, .slice (some ⟨w3.heap.size + 1 + 1, 0, none⟩) 2 2] 26) := ⟨_, rfl⟩
  rw [← hU]
  have hbU : Below w3.heap.size w3 U := by rw [hU]; exact ((((Below.refl _ _).alloc (Nat.le_refl _) _).alloc (by simp) _).alloc (by simp <;> omega) _).alloc (by simp <;> omega) _
  have hsU : w3.heap.size + 1 + 1 + 1 < U.heap.size := by rw [hU]; simp
  have d1 : ∀ i, U.cell? ⟨w3.heap.size, i, none⟩ = (#[.int .i64 o1, .int .i64 k1, .int .i64 l1', .int .i64 h1, .string t1, .slice x1 n1 n1] : Array Value)[i]? := fun i => by rw [hU, World.cell?_alloc_past _ _ _ (hn := by simp <;> omega), World.cell?_alloc_past _ _ _ (hn := by simp <;> omega), World.cell?_alloc_past _ _ _ (hn := by simp)]; simp
  have d2 : ∀ i, U.cell? ⟨w3.heap.size + 1, i, none⟩ = (#[.int .i64 o2, .int .i64 k2, .int .i64 l2', .int .i64 h2, .string t2, .slice x2 n2 n2] : Array Value)[i]? := fun i => by rw [hU, World.cell?_alloc_past _ _ _ (hn := by simp <;> omega), World.cell?_alloc_past _ _ _ (hn := by simp), World.cell?_alloc_at _ _ _ _ (by simp)]
  have d3 : ∀ i, U.cell? ⟨w3.heap.size + 1 + 1, i, none⟩ = (#[.int .i64 o1, .int .i64 k1, .int .i64 l1', .int .i64 h1, .string t1, .slice x1 n1 n1, .int .i64 o2, .int .i64 k2, .int .i64 l2', .int .i64 h2, .string t2, .slice x2 n2 n2] : Array Value)[i]? := fun i => by rw [hU, World.cell?_alloc_past _ _ _ (hn := by simp), World.cell?_alloc_at _ _ _ _ (by simp)]
  have d4 : ∀ i, U.cell? ⟨w3.heap.size + 1 + 1 + 1, i, none⟩ = (#[.int .i64 6, .int .i64 0, .int .i64 0, .int .i64 0, .string ⟨#[]⟩, .slice (some ⟨w3.heap.size + 1 + 1, 0, none⟩) 2 2] : Array Value)[i]? := fun i => by rw [hU, World.cell?_alloc_at _ _ _ _ (by simp)]
  have lf1' := lf1.below hbU
  have lf2' := lf2.below hbU
  have lor : Lies Any U (.two 6 f g) 6 0 0 0 ⟨#[]⟩ (some ⟨w3.heap.size + 1 + 1, 0, none⟩) 2 := ⟨rfl, rfl, rfl, rfl, rfl, w3.heap.size + 1 + 1, o1, k1, l1', h1, t1, x1, n1, o2, k2, l2', h2, t2, x2, n2, rfl, rfl, trivial, ⟨(d3 0).trans rfl, (d3 1).trans rfl, (d3 2).trans rfl, (d3 3).trans rfl, (d3 4).trans rfl, (d3 5).trans rfl⟩, lf1', ⟨(d3 6).trans rfl, (d3 7).trans rfl, (d3 8).trans rfl, (d3 9).trans rfl, (d3 10).trans rfl, (d3 11).trans rfl⟩, lf2'⟩
  have HU : Hid (Below w.heap.size w U ∧ Lies Any U f o1 k1 l1' h1 t1 x1 n1 ∧ Lies Any U g o2 k2 l2' h2 t2 x2 n2 ∧ Lies Any U (.two 6 f g) 6 0 0 0 ⟨#[]⟩ (some ⟨w3.heap.size + 1 + 1, 0, none⟩) 2 ∧ (∀ i, U.cell? ⟨w3.heap.size, i, none⟩ = (#[.int .i64 o1, .int .i64 k1, .int .i64 l1', .int .i64 h1, .string t1, .slice x1 n1 n1] : Array Value)[i]?) ∧ (∀ i, U.cell? ⟨w3.heap.size + 1, i, none⟩ = (#[.int .i64 o2, .int .i64 k2, .int .i64 l2', .int .i64 h2, .string t2, .slice x2 n2 n2] : Array Value)[i]?) ∧ (∀ i, U.cell? ⟨w3.heap.size + 1 + 1 + 1, i, none⟩ = (#[.int .i64 6, .int .i64 0, .int .i64 0, .int .i64 0, .string ⟨#[]⟩, .slice (some ⟨w3.heap.size + 1 + 1, 0, none⟩) 2 2] : Array Value)[i]?)) := ⟨hbw3.trans (hbU.mono hbw3.size), lf1', lf2', lor, d1, d2, d4⟩
  have r2U := reads_below r2 hbU
  clear hU hbU hbw3 lf1 lf2 lf1' lf2' lor hb0 hb1 hb2 hs12 r0 r1 r2 d1 d2 d3 d4
  have j4 : w3.heap.size + 1 + 1 + 1 < U.heap.size := hsU
  have j2 : w3.heap.size + 1 < U.heap.size := by omega
  have j1 : w3.heap.size < U.heap.size := by omega
  generalize w3.heap.size + 1 + 1 + 1 = N4 at *
  generalize w3.heap.size + 1 + 1 = N3 at *
  generalize w3.heap.size + 1 = N2 at *
  generalize w3.heap.size = N1 at *
  clear hsU
  refine (made10 _ _ _ _).mono ?_
  rintro e W ⟨rfl, hW⟩
  have hpW : Pick W U.heap.size := by rw [hW]; exact pick_made r2U (by omega)
  have hbW : Below U.heap.size U W := by rw [hW]; exact (Below.refl _ _).alloc (Nat.le_refl _) _
  have hsW : U.heap.size < W.heap.size := by rw [hW]; simp
  clear hW r2U
  have HD : Hid (f.deep ≤ 4 ∧ g.deep ≤ 4 ∧ f.fine ∧ g.fine) := ⟨by omega, by omega, ok1, ok2⟩
  have hor : (Ev.Ft.two 6 f g).deep ≤ 6 := by simp only [Ev.Ft.deep]; omega
  have okor : (Ev.Ft.two 6 f g).fine := ⟨.inr rfl, ok1, ok2⟩
  have cc1 := fun w' (hb : Below U.heap.size U w') => covers11 f g w' o1 k1 l1' h1 t1 x1 n1 o2 k2 l2' h2 t2 x2 n2 (by omega) (by omega) ok1 ok2 (HU.out.2.1.below hb) (HU.out.2.2.1.below hb)
  have cc2 := fun w' (hb : Below U.heap.size U w') => covers11 (.two 6 f g) g w' 6 0 0 0 ⟨#[]⟩ (some ⟨N3, 0, none⟩) 2 o2 k2 l2' h2 t2 x2 n2 hor (by omega) okor ok2 (HU.out.2.2.2.1.below hb) (HU.out.2.2.1.below hb)
  have cc3 := fun w' (hb : Below U.heap.size U w') => rof13 (.two 6 f g) w' 6 0 0 0 ⟨#[]⟩ (some ⟨N3, 0, none⟩) 2 hor okor (HU.out.2.2.2.1.below hb)
  have fg := fits_row g false ok2 (by omega)
  obtain ⟨key1, key2, key3⟩ := Ev.sound_key f g (fun b hb => (fg b hb).2)
  unfold CPost at cc1 cc2
  unfold RPost at cc3
  rw [key2, key3] at cc2
  clear key2 key3 fg hor okor dp1 dp2 ok1 ok2
  have HS : Hid (Ev.covers (f.row false) (g.row false) = true → ((f.row false).isSome && (g.row false).isSome) = true ∧ ∀ al t, Ev.Small al → g.lets al t = true → f.lets al t = true) := fun h => ⟨key1 h, Ev.sound_lets HD.out.2.2.1 HD.out.2.2.2 h⟩
  clear key1
  generalize Ev.covers (f.row false) (g.row false) = cy at *
  generalize ((f.row false).isSome && (g.row false).isSome) = co at *
  generalize (Ev.Ft.two 6 f g).row false = ror at *
  have g1 : ∀ i, W.cell? ⟨N1, i, none⟩ = (#[.int .i64 o1, .int .i64 k1, .int .i64 l1', .int .i64 h1, .string t1, .slice x1 n1 n1] : Array Value)[i]? := fun i => (hbW.cell (p := ⟨N1, i, none⟩) j1).trans (HU.out.2.2.2.2.1 i)
  have g2 : ∀ i, W.cell? ⟨N2, i, none⟩ = (#[.int .i64 o2, .int .i64 k2, .int .i64 l2', .int .i64 h2, .string t2, .slice x2 n2 n2] : Array Value)[i]? := fun i => (hbW.cell (p := ⟨N2, i, none⟩) j2).trans (HU.out.2.2.2.2.2.1 i)
  have m1 : N1 < W.heap.size := by omega
  have m2 : N2 < W.heap.size := by omega
  have K1 := cc1 W hbW
  clear cc1
  have HC : Hid (_ ∧ _) := ⟨cc2, cc3⟩
  clear cc2 cc3
  have HPW : Hid (Pick W U.heap.size) := hpW
  clear hpW
  go_wp2_with fail
  refine K1.mono ?_
  rintro e u1 ⟨rfl, hu1⟩
  clear K1 g1 g2 m1 m2
  have hU1 : Below U.heap.size U u1 := hbW.trans (hu1.mono hbW.size)
  have g4 : ∀ i, u1.cell? ⟨N4, i, none⟩ = (#[.int .i64 6, .int .i64 0, .int .i64 0, .int .i64 0, .string ⟨#[]⟩, .slice (some ⟨N3, 0, none⟩) 2 2] : Array Value)[i]? := fun i => (hU1.cell (p := ⟨N4, i, none⟩) j4).trans (HU.out.2.2.2.2.2.2 i)
  have g2 : ∀ i, u1.cell? ⟨N2, i, none⟩ = (#[.int .i64 o2, .int .i64 k2, .int .i64 l2', .int .i64 h2, .string t2, .slice x2 n2 n2] : Array Value)[i]? := fun i => (hU1.cell (p := ⟨N2, i, none⟩) j2).trans (HU.out.2.2.2.2.2.1 i)
  have m4 : N4 < u1.heap.size := Nat.lt_of_lt_of_le j4 hU1.size
  have m2 : N2 < u1.heap.size := Nat.lt_of_lt_of_le j2 hU1.size
  have hp1 : Pick u1 U.heap.size := HPW.out.below (hu1.mono (by have := HPW.out.lt; omega))
  have K2 := HC.out.1 u1 hU1
  clear hu1 hbW hsW HPW
  go_wp2_with fail
  refine K2.mono ?_
  rintro e u2 ⟨rfl, hu2⟩
  clear K2 g4 g2 m4 m2
  have hU2 : Below U.heap.size U u2 := hU1.trans (hu2.mono hU1.size)
  have g4 : ∀ i, u2.cell? ⟨N4, i, none⟩ = (#[.int .i64 6, .int .i64 0, .int .i64 0, .int .i64 0, .string ⟨#[]⟩, .slice (some ⟨N3, 0, none⟩) 2 2] : Array Value)[i]? := fun i => (hU2.cell (p := ⟨N4, i, none⟩) j4).trans (HU.out.2.2.2.2.2.2 i)
  have m4 : N4 < u2.heap.size := Nat.lt_of_lt_of_le j4 hU2.size
  have hp2 : Pick u2 U.heap.size := hp1.below (hu2.mono (by have := hp1.lt; omega))
  have K3 := HC.out.2 u2 hU2
  clear hu2 hU1 hp1
  go_wp2_with fail
  refine K3.mono ?_
  rintro e u3 ⟨v3, rfl, row3, hu3⟩
  obtain ⟨ro, rc, rfl⟩ := row3.slice
  have hU3 : Below U.heap.size U u3 := hU2.trans (hu3.mono hU2.size)
  have hp3 : Pick u3 U.heap.size := hp2.below (hu3.mono (by have := hp2.lt; omega))
  have HE : Hid (Below w.heap.size w U ∧ Lies Any U f o1 k1 l1' h1 t1 x1 n1 ∧ Lies Any U g o2 k2 l2' h2 t2 x2 n2 ∧ (∀ i, U.cell? ⟨N1, i, none⟩ = (#[.int .i64 o1, .int .i64 k1, .int .i64 l1', .int .i64 h1, .string t1, .slice x1 n1 n1] : Array Value)[i]?) ∧ (∀ i, U.cell? ⟨N2, i, none⟩ = (#[.int .i64 o2, .int .i64 k2, .int .i64 l2', .int .i64 h2, .string t2, .slice x2 n2 n2] : Array Value)[i]?) ∧ Pick u3 U.heap.size ∧ Below U.heap.size U u3) := ⟨HU.out.1, HU.out.2.1, HU.out.2.2.1, HU.out.2.2.2.2.1, HU.out.2.2.2.2.2.1, hp3, hU3⟩
  have jU : w.heap.size ≤ U.heap.size := HU.out.1.size
  have jp := hU3.size
  clear K3 g4 m4 row3 hu3 hU2 hp2 HU HC hp3 hU3
  generalize ror.isSome = is at *
  have HKE : Hid (∀ w', Kept (But U.heap.size) u3 w' → Below U.heap.size U w') := fun w' hk => HE.out.2.2.2.2.2.2.trans (hk.below jp (fun k hk => by unfold But; omega))
  cases cy with
  | false =>
    cases is <;>
    · go_wp2_with fail
      go_loopg [17] 3 (fun gg ii wr => ∃ q : Nat, q ≤ 3 ∧ gg = 3 - q ∧ ii = .int .i64 q ∧ Pick wr U.heap.size ∧ Kept (But U.heap.size) u3 wr)
      case atStart => exact ⟨0, by omega, rfl, rfl, HE.out.2.2.2.2.2.1, Kept.refl _ _⟩
      case round =>
        obtain ⟨q, hq, hgq, rfl, hp, hbr⟩ := hrel
        have HGQ : Hid (gk = 3 - q) := hgq
        clear hgq
        by_cases hqt : q < 3
        · have hqi : (q : Int) < 3 := by omega
          go_wp2_with fail
          refine (version12 U.heap.size wr hp).mono ?_
          rintro e w5 ⟨v, al, rfl, hsm, hhas, hw5⟩
          have HK : Hid (Pick w5 U.heap.size ∧ Kept (But U.heap.size) u3 w5) := ⟨hw5.1, hbr.trans hw5.2⟩
          clear hp hbr hhas hw5
          unfold Vs.val
          go_wp2
          go_roundg (3 - (q + 1))
          case measure => have := HGQ.out; omega
          case rel => exact ⟨q + 1, by omega, rfl, by go_num, Below.pick HK.out.1 ((Below.refl _ _).alloc (Nat.le_refl _) _), HK.out.2.alloc _⟩
        · obtain rfl : q = 3 := by omega
          have HB : Hid (Below w.heap.size w wr) := HE.out.1.trans ((HKE.out wr hbr).mono jU)
          clear hbr hp
          go_wp2
          go_ret
          exact ⟨rfl, HB.out⟩
  | true =>
    obtain ⟨hco, hlets⟩ := HS.out rfl
    have HL : Hid (∀ al t, Ev.Small al → g.lets al t = true → f.lets al t = true) := hlets
    clear HS hlets
    subst hco
    cases is <;>
    · go_wp2_with fail
      go_loopg [17] 3 (fun gg ii wr => ∃ q : Nat, q ≤ 3 ∧ gg = 3 - q ∧ ii = .int .i64 q ∧ Pick wr U.heap.size ∧ Kept (But U.heap.size) u3 wr)
      case atStart => exact ⟨0, by omega, rfl, rfl, HE.out.2.2.2.2.2.1, Kept.refl _ _⟩
      case round =>
        obtain ⟨q, hq, hgq, rfl, hp, hbr⟩ := hrel
        have HGQ : Hid (gk = 3 - q) := hgq
        clear hgq
        by_cases hqt : q < 3
        · have hqi : (q : Int) < 3 := by omega
          go_wp2_with fail
          refine (version12 U.heap.size wr hp).mono ?_
          rintro e w5 ⟨v, al, rfl, hsm, hhas, hw5⟩
          have hh5 : Has Any w5 v al := hhas.mono (fun _ _ _ => trivial)
          have HK : Hid (Pick w5 U.heap.size ∧ Kept (But U.heap.size) u3 w5) := ⟨hw5.1, hbr.trans hw5.2⟩
          have hbU : Below U.heap.size U w5 := HKE.out w5 HK.out.2
          have hsm' : Hid (Ev.Small al) := hsm
          clear hp hbr hhas hw5 hsm
          have g1 : ∀ i, w5.cell? ⟨N1, i, none⟩ = (#[.int .i64 o1, .int .i64 k1, .int .i64 l1', .int .i64 h1, .string t1, .slice x1 n1 n1] : Array Value)[i]? := fun i => (hbU.cell (p := ⟨N1, i, none⟩) j1).trans (HE.out.2.2.2.1 i)
          have g2 : ∀ i, w5.cell? ⟨N2, i, none⟩ = (#[.int .i64 o2, .int .i64 k2, .int .i64 l2', .int .i64 h2, .string t2, .slice x2 n2 n2] : Array Value)[i]? := fun i => (hbU.cell (p := ⟨N2, i, none⟩) j2).trans (HE.out.2.2.2.2.1 i)
          have m1 : N1 < w5.heap.size := Nat.lt_of_lt_of_le j1 hbU.size
          have m2 : N2 < w5.heap.size := Nat.lt_of_lt_of_le j2 hbU.size
          unfold Vs.val
          go_wp2_with fail
          obtain ⟨X, hX⟩ : ∃ X, X = w5.alloc (.cells #[.int .i64 v.it, .int .i64 v.L, .int .i64 v.R, .int .i64 v.N, .bool v.dead, .slice v.ao v.len v.cap, .string v.tag, .string v.body] 48) := ⟨_, rfl⟩
          rw [← hX]
          have hbX : Below w5.heap.size w5 X := by rw [hX]; exact (Below.refl _ _).alloc (Nat.le_refl _) _
          have vc : ∀ i, X.cell? ⟨w5.heap.size, i, none⟩ = (#[.int .i64 v.it, .int .i64 v.L, .int .i64 v.R, .int .i64 v.N, .bool v.dead, .slice v.ao v.len v.cap, .string v.tag, .string v.body] : Array Value)[i]? := fun i => by rw [hX]; simp
          have jX : w5.heap.size < X.heap.size := by rw [hX]; simp
          have cg := lets14 g v al X o2 k2 l2' h2 t2 x2 n2 HD.out.2.2.2.ok ((HE.out.2.2.1.below hbU).below hbX) (hh5.below hbX)
          have cf := fun w' (hb : Below X.heap.size X w') => lets14 f v al w' o1 k1 l1' h1 t1 x1 n1 HD.out.2.2.1.ok (((HE.out.2.1.below hbU).below hbX).below hb) ((hh5.below hbX).below hb)
          have hfl : g.lets al v.tag = true → f.lets al v.tag = true := HL.out al v.tag hsm'.out
          have HX : Hid (Below w5.heap.size w5 X ∧ (∀ i, X.cell? ⟨w5.heap.size, i, none⟩ = (#[.int .i64 v.it, .int .i64 v.L, .int .i64 v.R, .int .i64 v.N, .bool v.dead, .slice v.ao v.len v.cap, .string v.tag, .string v.body] : Array Value)[i]?) ∧ (∀ i, w5.cell? ⟨N1, i, none⟩ = (#[.int .i64 o1, .int .i64 k1, .int .i64 l1', .int .i64 h1, .string t1, .slice x1 n1 n1] : Array Value)[i]?)) := ⟨hbX, vc, g1⟩
          have hpX : Pick X U.heap.size := Below.pick HK.out.1 hbX
          have hkX : Kept (But U.heap.size) u3 X := HK.out.2.trans (Kept.of_below hbX)
          have HPX : Hid (Pick X U.heap.size ∧ Kept (But U.heap.size) u3 X) := ⟨hpX, hkX⟩
          unfold Vs.val at cg cf
          clear hX hbX vc hbU hh5 g1 g2 hpX hkX HK
          cases hrg : g.lets al v.tag with
          | false =>
            rw [hrg] at cg
            clear hrg hfl cf
            refine cg.mono ?_
            rintro e w6 ⟨rfl, hb6⟩
            clear cg
            go_wp2
            go_roundg (3 - (q + 1))
            case measure => have := HGQ.out; omega
            case rel => exact ⟨q + 1, by omega, rfl, by go_num, Below.pick HPX.out.1 hb6, HPX.out.2.trans (Kept.of_below hb6)⟩
          | true =>
            rw [hrg] at cg
            rw [hfl hrg] at cf
            clear hrg hfl
            refine cg.mono ?_
            rintro e w6 ⟨rfl, hb6⟩
            have g1 : ∀ i, w6.cell? ⟨N1, i, none⟩ = (#[.int .i64 o1, .int .i64 k1, .int .i64 l1', .int .i64 h1, .string t1, .slice x1 n1 n1] : Array Value)[i]? := fun i => (hb6.cell (p := ⟨N1, i, none⟩) (by show N1 < _; omega)).trans ((HX.out.1.cell (p := ⟨N1, i, none⟩) m1).trans (HX.out.2.2 i))
            have v1 : ∀ i, w6.cell? ⟨w5.heap.size, i, none⟩ = (#[.int .i64 v.it, .int .i64 v.L, .int .i64 v.R, .int .i64 v.N, .bool v.dead, .slice v.ao v.len v.cap, .string v.tag, .string v.body] : Array Value)[i]? := fun i => (hb6.cell (p := ⟨w5.heap.size, i, none⟩) jX).trans (HX.out.2.1 i)
            have hs6 := hb6.size
            have n1 : N1 < w6.heap.size := by omega
            have n5 : w5.heap.size < w6.heap.size := by omega
            have cf' := cf w6 hb6
            clear cg cf
            go_wp2_with fail
            refine cf'.mono ?_
            rintro e w7 ⟨rfl, hb7⟩
            clear cf' g1 v1
            go_wp2
            go_roundg (3 - (q + 1))
            case measure => have := HGQ.out; omega
            case rel => exact ⟨q + 1, by omega, rfl, by go_num, Below.pick (Below.pick HPX.out.1 hb6) hb7, (HPX.out.2.trans (Kept.of_below hb6)).trans (Kept.of_below hb7)⟩
        · obtain rfl : q = 3 := by omega
          have HB : Hid (Below w.heap.size w wr) := HE.out.1.trans ((HKE.out wr hbr).mono jU)
          clear hbr hp
          go_wp2
          go_ret
          exact ⟨rfl, HB.out⟩

/-- CoverSound's walk. -/
theorem snd_any (a0 : Option Addr) (l0 c0 : Nat) (a1 : Option Addr) (l1 c1 : Nat) (a2 : Option Addr) (l2 c2 : Nat) (w : World) (r0 : Reads8 w a0 l0) (r1 : Reads8 w a1 l1) (r2 : Reads8 w a2 l2) :
    Calls Try.prog 4 #[.slice a0 l0 c0, .slice a1 l1 c1, .slice a2 l2 c2] w fun e w' => e = .returned (.bool true) ∧ Below w.heap.size w w' := by
  by_cases h : (40 < l0 ∨ 40 < l1) ∨ 60 < l2
  · exact snd_long a0 a1 a2 l0 c0 l1 c1 l2 c2 w r0.1 r1.1 r2.1 h
  · exact snd_short a0 a1 a2 l0 c0 l1 c1 l2 c2 w (by omega) (by omega) (by omega) r0 r1 r2

end Go.Proofs.Ytflpdekifkcfkab
