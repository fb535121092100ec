/- cardamomref1.MayVersion of any version. -/
import Derived.Test.YtopkeembbopbmaaDoorMst
import Derived.Test.YtopkeembbopbmaaDoorLet
import Derived.Test.YtopkeembbopbmaaDoorPuv
import Derived.BigQuiet
import Derived.Deep.QuietTactic
namespace Go.Proofs.YtopkeembbopbmaaDoor
open Go.RowKit
set_option maxRecDepth 100000
set_option linter.unusedVariables false

theorem bel_dN2 {B : Nat} {a w : World} (h : Below B a w) (q : Nat) : Below B a (w.drewN q) := ⟨h.os, h.tape, h.output, h.size, h.block⟩

set_option maxHeartbeats 8000000 in
theorem mver24 (v : Vn) (al : List (Int × Int)) (w : World) (hA : Has w v al) (ht : v.tag.size ≤ 100000) (hb : v.body.size ≤ 100000) :
    Calls Tryd.prog 24 #[v.val] w fun r w' => r = .returned (.bool (mayI v al)) ∧ Below w.heap.size w w' := by
  obtain ⟨it, L, R, N, dead, ao, len, cap, tag, body⟩ := v
  have hA' : At w ao len al := hA
  have hlen := hA'.2.1
  have HLn : Hid (len = al.length) := hA'.1
  have HM : Hid (mayI ⟨it, L, R, N, dead, ao, len, cap, tag, body⟩ al = ((decide (1 ≤ it) && decide (it ≤ 6)) && (stOk L R N && (atsOk al && (tagOk tag && bodyOk dead body))))) := by show _ = _; rfl
  generalize mayI ⟨it, L, R, N, dead, ao, len, cap, tag, body⟩ al = M at *
  unfold Vn.val
  simp only at ht hb ⊢
  have q1 := fun w => mst41 L R N w
  have q2 := fun w => let42 tag w ht
  obtain ⟨X, hX⟩ : ∃ X, X = w.alloc (.cells #[.int .i64 it, .int .i64 L, .int .i64 R, .int .i64 N, .bool dead, .slice ao len cap, .string tag, .string body] 26) := ⟨_, rfl⟩
  have hBX : Below w.heap.size w X := by rw [hX]; exact (Below.refl _ w).alloc (Nat.le_refl _) _
  have x2 : X.cell? ⟨w.heap.size, 2, none⟩ = some (.int .i64 R) := by rw [hX]; simp
  have x4 : X.cell? ⟨w.heap.size, 4, none⟩ = some (.bool dead) := by rw [hX]; simp
  have x5 : X.cell? ⟨w.heap.size, 5, none⟩ = some (.slice ao len cap) := by rw [hX]; simp
  have x6 : X.cell? ⟨w.heap.size, 6, none⟩ = some (.string tag) := by rw [hX]; simp
  have x7 : X.cell? ⟨w.heap.size, 7, none⟩ = some (.string body) := by rw [hX]; simp
  have hsX : w.heap.size < X.heap.size := by rw [hX]; simp
  have HX : Hid (X = _ ∧ Below w.heap.size w X ∧ At X ao len al) := ⟨hX, hBX, hA'.kept hBX⟩
  have HXC : Hid (X.cell? ⟨w.heap.size, 4, none⟩ = some (.bool dead) ∧ X.cell? ⟨w.heap.size, 5, none⟩ = some (.slice ao len cap) ∧ X.cell? ⟨w.heap.size, 6, none⟩ = some (.string tag) ∧ X.cell? ⟨w.heap.size, 7, none⟩ = some (.string body)) := ⟨x4, x5, x6, x7⟩
  clear hX hBX hA hA' x2 x4 x5 x6 x7
  by_cases g1 : it < 1
  · have HF : Hid (M = false) := by show _ = _; rw [HM.out, decide_eq_false (show ¬ 1 ≤ it by omega)]; rfl
    clear q1 q2
    go_enter Tryd.func24, Tryd.ntmps24
    go_wp2
    go_ret
    exact ⟨by rw [HF.out]; rfl, (Below.refl _ w).alloc (Nat.le_refl _) _⟩
  by_cases g2 : 6 < it
  · have HF : Hid (M = false) := by show _ = _; rw [HM.out, decide_eq_false (show ¬ it ≤ 6 by omega)]; simp
    have g11 : 1 ≤ it := by omega
    clear q1 q2
    go_enter Tryd.func24, Tryd.ntmps24
    go_wp2
    go_ret
    exact ⟨by rw [HF.out]; rfl, (Below.refl _ w).alloc (Nat.le_refl _) _⟩
  have HI : Hid ((decide (1 ≤ it) && decide (it ≤ 6)) = true) := by show _ = _; rw [decide_eq_true (show 1 ≤ it by omega), decide_eq_true (show it ≤ 6 by omega)]; rfl
  have g11 : decide (it < 1) = false := decide_eq_false g1
  have g22 : decide (6 < it) = false := decide_eq_false g2
  go_enter Tryd.func24, Tryd.ntmps24
  go_wp2_with fail
  rw [← HX.out.1]
  refine (q1 _).mono ?_
  rintro r w2 ⟨rfl, hb2⟩
  have HB2 : Hid (Below X.heap.size X w2) := hb2
  have HBw2 : Hid (Below w.heap.size w w2) := HX.out.2.1.trans (hb2.mono HX.out.2.1.size)
  have x4 := (hb2.cell (p := ⟨w.heap.size, 4, none⟩) hsX).trans HXC.out.1
  have x5 := (hb2.cell (p := ⟨w.heap.size, 5, none⟩) hsX).trans HXC.out.2.1
  have x6 := (hb2.cell (p := ⟨w.heap.size, 6, none⟩) hsX).trans HXC.out.2.2.1
  have x7 := (hb2.cell (p := ⟨w.heap.size, 7, none⟩) hsX).trans HXC.out.2.2.2
  have hs2 := hb2.size
  clear q1 hb2
  cases hst : stOk L R N with
  | false =>
    have HF : Hid (M = false) := by show _ = _; rw [HM.out, hst]; simp
    clear q2
    go_wp2
    go_ret
    exact ⟨by rw [HF.out]; rfl, HBw2.out⟩
  | true =>
    have HST : Hid (stOk L R N = true) := hst
    clear hst
    by_cases g3 : 3 < len
    · have HF : Hid (M = false) := by show _ = _; rw [HM.out]; unfold atsOk; rw [decide_eq_false (show ¬ al.length ≤ 3 by have := HLn.out; omega)]; simp
      have g31 : (3 : Int) < len := by omega
      clear q2
      go_wp2
      go_ret
      exact ⟨by rw [HF.out]; rfl, HBw2.out⟩
    have g31 : ¬ (3 : Int) < len := by omega
    have g32 : decide ((3 : Int) < (len : Int)) = false := decide_eq_false g31
    have g33 : decide (3 < len) = false := decide_eq_false g3
    go_wp2_with fail
    refine (q2 _).mono ?_
    rintro r w3 ⟨rfl, rfl⟩
    clear q2
    cases htg : tagOk tag with
    | false =>
      have HF : Hid (M = false) := by show _ = _; rw [HM.out, htg]; simp
      go_wp2
      go_ret
      exact ⟨by rw [HF.out]; rfl, HBw2.out⟩
    | true =>
      have HTG : Hid (tagOk tag = true) := htg
      clear htg
      by_cases g4 : 12 < body.size
      · have HF : Hid (M = false) := by show _ = _; rw [HM.out]; unfold bodyOk; rw [decide_eq_false (show ¬ body.size ≤ 12 by omega)]; simp
        have g41 : (12 : Int) < body.size := by omega
        go_wp2
        go_ret
        exact ⟨by rw [HF.out]; rfl, HBw2.out⟩
      have g41 : ¬ (12 : Int) < body.size := by omega
      have g42 : decide ((12 : Int) < (body.size : Int)) = false := decide_eq_false g41
      have g43 : decide (12 < body.size) = false := decide_eq_false g4
      have HBO : Hid (bodyOk dead body = (!dead || decide (body.size = 0))) := by show _ = _; unfold bodyOk; rw [decide_eq_true (show body.size ≤ 12 by omega), Bool.and_true]
      cases hdd : dead with
      | false =>
        subst hdd
        have HB1 : Hid (bodyOk false body = true) := by show _ = _; rw [HBO.out]; rfl
        have HMM : Hid (M = atOk 0 al) := by
          show _ = _
          rw [HM.out, HI.out, HST.out, HTG.out, HB1.out]
          unfold atsOk
          rw [decide_eq_true (show al.length ≤ 3 by have := HLn.out; omega)]
          simp
        go_wp2_with fail
        go_loopw [3] (fun i wr => ∃ (k : Nat) (lo : Int), k ≤ len ∧ i = .int .i64 k ∧ Below w3.heap.size w3 wr ∧ atOk 0 al = atOk lo (al.drop k) ∧ (k = 0 → lo = 0) ∧ (0 < k → lo = (al.getD (k - 1) (0, 0)).1 + 1) ∧ 0 ≤ lo) (fun i _ => len - (intOf i).toNat)
        case atStart => exact ⟨0, 0, Nat.zero_le _, rfl, Below.refl _ _, rfl, fun _ => rfl, fun h => absurd h (by omega), by omega⟩
        case round =>
          obtain ⟨k, lo, hk, rfl, hbel, hat, hk0, hkp, hlo⟩ := hrel
          have HB : Hid (Below w3.heap.size w3 wr ∧ Below w.heap.size w wr) := ⟨hbel, HBw2.out.trans (hbel.mono HBw2.out.size)⟩
          have y5 := (hbel.cell (p := ⟨w.heap.size, 5, none⟩) (Nat.lt_of_lt_of_le hsX hs2)).trans x5
          have hsr := hbel.size
          have hs0 : w.heap.size < wr.heap.size := by omega
          by_cases hlt : k < len
          · have hka : k < al.length := by have := HLn.out; omega
            rw [at_drop al k hka] at hat
            obtain ⟨b, off, rfl, hc⟩ := ((HX.out.2.2.kept HB2.out).kept hbel).2.2 (by omega)
            obtain ⟨c0, c1⟩ := hc k hlt
            have hbw : b < wr.heap.size := World.block_lt_of_cell? wr ⟨b, off + k * 2, none⟩ c0
            have HCC : Hid (∀ j, j < len → wr.cell? ⟨b, off + j * 2, none⟩ = some (.int .i64 (al.getD j (0, 0)).1)) := fun j hj => (hc j hj).1
            have HKP : Hid ((k = 0 → lo = 0) ∧ (0 < k → lo = (al.getD (k - 1) (0, 0)).1 + 1) ∧ 0 ≤ lo) := ⟨hk0, hkp, hlo⟩
            have HNX : Hid (0 < k + 1 → (al.getD k (0, 0)).1 + 1 = (al.getD (k + 1 - 1) (0, 0)).1 + 1) := fun _ => rfl
            have HPP : Hid (al.getD k (0, 0) = al.getD k (0, 0)) := rfl
            obtain ⟨p, hp⟩ : ∃ p, p = (al.getD k (0, 0)).1 := ⟨_, rfl⟩
            obtain ⟨q, hq⟩ : ∃ q, q = (al.getD k (0, 0)).2 := ⟨_, rfl⟩
            have HPE : Hid (p = (al.getD k (0, 0)).1) := hp
            have HAT : Hid (atOk 0 al = ((decide (lo ≤ p) && decide (p ≤ 3)) && ((decide (0 ≤ q) && decide (q ≤ 99)) && atOk (p + 1) (al.drop (k + 1))))) := by rw [hp, hq]; exact hat
            rw [← hp] at c0
            rw [← hq] at c1
            clear hat hc hk0 hkp hlo hbel hp hq HNX HPP
            by_cases e1 : p < 0
            · have HF : Hid (M = false) := by show _ = _; rw [HMM.out, HAT.out, decide_eq_false (show ¬ lo ≤ p by have := HKP.out.2.2; omega)]; rfl
              have d1 : decide (p < 0) = true := decide_eq_true e1
              go_wp2_with fail
              go_quiet (fail)
              go_wp2
              go_ret
              exact ⟨by rw [HF.out]; rfl, bel_dN2 (HB.out.2.alloc HB.out.2.size _) _⟩
            have d1 : decide (p < 0) = false := decide_eq_false e1
            by_cases e2 : 4 ≤ p
            · have HF : Hid (M = false) := by show _ = _; rw [HMM.out, HAT.out, decide_eq_false (show ¬ p ≤ 3 by omega)]; simp
              have d2 : decide (4 ≤ p) = true := decide_eq_true e2
              go_wp2_with fail
              go_quiet (fail)
              go_wp2
              go_ret
              exact ⟨by rw [HF.out]; rfl, bel_dN2 (HB.out.2.alloc HB.out.2.size _) _⟩
            have d2 : decide (4 ≤ p) = false := decide_eq_false e2
            by_cases e3 : q < 0
            · have HF : Hid (M = false) := by show _ = _; rw [HMM.out, HAT.out, decide_eq_false (show ¬ 0 ≤ q by omega)]; simp
              have d3 : decide (q < 0) = true := decide_eq_true e3
              go_wp2_with fail
              go_quiet (fail)
              go_wp2
              go_ret
              exact ⟨by rw [HF.out]; rfl, bel_dN2 (HB.out.2.alloc HB.out.2.size _) _⟩
            have d3 : decide (q < 0) = false := decide_eq_false e3
            by_cases e4 : 99 < q
            · have HF : Hid (M = false) := by show _ = _; rw [HMM.out, HAT.out, decide_eq_false (show ¬ q ≤ 99 by omega)]; simp
              have d4 : decide (99 < q) = true := decide_eq_true e4
              go_wp2_with fail
              go_quiet (fail)
              go_wp2
              go_ret
              exact ⟨by rw [HF.out]; rfl, bel_dN2 (HB.out.2.alloc HB.out.2.size _) _⟩
            have d4 : decide (99 < q) = false := decide_eq_false e4
            by_cases e5 : k = 0
            · have hg : decide ((0 : Int) < (k : Int)) = false := decide_eq_false (by omega)
              have hg2 : decide (0 < k) = false := decide_eq_false (by omega)
              have HT : Hid (atOk 0 al = atOk (p + 1) (al.drop (k + 1))) := by
                show _ = _
                have := HKP.out.1 e5
                rw [HAT.out, decide_eq_true (show lo ≤ p by omega), decide_eq_true (show p ≤ 3 by omega), decide_eq_true (show 0 ≤ q by omega), decide_eq_true (show q ≤ 99 by omega)]; rfl
              have hp0 : 0 ≤ p + 1 := by omega
              have HE5 : Hid (k = 0) := e5
              clear e5
              go_wp2_with fail
              go_quiet (fail)
              go_wp2
              go_roundw
              case rel => exact ⟨k + 1, p + 1, by omega, by go_num, bel_dN2 (HB.out.1.alloc hsr _) _, HT.out, fun h => absurd h (by omega), fun _ => by rw [Nat.add_sub_cancel]; exact congrArg (· + 1) HPE.out, hp0⟩
              case measure => simp [intOf]; omega
            obtain ⟨j, hj⟩ : ∃ j, k = j + 1 := ⟨k - 1, by omega⟩
            have hkk : (k : Int) - 1 = (j : Int) := by omega
            have hkw : IntKind.i64.wrap ((k : Int) - 1) = (j : Int) := by rw [IntKind.wrap_i64]; omega
            have hjl : j < len := by omega
            have hjl2 : (j : Int) < (len : Int) := by omega
            have c2 := HCC.out j hjl
            have hlo2 := HKP.out.2.1 (by omega)
            have ejk : k - 1 = j := by omega
            rw [ejk] at hlo2
            have hg : decide ((0 : Int) < (k : Int)) = true := decide_eq_true (by omega)
            have hg2 : decide (0 < k) = true := decide_eq_true (by omega)
            generalize (al.getD j (0, 0)).1 = pr at *
            have HJ : Hid (k = j + 1 ∧ lo = pr + 1) := ⟨hj, hlo2⟩
            clear hj ejk hlo2 e5
            by_cases e6 : p ≤ pr
            · have HF : Hid (M = false) := by show _ = _; rw [HMM.out, HAT.out, decide_eq_false (show ¬ lo ≤ p by have := HJ.out.2; omega)]; rfl
              have d6 : decide (p ≤ pr) = true := decide_eq_true e6
              go_wp2_with fail
              go_quiet (fail)
              go_wp2
              go_ret
              exact ⟨by rw [HF.out]; rfl, bel_dN2 (HB.out.2.alloc HB.out.2.size _) _⟩
            have d6 : decide (p ≤ pr) = false := decide_eq_false e6
            have HT : Hid (atOk 0 al = atOk (p + 1) (al.drop (k + 1))) := by
              show _ = _
              have := HJ.out.2
              rw [HAT.out, decide_eq_true (show lo ≤ p by omega), decide_eq_true (show p ≤ 3 by omega), decide_eq_true (show 0 ≤ q by omega), decide_eq_true (show q ≤ 99 by omega)]; rfl
            have hp0 : 0 ≤ p + 1 := by omega
            · skip
              go_wp2_with fail
              go_quiet (fail)
              go_wp2
              go_roundw
              case rel => exact ⟨k + 1, p + 1, by omega, by go_num, bel_dN2 (HB.out.1.alloc hsr _) _, HT.out, fun h => absurd h (by omega), fun _ => by rw [Nat.add_sub_cancel]; exact congrArg (· + 1) HPE.out, hp0⟩
              case measure => simp [intOf]; omega
          · have HF : Hid (M = true) := by show _ = _; rw [HMM.out, hat, List.drop_of_length_le (by have := HLn.out; omega)]; rfl
            clear hat hk0 hkp hlo hbel
            go_wp2
            go_ret
            exact ⟨by rw [HF.out]; rfl, HB.out.2⟩
      | true =>
        subst hdd
        by_cases g5 : body.size = 0
        · have HB1 : Hid (bodyOk true body = true) := by show _ = _; rw [HBO.out, decide_eq_true g5]; rfl
          have HMM : Hid (M = atOk 0 al) := by
            show _ = _
            rw [HM.out, HI.out, HST.out, HTG.out, HB1.out]
            unfold atsOk
            rw [decide_eq_true (show al.length ≤ 3 by have := HLn.out; omega)]
            simp
          have ebb := empty_of g5
          subst ebb
          go_wp2_with fail
          go_loopw [3] (fun i wr => ∃ (k : Nat) (lo : Int), k ≤ len ∧ i = .int .i64 k ∧ Below w3.heap.size w3 wr ∧ atOk 0 al = atOk lo (al.drop k) ∧ (k = 0 → lo = 0) ∧ (0 < k → lo = (al.getD (k - 1) (0, 0)).1 + 1) ∧ 0 ≤ lo) (fun i _ => len - (intOf i).toNat)
          case atStart => exact ⟨0, 0, Nat.zero_le _, rfl, Below.refl _ _, rfl, fun _ => rfl, fun h => absurd h (by omega), by omega⟩
          case round =>
            obtain ⟨k, lo, hk, rfl, hbel, hat, hk0, hkp, hlo⟩ := hrel
            have HB : Hid (Below w3.heap.size w3 wr ∧ Below w.heap.size w wr) := ⟨hbel, HBw2.out.trans (hbel.mono HBw2.out.size)⟩
            have y5 := (hbel.cell (p := ⟨w.heap.size, 5, none⟩) (Nat.lt_of_lt_of_le hsX hs2)).trans x5
            have hsr := hbel.size
            have hs0 : w.heap.size < wr.heap.size := by omega
            by_cases hlt : k < len
            · have hka : k < al.length := by have := HLn.out; omega
              rw [at_drop al k hka] at hat
              obtain ⟨b, off, rfl, hc⟩ := ((HX.out.2.2.kept HB2.out).kept hbel).2.2 (by omega)
              obtain ⟨c0, c1⟩ := hc k hlt
              have hbw : b < wr.heap.size := World.block_lt_of_cell? wr ⟨b, off + k * 2, none⟩ c0
              have HCC : Hid (∀ j, j < len → wr.cell? ⟨b, off + j * 2, none⟩ = some (.int .i64 (al.getD j (0, 0)).1)) := fun j hj => (hc j hj).1
              have HKP : Hid ((k = 0 → lo = 0) ∧ (0 < k → lo = (al.getD (k - 1) (0, 0)).1 + 1) ∧ 0 ≤ lo) := ⟨hk0, hkp, hlo⟩
              have HNX : Hid (0 < k + 1 → (al.getD k (0, 0)).1 + 1 = (al.getD (k + 1 - 1) (0, 0)).1 + 1) := fun _ => rfl
              have HPP : Hid (al.getD k (0, 0) = al.getD k (0, 0)) := rfl
              obtain ⟨p, hp⟩ : ∃ p, p = (al.getD k (0, 0)).1 := ⟨_, rfl⟩
              obtain ⟨q, hq⟩ : ∃ q, q = (al.getD k (0, 0)).2 := ⟨_, rfl⟩
              have HPE : Hid (p = (al.getD k (0, 0)).1) := hp
              have HAT : Hid (atOk 0 al = ((decide (lo ≤ p) && decide (p ≤ 3)) && ((decide (0 ≤ q) && decide (q ≤ 99)) && atOk (p + 1) (al.drop (k + 1))))) := by rw [hp, hq]; exact hat
              rw [← hp] at c0
              rw [← hq] at c1
              clear hat hc hk0 hkp hlo hbel hp hq HNX HPP
              by_cases e1 : p < 0
              · have HF : Hid (M = false) := by show _ = _; rw [HMM.out, HAT.out, decide_eq_false (show ¬ lo ≤ p by have := HKP.out.2.2; omega)]; rfl
                have d1 : decide (p < 0) = true := decide_eq_true e1
                go_wp2_with fail
                go_quiet (fail)
                go_wp2
                go_ret
                exact ⟨by rw [HF.out]; rfl, bel_dN2 (HB.out.2.alloc HB.out.2.size _) _⟩
              have d1 : decide (p < 0) = false := decide_eq_false e1
              by_cases e2 : 4 ≤ p
              · have HF : Hid (M = false) := by show _ = _; rw [HMM.out, HAT.out, decide_eq_false (show ¬ p ≤ 3 by omega)]; simp
                have d2 : decide (4 ≤ p) = true := decide_eq_true e2
                go_wp2_with fail
                go_quiet (fail)
                go_wp2
                go_ret
                exact ⟨by rw [HF.out]; rfl, bel_dN2 (HB.out.2.alloc HB.out.2.size _) _⟩
              have d2 : decide (4 ≤ p) = false := decide_eq_false e2
              by_cases e3 : q < 0
              · have HF : Hid (M = false) := by show _ = _; rw [HMM.out, HAT.out, decide_eq_false (show ¬ 0 ≤ q by omega)]; simp
                have d3 : decide (q < 0) = true := decide_eq_true e3
                go_wp2_with fail
                go_quiet (fail)
                go_wp2
                go_ret
                exact ⟨by rw [HF.out]; rfl, bel_dN2 (HB.out.2.alloc HB.out.2.size _) _⟩
              have d3 : decide (q < 0) = false := decide_eq_false e3
              by_cases e4 : 99 < q
              · have HF : Hid (M = false) := by show _ = _; rw [HMM.out, HAT.out, decide_eq_false (show ¬ q ≤ 99 by omega)]; simp
                have d4 : decide (99 < q) = true := decide_eq_true e4
                go_wp2_with fail
                go_quiet (fail)
                go_wp2
                go_ret
                exact ⟨by rw [HF.out]; rfl, bel_dN2 (HB.out.2.alloc HB.out.2.size _) _⟩
              have d4 : decide (99 < q) = false := decide_eq_false e4
              by_cases e5 : k = 0
              · have hg : decide ((0 : Int) < (k : Int)) = false := decide_eq_false (by omega)
                have hg2 : decide (0 < k) = false := decide_eq_false (by omega)
                have HT : Hid (atOk 0 al = atOk (p + 1) (al.drop (k + 1))) := by
                  show _ = _
                  have := HKP.out.1 e5
                  rw [HAT.out, decide_eq_true (show lo ≤ p by omega), decide_eq_true (show p ≤ 3 by omega), decide_eq_true (show 0 ≤ q by omega), decide_eq_true (show q ≤ 99 by omega)]; rfl
                have hp0 : 0 ≤ p + 1 := by omega
                have HE5 : Hid (k = 0) := e5
                clear e5
                go_wp2_with fail
                go_quiet (fail)
                go_wp2
                go_roundw
                case rel => exact ⟨k + 1, p + 1, by omega, by go_num, bel_dN2 (HB.out.1.alloc hsr _) _, HT.out, fun h => absurd h (by omega), fun _ => by rw [Nat.add_sub_cancel]; exact congrArg (· + 1) HPE.out, hp0⟩
                case measure => simp [intOf]; omega
              obtain ⟨j, hj⟩ : ∃ j, k = j + 1 := ⟨k - 1, by omega⟩
              have hkk : (k : Int) - 1 = (j : Int) := by omega
              have hkw : IntKind.i64.wrap ((k : Int) - 1) = (j : Int) := by rw [IntKind.wrap_i64]; omega
              have hjl : j < len := by omega
              have hjl2 : (j : Int) < (len : Int) := by omega
              have c2 := HCC.out j hjl
              have hlo2 := HKP.out.2.1 (by omega)
              have ejk : k - 1 = j := by omega
              rw [ejk] at hlo2
              have hg : decide ((0 : Int) < (k : Int)) = true := decide_eq_true (by omega)
              have hg2 : decide (0 < k) = true := decide_eq_true (by omega)
              generalize (al.getD j (0, 0)).1 = pr at *
              have HJ : Hid (k = j + 1 ∧ lo = pr + 1) := ⟨hj, hlo2⟩
              clear hj ejk hlo2 e5
              by_cases e6 : p ≤ pr
              · have HF : Hid (M = false) := by show _ = _; rw [HMM.out, HAT.out, decide_eq_false (show ¬ lo ≤ p by have := HJ.out.2; omega)]; rfl
                have d6 : decide (p ≤ pr) = true := decide_eq_true e6
                go_wp2_with fail
                go_quiet (fail)
                go_wp2
                go_ret
                exact ⟨by rw [HF.out]; rfl, bel_dN2 (HB.out.2.alloc HB.out.2.size _) _⟩
              have d6 : decide (p ≤ pr) = false := decide_eq_false e6
              have HT : Hid (atOk 0 al = atOk (p + 1) (al.drop (k + 1))) := by
                show _ = _
                have := HJ.out.2
                rw [HAT.out, decide_eq_true (show lo ≤ p by omega), decide_eq_true (show p ≤ 3 by omega), decide_eq_true (show 0 ≤ q by omega), decide_eq_true (show q ≤ 99 by omega)]; rfl
              have hp0 : 0 ≤ p + 1 := by omega
              · skip
                go_wp2_with fail
                go_quiet (fail)
                go_wp2
                go_roundw
                case rel => exact ⟨k + 1, p + 1, by omega, by go_num, bel_dN2 (HB.out.1.alloc hsr _) _, HT.out, fun h => absurd h (by omega), fun _ => by rw [Nat.add_sub_cancel]; exact congrArg (· + 1) HPE.out, hp0⟩
                case measure => simp [intOf]; omega
            · have HF : Hid (M = true) := by show _ = _; rw [HMM.out, hat, List.drop_of_length_le (by have := HLn.out; omega)]; rfl
              clear hat hk0 hkp hlo hbel
              go_wp2
              go_ret
              exact ⟨by rw [HF.out]; rfl, HB.out.2⟩
        · have HF : Hid (M = false) := by show _ = _; rw [HM.out, HBO.out, decide_eq_false g5]; simp
          have he := not_empty g5
          clear g5
          go_wp2
          go_ret
          exact ⟨by rw [HF.out]; rfl, HBw2.out⟩

end Go.Proofs.YtopkeembbopbmaaDoor
