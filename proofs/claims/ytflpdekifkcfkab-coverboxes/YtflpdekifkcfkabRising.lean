/- cardamomref4.rising: texts, each once, rising. -/
import Derived.Test.YtflpdekifkcfkabLeast
import Derived.Test.YtflpdekifkcfkabRowb
import Derived.Deep.LoopGhost
import Derived.BigQuiet
import Derived.Deep.QuietTactic
namespace Go.Proofs.Ytflpdekifkcfkab
open Go.RowKit
set_option linter.unusedVariables false

theorem bts_list (x : List UInt8) : (Ev.bts x).toList = x := by rw [ByteArray.toList_eq]; rfl

/-- An owned row of texts. -/
theorem nt_of_own {B : Nat} {w : World} {ao : Option Addr} {cap : Nat} {l : List (List UInt8)} (h : w.ownsRow B 9 1 (.slice ao l.length cap) l.length (l.map encStr)) : Nt B w ao cap l := by
  rcases h.2 with ⟨hv, hn⟩ | ⟨g, cap', cur, hv, hg, hh, hc1, hc2, hc3, hc4⟩
  · simp only [Value.slice.injEq] at hv
    exact ⟨fun _ => ⟨hn, hv.2.2⟩, fun h0 => by omega⟩
  · cases hv
    refine ⟨fun e => (by cases e), fun _ => ⟨g, rfl, hg, cur, hh, fun j hj => ?_⟩⟩
    have e : (cur.toList.take (l.length * 1))[j]? = (l.map encStr)[j]? := by rw [hc4]
    rw [List.getElem?_take_of_lt (by omega), List.getElem?_map, List.getElem?_eq_getElem hj] at e
    simpa using e

theorem own_cell {B : Nat} {w : World} {ao : Option Addr} {cap : Nat} {l : List (List UInt8)} {n : Nat} (h : w.ownsRow B 9 1 (.slice ao n cap) n (l.map encStr)) (j : Nat) (hj : j < n) (hl : n = l.length) :
    ∃ g, ao = some ⟨g, 0, none⟩ ∧ g < w.heap.size ∧ w.cell? ⟨g, j, none⟩ = some (.string (Ev.bts (l.getD j []))) := by
  subst hl
  have h' := nt_of_own h
  obtain ⟨b, e, _, t⟩ := h'.row (by omega)
  refine ⟨b, e, t.lt, ?_⟩
  rw [t.cell j hj, List.getD_eq_getElem?_getD, List.getElem?_eq_getElem hj]
  rfl

set_option maxRecDepth 100000 in
set_option maxHeartbeats 8000000 in
theorem rising_any (ao : Option Addr) (cap : Nat) (l r : List (List UInt8)) (HR : Hid (r = Ev.rise l)) (w : World) (hl : l.length ≤ 5000) (ht : Txts Any w ao l) :
    Calls Try.prog 54 #[.slice ao l.length cap] w fun e w' => ∃ o c, e = .returned (.slice o r.length c) ∧ Nt w.heap.size w' o c r ∧ Below w.heap.size w w' := by
  have hrl : r.length ≤ l.length := by rw [HR.out]; exact Ev.length_rise l
  have hnext : ∀ m, m ≤ r.length → Ev.best r m l = r[m]? := fun m hm => by
    have h := HR.out
    subst h
    exact Ev.best_next l m hm
  have HN : Hid (∀ m, m ≤ r.length → Ev.best r m l = r[m]?) := hnext
  clear hnext
  obtain ⟨i0, hi, hz0, hz1, hz2⟩ := info_parts Try.info9
  have HI : Hid (Try.prog.info? 9 = some i0 ∧ i0.zero = some (.string ⟨#[]⟩) ∧ i0.size = 1 ∧ i0.bytes = 16) := ⟨hi, hz0, hz1, hz2⟩
  clear hi hz0 hz1 hz2
  go_enter Try.func54, Try.ntmps54
  go_wp2_with fail
  go_loopg [3] (r.length + 1) (fun k v wr => ∃ m : Nat, m ≤ r.length ∧ k = r.length + 1 - m ∧ wr.ownsRow w.heap.size 9 1 v m ((r.take m).map encStr) ∧ Below w.heap.size w wr)
  case atStart => exact ⟨0, by omega, rfl, World.ownsRow_nil _ _ _ _, Below.refl _ _⟩
  case round =>
    obtain ⟨m, hm, hgk, hown, hbr⟩ := hrel
    obtain ⟨vo, vc, rfl⟩ := own_sl hown
    have htr := ht.below hbr
    have HG : Hid (gk = r.length + 1 - m) := hgk
    clear hgk
    have hml : (r.take m).length = m := by simp; omega
    have HO : Hid (wr.ownsRow w.heap.size 9 1 (.slice vo m vc) m ((r.take m).map encStr) ∧ Below w.heap.size w wr ∧ (r.take m).length = m) := ⟨hown, hbr, hml⟩
    clear hown hbr hml
    generalize wr = U at *
    go_wp2_with fail
    go_loopw [4, 5, 6] (fun least any i wi => ∃ j : Nat, j ≤ l.length ∧ i = .int .i64 j ∧ least = .string (Ev.bts ((Ev.best r m (l.take j)).getD [])) ∧ any = .bool (Ev.best r m (l.take j)).isSome ∧ Below U.heap.size U wi) (fun _ _ i _ => l.length - (intOf i).toNat)
    case atStart => exact ⟨0, by omega, rfl, rfl, rfl, Below.refl _ _⟩
    case round =>
      obtain ⟨j, hj, rfl, rfl, rfl, hbi⟩ := hrel
      by_cases hjt : j < l.length
      · have hji : (j : Int) < (l.length : Int) := by omega
        obtain ⟨lb, rfl, _, hlb, hlc⟩ := htr (by omega)
        have q := (hbi.cell (p := ⟨lb, j, none⟩) hlb).trans (hlc j hjt)
        have hst := Ev.best_take r m l j hjt
        have hs := bts_list l[j]
        obtain ⟨lj, hlj⟩ : ∃ lj, lj = l[j] := ⟨_, rfl⟩
        rw [← hlj] at q hst hs
        obtain ⟨sx, hsx⟩ : ∃ sx, sx = Ev.bts lj := ⟨_, rfl⟩
        rw [← hsx] at q hs
        have HSX : Hid (Ev.bts lj = sx) := hsx.symm
        have HS : Hid (sx.toList = lj) := hs
        clear hlj hsx hs
        obtain ⟨b, hb⟩ : ∃ b, b = Ev.best r m (l.take j) := ⟨_, rfl⟩
        rw [← hb] at hst ⊢
        have HB : Hid (Below U.heap.size U wr) := hbi
        have hlr : lb < wr.heap.size := Nat.lt_of_lt_of_le hlb hbi.size
        clear hb hlc hbi
        -- what is told of it
        have HST : Hid (Ev.best r m (l.take (j + 1)) = Ev.stepB r m b lj) := hst
        clear hst
        have hfin : ∀ b' : Option (List UInt8), Ev.stepB r m b lj = b' → Ev.best r m (l.take (j + 1)) = b' := fun b' h => HST.out.trans h
        have HF : Hid (∀ b' : Option (List UInt8), Ev.stepB r m b lj = b' → Ev.best r m (l.take (j + 1)) = b') := hfin
        clear hfin HST
        by_cases hm0 : m = 0
        · have hmz : ((m : Int) == 0) = true := by simp [hm0]
          have hbh : Ev.behind r m lj = true := by simp [Ev.behind, hm0]
          have HM0 : Hid (m = 0) := hm0
          clear hm0
          cases b with
          | none =>
            simp only [Option.getD_none, Option.isSome_none]
            have HE : Hid (Ev.best r m (l.take (j + 1)) = some lj) := HF.out _ (Ev.step_first hbh)
            clear HF
            go_wp2_with fail
            go_quiet (fail)
            go_wp2
            go_roundw
            case rel => exact ⟨j + 1, by omega, by go_num, by rw [HE.out]; simp [HSX.out], by rw [HE.out]; rfl, ⟨HB.out.os, HB.out.tape, HB.out.output, HB.out.size, HB.out.block⟩⟩
            case measure => simp [intOf]; omega
          | some y =>
            simp only [Option.getD_some, Option.isSome_some]
            have hy := bts_list y
            obtain ⟨sy, hys⟩ : ∃ sy, sy = Ev.bts y := ⟨_, rfl⟩
            rw [← hys] at hy ⊢
            have HYS : Hid (Ev.bts y = sy) := hys.symm
            have HY : Hid (sy.toList = y) := hy
            clear hys hy
            cases hlt : Op.bytesLess sx.toList sy.toList with
            | true =>
              have hlt' : lj < y := by rw [bytesLess_eq, HS.out, HY.out] at hlt; exact of_decide_eq_true hlt
              have HE : Hid (Ev.best r m (l.take (j + 1)) = some lj) := HF.out _ (Ev.step_less hbh hlt')
              clear HF
              go_wp2_with fail
              go_quiet (fail)
              go_wp2
              go_roundw
              case rel => exact ⟨j + 1, by omega, by go_num, by rw [HE.out]; simp [HSX.out], by rw [HE.out]; rfl, ⟨HB.out.os, HB.out.tape, HB.out.output, HB.out.size, HB.out.block⟩⟩
              case measure => simp [intOf]; omega
            | false =>
              have hlt' : ¬ lj < y := by rw [bytesLess_eq, HS.out, HY.out] at hlt; exact of_decide_eq_false hlt
              have HE : Hid (Ev.best r m (l.take (j + 1)) = some y) := HF.out _ (Ev.step_more hbh hlt')
              clear HF
              go_wp2_with fail
              go_quiet (fail)
              go_wp2
              go_roundw
              case rel => exact ⟨j + 1, by omega, by go_num, by rw [HE.out]; simp [HYS.out], by rw [HE.out]; rfl, ⟨HB.out.os, HB.out.tape, HB.out.output, HB.out.size, HB.out.block⟩⟩
              case measure => simp [intOf]; omega
        · have hmz : ((m : Int) == 0) = false := beq_eq_false_iff_ne.2 (by omega)
          obtain ⟨vb, rfl, hvb, hvc⟩ := own_cell HO.out.1 (m - 1) (by omega) HO.out.2.2.symm
          have qv : wr.cell? ⟨vb, m - 1, none⟩ = some (.string (Ev.bts ((r.take m).getD (m - 1) []))) := (HB.out.cell (p := ⟨vb, m - 1, none⟩) hvb).trans hvc
          have hrg : (r.take m).getD (m - 1) [] = r.getD (m - 1) [] := by
            rw [List.getD_eq_getElem?_getD, List.getD_eq_getElem?_getD, List.getElem?_take_of_lt (by omega)]
          rw [hrg] at qv
          have hv := bts_list (r.getD (m - 1) [])
          obtain ⟨sv, hvs⟩ : ∃ sv, sv = Ev.bts (r.getD (m - 1) []) := ⟨_, rfl⟩
          rw [← hvs] at qv hv
          have HV : Hid (sv.toList = r.getD (m - 1) []) := hv
          clear hvs hv
          have hw1 : IntKind.i64.wrap ((m : Int) - 1) = ((m - 1 : Nat) : Int) := by simp only [IntKind.wrap, IntKind.signed, IntKind.bits]; simp; omega
          have hm1 : ((m - 1 : Nat) : Int) < (m : Int) := by omega
          clear hvc hrg
          cases hL : Op.bytesLess sx.toList sv.toList with
          | true =>
            have hbh : Ev.behind r m lj = false := by
              rw [bytesLess_eq, HS.out, HV.out] at hL
              unfold Ev.behind
              rw [decide_eq_false hm0, decide_eq_false (fun h => List.lt_irrefl _ (List.lt_trans h (of_decide_eq_true hL)))]; rfl
            have HE : Hid (Ev.best r m (l.take (j + 1)) = b) := HF.out _ (Ev.step_not hbh)
            clear HF
            go_wp2_with fail
            go_quiet (fail)
            go_wp2
            go_roundw
            case rel => exact ⟨j + 1, by omega, by go_num, by rw [HE.out], by rw [HE.out], ⟨HB.out.os, HB.out.tape, HB.out.output, HB.out.size, HB.out.block⟩⟩
            case measure => simp [intOf]; omega
          | false =>
            cases hE : (sx.toList == sv.toList) with
            | true =>
              have hbh : Ev.behind r m lj = false := by
                rw [HS.out, HV.out] at hE
                unfold Ev.behind
                rw [decide_eq_false hm0, beq_iff_eq.1 hE, decide_eq_false (List.lt_irrefl _)]; rfl
              have HE : Hid (Ev.best r m (l.take (j + 1)) = b) := HF.out _ (Ev.step_not hbh)
              clear HF
              go_wp2_with fail
              go_quiet (fail)
              go_wp2
              go_roundw
              case rel => exact ⟨j + 1, by omega, by go_num, by rw [HE.out], by rw [HE.out], ⟨HB.out.os, HB.out.tape, HB.out.output, HB.out.size, HB.out.block⟩⟩
              case measure => simp [intOf]; omega
            | false =>
              have hbh : Ev.behind r m lj = true := by
                rw [bytesLess_eq, HS.out, HV.out] at hL
                rw [HS.out, HV.out] at hE
                unfold Ev.behind
                have h1 := List.not_lt.1 (of_decide_eq_false hL)
                rw [decide_eq_true (Ev.lt_of_le_ne h1 (fun e => (beq_eq_false_iff_ne.1 hE) e.symm))]; simp
              cases b with
              | none =>
                simp only [Option.getD_none, Option.isSome_none]
                have HE : Hid (Ev.best r m (l.take (j + 1)) = some lj) := HF.out _ (Ev.step_first hbh)
                clear HF
                go_wp2_with fail
                go_quiet (fail)
                go_wp2
                go_roundw
                case rel => exact ⟨j + 1, by omega, by go_num, by rw [HE.out]; simp [HSX.out], by rw [HE.out]; rfl, ⟨HB.out.os, HB.out.tape, HB.out.output, HB.out.size, HB.out.block⟩⟩
                case measure => simp [intOf]; omega
              | some y =>
                simp only [Option.getD_some, Option.isSome_some]
                have hy := bts_list y
                obtain ⟨sy, hys⟩ : ∃ sy, sy = Ev.bts y := ⟨_, rfl⟩
                rw [← hys] at hy ⊢
                have HYS : Hid (Ev.bts y = sy) := hys.symm
                have HY : Hid (sy.toList = y) := hy
                clear hys hy
                cases hlt : Op.bytesLess sx.toList sy.toList with
                | true =>
                  have hlt' : lj < y := by rw [bytesLess_eq, HS.out, HY.out] at hlt; exact of_decide_eq_true hlt
                  have HE : Hid (Ev.best r m (l.take (j + 1)) = some lj) := HF.out _ (Ev.step_less hbh hlt')
                  clear HF
                  go_wp2_with fail
                  go_quiet (fail)
                  go_wp2
                  go_roundw
                  case rel => exact ⟨j + 1, by omega, by go_num, by rw [HE.out]; simp [HSX.out], by rw [HE.out]; rfl, ⟨HB.out.os, HB.out.tape, HB.out.output, HB.out.size, HB.out.block⟩⟩
                  case measure => simp [intOf]; omega
                | false =>
                  have hlt' : ¬ lj < y := by rw [bytesLess_eq, HS.out, HY.out] at hlt; exact of_decide_eq_false hlt
                  have HE : Hid (Ev.best r m (l.take (j + 1)) = some y) := HF.out _ (Ev.step_more hbh hlt')
                  clear HF
                  go_wp2_with fail
                  go_quiet (fail)
                  go_wp2
                  go_roundw
                  case rel => exact ⟨j + 1, by omega, by go_num, by rw [HE.out]; simp [HYS.out], by rw [HE.out]; rfl, ⟨HB.out.os, HB.out.tape, HB.out.output, HB.out.size, HB.out.block⟩⟩
                  case measure => simp [intOf]; omega
      · obtain rfl : j = l.length := by omega
        rw [List.take_length, HN.out m hm]
        have HB : Hid (Below U.heap.size U wr) := hbi
        clear hbi
        by_cases hmr : m < r.length
        · rw [List.getElem?_eq_getElem hmr]
          simp only [Option.getD_some, Option.isSome_some]
          obtain ⟨hi, hz0, hz1, hz2⟩ := HI.out
          have ho := own_below HO.out.1 HB.out
          have hbw : Below w.heap.size w wr := HO.out.2.1.trans (HB.out.mono HO.out.2.1.size)
          have hsz := hbw.size
          clear HO HB
          go_wp2_with (at_builtin; refine wpList_append_own _ rfl _ _ 38 rfl w.heap.size 9 i0 (.string ⟨#[]⟩) 1 16 Try.underlying38 hi hz0 hz1 hz2 rfl (by decide) _ _ _ rfl (ho.alloc _) ⟨wr.heap.size, 0, none⟩ 1 1 [.string (Ev.bts r[m])] rfl rfl ?c1 ?c2 ?c3 ?c4 ?c5 ?_)
          case c1 =>
            intro i u hiu
            match i, hiu with
            | 0, hiu => simp at hiu; subst hiu; simp [Addr.add]
          case c2 => intro u hu; simp at hu; subst hu; rfl
          case c3 => unfold maxLen; omega
          case c4 => omega
          case c5 => simp; omega
          intro v' w2 hown' hgrow _
          have R1 : w2.ownsRow w.heap.size 9 1 v' (m + 1) ((r.take (m + 1)).map encStr) := by
            rw [List.take_succ_eq_append_getElem hmr, List.map_append, List.map_take]; exact hown'
          have R2 : Below w.heap.size w w2 := (hbw.alloc hsz _).grown hgrow (by simp; omega) (fun k hk => (ho.lt k hk).1)
          clear hown' hgrow ho hbw hi hz0 hz1 hz2
          go_wp2
          go_roundg (r.length + 1 - (m + 1))
          case measure => have := HG.out; omega
          case rel => exact ⟨m + 1, by omega, rfl, R1, R2⟩
        · obtain rfl : m = r.length := by omega
          rw [List.getElem?_eq_none (by omega)]
          simp only [Option.getD_none, Option.isSome_none]
          have ho := own_below HO.out.1 HB.out
          rw [List.take_length] at ho
          have hbw : Below w.heap.size w wr := HO.out.2.1.trans (HB.out.mono HO.out.2.1.size)
          have F : Hid (Nt w.heap.size wr vo vc r ∧ Below w.heap.size w wr) := ⟨nt_of_own ho, hbw⟩
          clear HO HB ho hbw
          go_wp2
          go_ret
          exact ⟨_, _, rfl, F.out.1, F.out.2⟩

/-- cardamomref4.rising. -/
theorem rising39 (ao : Option Addr) (cap : Nat) (l : List (List UInt8)) (w : World) (hl : l.length ≤ 5000) (ht : Txts Any w ao l) :
    Calls Try.prog 54 #[.slice ao l.length cap] w fun e w' => ∃ o c, e = .returned (.slice o (Ev.rise l).length c) ∧ Nt w.heap.size w' o c (Ev.rise l) ∧ Below w.heap.size w w' :=
  rising_any ao cap l _ (show Hid (Ev.rise l = Ev.rise l) from rfl) w hl ht

end Go.Proofs.Ytflpdekifkcfkab
