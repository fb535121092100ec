/- cardamomref4.Within: the document's one box within another. -/
import Derived.Test.YtflpdekifkcfkabCvb
import Derived.BigRegion
import Derived.Deep.DeepCutAuto
namespace Go.Proofs.Ytflpdekifkcfkab
open Go.RowKit
set_option linter.unusedVariables false

theorem anyOf_step (s : ByteArray) (l : List (List UInt8)) (k : Nat) (h : k < l.length) : Ev.anyOf s (l.take (k + 1)) = (Ev.anyOf s (l.take k) || Ev.begins s (Ev.bts l[k])) := by
  unfold Ev.anyOf
  rw [List.take_succ_eq_append_getElem h, List.any_append]
  simp

theorem or_left (a b : Bool) (h : a = true) : (a || b) = true := by rw [h]; rfl

set_option maxRecDepth 100000 in
set_option maxHeartbeats 16000000 in
theorem rwithin_any (x y : Ev.Bx) (ao bo : Option Addr) (ca cb n m : Nat) (w : World) (hx : x.ok n) (hy : y.ok m) (hn : n ≤ 1000) (hm : m ≤ 1000) (ha : Txts Any w ao x.nots) (hb : Txts Any w bo y.nots) :
    Calls Try.prog 15 #[.agg #[.int .i64 (x.s 0).how, .int .i64 (x.s 0).lo, .int .i64 (x.s 0).hi, .int .i64 (x.s 1).how, .int .i64 (x.s 1).lo, .int .i64 (x.s 1).hi, .int .i64 (x.s 2).how, .int .i64 (x.s 2).lo, .int .i64 (x.s 2).hi, .int .i64 (x.s 3).how, .int .i64 (x.s 3).lo, .int .i64 (x.s 3).hi, .string x.tag, .slice ao x.nots.length ca], .agg #[.int .i64 (y.s 0).how, .int .i64 (y.s 0).lo, .int .i64 (y.s 0).hi, .int .i64 (y.s 1).how, .int .i64 (y.s 1).lo, .int .i64 (y.s 1).hi, .int .i64 (y.s 2).how, .int .i64 (y.s 2).lo, .int .i64 (y.s 2).hi, .int .i64 (y.s 3).how, .int .i64 (y.s 3).lo, .int .i64 (y.s 3).hi, .string y.tag, .slice bo y.nots.length cb]] w fun e w' => e = .returned (.bool (Ev.within x y)) ∧ Below w.heap.size w w' := by
  have HX : Hid (x.ok n ∧ y.ok m ∧ n ≤ 1000 ∧ m ≤ 1000 ∧ Txts Any w ao x.nots ∧ Txts Any w bo y.nots) := ⟨hx, hy, hn, hm, ha, hb⟩
  have tx := hx.2.1
  have ty := hy.2.1
  have lnx : x.nots.length ≤ 1000 := Nat.le_trans hx.2.2.1 hn
  have lny : y.nots.length ≤ 1000 := Nat.le_trans hy.2.2.1 hm
  obtain ⟨r, hr⟩ : ∃ r, r = Ev.within x y := ⟨_, rfl⟩
  have HR : Hid (r = Ev.within x y) := hr
  rw [← hr]
  clear hx hy hn hm ha hb hr
  go_enter Try.func15, Try.ntmps15
  go_wp2_with fail
  obtain ⟨W, hW⟩ : ∃ W, W = (w.alloc (.cells #[.int .i64 (x.s 0).how, .int .i64 (x.s 0).lo, .int .i64 (x.s 0).hi, .int .i64 (x.s 1).how, .int .i64 (x.s 1).lo, .int .i64 (x.s 1).hi, .int .i64 (x.s 2).how, .int .i64 (x.s 2).lo, .int .i64 (x.s 2).hi, .int .i64 (x.s 3).how, .int .i64 (x.s 3).lo, .int .i64 (x.s 3).hi, .string x.tag, .slice ao x.nots.length ca] 40)).alloc (.cells #[.int .i64 (y.s 0).how, .int .i64 (y.s 0).lo, .int .i64 (y.s 0).hi, .int .i64 (y.s 1).how, .int .i64 (y.s 1).lo, .int .i64 (y.s 1).hi, .int .i64 (y.s 2).how, .int .i64 (y.s 2).lo, .int .i64 (y.s 2).hi, .int .i64 (y.s 3).how, .int .i64 (y.s 3).lo, .int .i64 (y.s 3).hi, .string y.tag, .slice bo y.nots.length cb] 40) := ⟨_, rfl⟩
  rw [← hW]
  have e1 : W.heap[w.heap.size + 1]? = some (.cells #[.int .i64 (y.s 0).how, .int .i64 (y.s 0).lo, .int .i64 (y.s 0).hi, .int .i64 (y.s 1).how, .int .i64 (y.s 1).lo, .int .i64 (y.s 1).hi, .int .i64 (y.s 2).how, .int .i64 (y.s 2).lo, .int .i64 (y.s 2).hi, .int .i64 (y.s 3).how, .int .i64 (y.s 3).lo, .int .i64 (y.s 3).hi, .string y.tag, .slice bo y.nots.length cb] 40 (0, 0)) := by rw [hW]; exact heap_at _ _ (by simp)
  have e0 : W.heap[w.heap.size]? = some (.cells #[.int .i64 (x.s 0).how, .int .i64 (x.s 0).lo, .int .i64 (x.s 0).hi, .int .i64 (x.s 1).how, .int .i64 (x.s 1).lo, .int .i64 (x.s 1).hi, .int .i64 (x.s 2).how, .int .i64 (x.s 2).lo, .int .i64 (x.s 2).hi, .int .i64 (x.s 3).how, .int .i64 (x.s 3).lo, .int .i64 (x.s 3).hi, .string x.tag, .slice ao x.nots.length ca] 40 (0, 0)) := by rw [hW, heap_old _ _ (by simp)]; exact heap_at _ _ (by simp)
  have hs : w.heap.size + 1 < W.heap.size := by rw [hW]; simp
  have hbW : Below w.heap.size w W := by rw [hW]; exact ((Below.refl _ _).alloc (Nat.le_refl _) _).alloc (by simp) _
  have HB : Hid (Below w.heap.size w W) := hbW
  clear hW hbW
  go_loopg [5] 4 (fun g i wr => ∃ k : Nat, k ≤ 4 ∧ g = 4 - k ∧ i = .int .i64 k ∧ Hid (∀ j, j < k → Ev.withinS (x.s j) (y.s j) = true) ∧ Hid (Below W.heap.size W wr))
  case atStart => exact ⟨0, by omega, rfl, rfl, fun j h => by omega, Below.refl _ _⟩
  case round =>
    obtain ⟨k, hk, hgk, rfl, H, hbel⟩ := hrel
    have HGK : Hid (gk = 4 - k) := hgk
    clear hgk
    have hsr := hbel.out.size
    have m0 : w.heap.size < wr.heap.size := by omega
    have m1 : w.heap.size + 1 < wr.heap.size := by omega
    have E0 := (hbel.out.block (w.heap.size) (by omega)).trans e0
    have E1 := (hbel.out.block (w.heap.size + 1) (by omega)).trans e1
    clear e0 e1
    by_cases hk4 : k < 4
    · have hki : (k : Int) < 4 := by omega
      obtain ⟨C0, _⟩ := cells_of E0
      obtain ⟨C1, _⟩ := cells_of E1
      obtain ⟨ph, pl, pu, hp⟩ : ∃ ph pl pu, x.s k = ⟨ph, pl, pu⟩ := ⟨_, _, _, rfl⟩
      obtain ⟨qh, ql, qu, hq⟩ : ∃ qh ql qu, y.s k = ⟨qh, ql, qu⟩ := ⟨_, _, _, rfl⟩
      obtain ⟨a0, a1, a2⟩ := side_at x.s (.string x.tag) (.slice ao x.nots.length ca) k hk4
      obtain ⟨b0, b1, b2⟩ := side_at y.s (.string y.tag) (.slice bo y.nots.length cb) k hk4
      have A0 := (C0 _).trans a0
      have A1 := (C0 _).trans a1
      have A2 := (C0 _).trans a2
      have B0 := (C1 _).trans b0
      have B1 := (C1 _).trans b1
      have B2 := (C1 _).trans b2
      rw [hp] at A0 A1 A2
      rw [hq] at B0 B1 B2
      simp only at A0 A1 A2 B0 B1 B2
      have okq := HX.out.2.1.1 k hk4
      rw [hq] at okq
      have OKQ : Hid (Ev.Sd.ok ⟨qh, ql, qu⟩) := okq
      have HRK : Hid (Ev.withinS (x.s k) (y.s k) = Ev.withinS ⟨ph, pl, pu⟩ ⟨qh, ql, qu⟩) := by rw [hp, hq]; exact rfl
      clear a0 a1 a2 b0 b1 b2 C0 C1 E0 E1 hp hq okq
      go_wp2_with fail
      go_cut [6, 7] (fun s6 s7 wx => ∃ n1 n2, s6 = .pointer (some ⟨n1, 0, none⟩) ∧ s7 = .pointer (some ⟨n2, 0, none⟩) ∧ wx.cell? ⟨n1, 0, none⟩ = some (.int .i64 ph) ∧ wx.cell? ⟨n1, 1, none⟩ = some (.int .i64 pl) ∧ wx.cell? ⟨n1, 2, none⟩ = some (.int .i64 pu) ∧ wx.cell? ⟨n2, 0, none⟩ = some (.int .i64 qh) ∧ wx.cell? ⟨n2, 1, none⟩ = some (.int .i64 ql) ∧ wx.cell? ⟨n2, 2, none⟩ = some (.int .i64 qu) ∧ n1 < wx.heap.size ∧ n2 < wx.heap.size ∧ Below wr.heap.size wr wx)
      case first =>
        go_region
        · go_wp2_with fail
          go_meet
          exact ⟨wr.heap.size, wr.heap.size + 1, rfl, rfl, by simp, by simp, by simp, by simp, by simp, by simp, by simp <;> omega, by simp <;> omega, (((Below.refl _ _).alloc (Nat.le_refl _) _).alloc (by simp) _).drew⟩
        · go_wp2_with fail
          go_meet
          exact ⟨wr.heap.size + 1, wr.heap.size, rfl, rfl, by simp, by simp, by simp, by simp, by simp, by simp, by simp <;> omega, by simp <;> omega, (((Below.refl _ _).alloc (Nat.le_refl _) _).alloc (by simp) _).drew⟩
      case rest =>
        obtain ⟨n1, n2, rfl, rfl, x0, x1, x2, z0, z1, z2, nA, nB, hbV⟩ := hcut
        have HV : Hid (Below W.heap.size W wc) := hbel.out.trans (hbV.mono hsr)
        clear hbV A0 A1 A2 B0 B1 B2
        have again : Hid (Ev.withinS (x.s k) (y.s k) = true → ∀ j, j < k + 1 → Ev.withinS (x.s j) (y.s j) = true) := by
          intro e j hj
          by_cases ej : j = k
          · rw [ej]; exact e
          · exact H.out j (by omega)
        rcases OKQ.out with ⟨g1, g2, g3⟩ | ⟨g1, g2, g3⟩ | ⟨g1, g2, g3, g4⟩ <;> simp only at g1 <;> subst g1
        · have HT : Hid (Ev.withinS (x.s k) (y.s k) = true) := HRK.out.trans (by simp [Ev.withinS])
          clear g2 g3 OKQ HRK
          go_wp2
          go_roundg (4 - (k + 1))
          case measure => have := HGK.out; omega
          case rel => exact ⟨k + 1, by omega, rfl, by go_num, again.out HT.out, HV.out⟩
        · clear g2 g3 OKQ
          by_cases hph : ph = 2
          · subst hph
            have HT : Hid (Ev.withinS (x.s k) (y.s k) = true) := HRK.out.trans (by simp [Ev.withinS])
            clear HRK
            go_wp2
            go_roundg (4 - (k + 1))
            case measure => have := HGK.out; omega
            case rel => exact ⟨k + 1, by omega, rfl, by go_num, again.out HT.out, HV.out⟩
          · have HF : Hid (Ev.withinS (x.s k) (y.s k) = false) := HRK.out.trans (by simp [Ev.withinS, hph])
            have g : (ph != 2) = true := by simpa using hph
            clear HRK hph
            go_wp2
            go_ret
            exact ⟨by rw [HR.out, sides_none hk4 HF.out]; rfl, HB.out.trans (HV.out.mono HB.out.size)⟩
        · clear g2 g3 g4 OKQ
          by_cases hph : ph = 1
          · subst hph
            by_cases c1 : pl < ql
            · have HF : Hid (Ev.withinS (x.s k) (y.s k) = false) := HRK.out.trans (by simp [Ev.withinS]; omega)
              clear HRK
              go_wp2
              go_ret
              exact ⟨by rw [HR.out, sides_none hk4 HF.out]; rfl, HB.out.trans (HV.out.mono HB.out.size)⟩
            · by_cases c2 : qu < pu
              · have HF : Hid (Ev.withinS (x.s k) (y.s k) = false) := HRK.out.trans (by simp [Ev.withinS]; omega)
                clear HRK
                go_wp2
                go_ret
                exact ⟨by rw [HR.out, sides_none hk4 HF.out]; rfl, HB.out.trans (HV.out.mono HB.out.size)⟩
              · have HT : Hid (Ev.withinS (x.s k) (y.s k) = true) := HRK.out.trans (by simp [Ev.withinS]; omega)
                clear HRK
                go_wp2
                go_roundg (4 - (k + 1))
                case measure => have := HGK.out; omega
                case rel => exact ⟨k + 1, by omega, rfl, by go_num, again.out HT.out, HV.out⟩
          · have HF : Hid (Ev.withinS (x.s k) (y.s k) = false) := HRK.out.trans (by simp [Ev.withinS, hph])
            have g : (ph != 1) = true := by simpa using hph
            clear HRK hph
            go_wp2
            go_ret
            exact ⟨by rw [HR.out, sides_none hk4 HF.out]; rfl, HB.out.trans (HV.out.mono HB.out.size)⟩
    · obtain rfl : k = 4 := by omega
      clear hk hk4
      have hr : r = (Ev.begins x.tag y.tag && y.nots.all (Ev.out x)) := by rw [HR.out]; unfold Ev.within Ev.sides; rw [H.out 0 (by omega), H.out 1 (by omega), H.out 2 (by omega), H.out 3 (by omega)]; rfl
      have HR' : Hid (r = (Ev.begins x.tag y.tag && y.nots.all (Ev.out x))) := hr
      have HWR : Hid (Below w.heap.size w wr) := HB.out.trans (hbel.out.mono HB.out.size)
      obtain ⟨C0, _⟩ := cells_of E0
      obtain ⟨C1, _⟩ := cells_of E1
      have x12 : wr.cell? ⟨w.heap.size, 12, none⟩ = some (.string x.tag) := (C0 12).trans rfl
      have x13 : wr.cell? ⟨w.heap.size, 13, none⟩ = some (.slice ao x.nots.length ca) := (C0 13).trans rfl
      have y12 : wr.cell? ⟨w.heap.size + 1, 12, none⟩ = some (.string y.tag) := (C1 12).trans rfl
      have y13 : wr.cell? ⟨w.heap.size + 1, 13, none⟩ = some (.slice bo y.nots.length cb) := (C1 13).trans rfl
      have HTX : Hid (Txts Any wr ao x.nots ∧ Txts Any wr bo y.nots) := ⟨HX.out.2.2.2.2.1.below HWR.out, HX.out.2.2.2.2.2.below HWR.out⟩
      clear hr H HGK E0 E1 C0 C1 HR
      obtain ⟨V, hV⟩ : ∃ V, V = wr := ⟨_, rfl⟩
      subst hV
      go_wp2_with fail
      go_loopg [8] y.nots.length (fun g i wr => ∃ j : Nat, j ≤ y.nots.length ∧ g = y.nots.length - j ∧ i = .int .i64 j ∧ Hid (OutTo x y.nots j) ∧ wr = V)
      case atStart => exact ⟨0, by omega, rfl, rfl, fun j hj h => by omega, rfl⟩
      case round =>
        obtain ⟨j, hj, hgj, rfl, HO, hVw⟩ := hrel
        obtain rfl := hVw.symm
        have HGJ : Hid (gk = y.nots.length - j) := hgj
        clear hgj
        by_cases hjt : j < y.nots.length
        · have hji : (j : Int) < (y.nots.length : Int) := by omega
          obtain ⟨b, rfl, _, hbl, hc⟩ := HTX.out.2 (by omega)
          have q := hc j hjt
          have hsz : (Ev.bts y.nots[j]).size ≤ 1000 := by rw [bts_size]; exact HX.out.2.1.2.2.2 _ (List.getElem_mem hjt)
          obtain ⟨sx, hsx⟩ : ∃ sx, sx = Ev.bts y.nots[j] := ⟨_, rfl⟩
          rw [← hsx] at q hsz
          have HOUT : Hid (Ev.out x y.nots[j] = (Ev.anyOf sx x.nots || Ev.apart sx x.tag)) := by rw [hsx]; exact rfl
          have c1 := fun w' => begins22 sx x.tag w' hsz tx
          have c2 := fun w' => begins22 x.tag sx w' tx hsz
          obtain ⟨r1, hr1⟩ : ∃ r1, r1 = Ev.begins sx x.tag := ⟨_, rfl⟩
          obtain ⟨r2, hr2⟩ : ∃ r2, r2 = Ev.begins x.tag sx := ⟨_, rfl⟩
          have HAP : Hid (Ev.apart sx x.tag = (!r1 && !r2)) := by rw [hr1, hr2]; exact rfl
          rw [← hr1] at c1
          rw [← hr2] at c2
          clear hsx hc hr1 hr2
          go_wp2_with fail
          cases r1 with
          | true =>
            clear c2
            refine (c1 _).mono ?_
            rintro e w' ⟨rfl, hw'⟩; obtain rfl := hw'.symm
            clear c1
            go_wp2_with fail
            go_loopg [10, 11] x.nots.length (fun g s i wr => ∃ k : Nat, k ≤ x.nots.length ∧ g = x.nots.length - k ∧ i = .int .i64 k ∧ s = .bool (false || Ev.anyOf sx (x.nots.take k)) ∧ wr = V)
            case atStart => exact ⟨0, by omega, rfl, rfl, by simp [Ev.anyOf], rfl⟩
            case round =>
              obtain ⟨k, hk, hgk, rfl, rfl, hVw⟩ := hrel
              obtain rfl := hVw.symm
              have HGK : Hid (gk = x.nots.length - k) := hgk
              clear hgk
              by_cases hkt : k < x.nots.length
              · have hki : (k : Int) < (x.nots.length : Int) := by omega
                obtain ⟨b2, rfl, _, hbl2, hc2⟩ := HTX.out.1 (by omega)
                have q2 := hc2 k hkt
                have hsz2 : (Ev.bts x.nots[k]).size ≤ 1000 := by rw [bts_size]; exact HX.out.1.2.2.2 _ (List.getElem_mem hkt)
                have hstep := anyOf_step sx x.nots k hkt
                obtain ⟨sy, hsy⟩ : ∃ sy, sy = Ev.bts x.nots[k] := ⟨_, rfl⟩
                rw [← hsy] at q2 hsz2 hstep
                have HST : Hid (Ev.anyOf sx (x.nots.take (k + 1)) = (Ev.anyOf sx (x.nots.take k) || Ev.begins sx sy)) := hstep
                have c3 := fun w' => begins22 sx sy w' hsz hsz2
                clear hsy hc2 hstep
                generalize Ev.begins sx sy = rb at *
                obtain ⟨rs, hrs⟩ : ∃ rs, rs = (false || Ev.anyOf sx (x.nots.take k)) := ⟨_, rfl⟩
                have HRS : Hid (rs = (false || Ev.anyOf sx (x.nots.take k))) := hrs
                rw [← hrs]
                clear hrs
                cases rs with
                | true =>
                  clear c3
                  go_wp2
                  go_roundg (x.nots.length - (k + 1))
                  case measure => have := HGK.out; omega
                  case rel => exact ⟨k + 1, by omega, rfl, by go_num, by rw [HST.out, ← Bool.or_assoc, ← HRS.out]; rfl, rfl⟩
                | false =>
                  go_wp2_with fail
                  refine (c3 _).mono ?_
                  rintro e w' ⟨rfl, hw'⟩; obtain rfl := hw'.symm
                  go_wp2
                  go_roundg (x.nots.length - (k + 1))
                  case measure => have := HGK.out; omega
                  case rel => exact ⟨k + 1, by omega, rfl, by go_num, by rw [HST.out, ← Bool.or_assoc, ← HRS.out]; rfl, rfl⟩
              · obtain rfl : k = x.nots.length := by omega
                clear hk hkt
                rw [List.take_length]
                obtain ⟨rs, hrs⟩ : ∃ rs, rs = (false || Ev.anyOf sx x.nots) := ⟨_, rfl⟩
                have HRS : Hid (Ev.out x y.nots[j] = rs) := by rw [HOUT.out, HAP.out, hrs]; cases Ev.anyOf sx x.nots <;> cases r2 <;> exact rfl
                rw [← hrs]
                clear hrs
                cases rs with
                | true =>
                  go_wp2
                  go_roundg (y.nots.length - (j + 1))
                  case measure => have := HGJ.out; omega
                  case rel => exact ⟨j + 1, by omega, rfl, by go_num, outTo_step hjt HO.out HRS.out, rfl⟩
                | false =>
                  go_wp2
                  go_ret
                  exact ⟨by rw [HR'.out, outTo_none hjt HRS.out]; simp, HWR.out⟩
          | false =>
            refine (c1 _).mono ?_
            rintro e w' ⟨rfl, hw'⟩; obtain rfl := hw'.symm
            clear c1
            go_wp2_with fail
            refine (c2 _).mono ?_
            rintro e w' ⟨rfl, hw'⟩; obtain rfl := hw'.symm
            clear c2
            go_wp2_with fail
            go_loopg [10, 11] x.nots.length (fun g s i wr => ∃ k : Nat, k ≤ x.nots.length ∧ g = x.nots.length - k ∧ i = .int .i64 k ∧ s = .bool ((!r2) || Ev.anyOf sx (x.nots.take k)) ∧ wr = V)
            case atStart => exact ⟨0, by omega, rfl, rfl, by simp [Ev.anyOf], rfl⟩
            case round =>
              obtain ⟨k, hk, hgk, rfl, rfl, hVw⟩ := hrel
              obtain rfl := hVw.symm
              have HGK : Hid (gk = x.nots.length - k) := hgk
              clear hgk
              by_cases hkt : k < x.nots.length
              · have hki : (k : Int) < (x.nots.length : Int) := by omega
                obtain ⟨b2, rfl, _, hbl2, hc2⟩ := HTX.out.1 (by omega)
                have q2 := hc2 k hkt
                have hsz2 : (Ev.bts x.nots[k]).size ≤ 1000 := by rw [bts_size]; exact HX.out.1.2.2.2 _ (List.getElem_mem hkt)
                have hstep := anyOf_step sx x.nots k hkt
                obtain ⟨sy, hsy⟩ : ∃ sy, sy = Ev.bts x.nots[k] := ⟨_, rfl⟩
                rw [← hsy] at q2 hsz2 hstep
                have HST : Hid (Ev.anyOf sx (x.nots.take (k + 1)) = (Ev.anyOf sx (x.nots.take k) || Ev.begins sx sy)) := hstep
                have c3 := fun w' => begins22 sx sy w' hsz hsz2
                clear hsy hc2 hstep
                generalize Ev.begins sx sy = rb at *
                obtain ⟨rs, hrs⟩ : ∃ rs, rs = ((!r2) || Ev.anyOf sx (x.nots.take k)) := ⟨_, rfl⟩
                have HRS : Hid (rs = ((!r2) || Ev.anyOf sx (x.nots.take k))) := hrs
                rw [← hrs]
                clear hrs
                cases rs with
                | true =>
                  clear c3
                  go_wp2
                  go_roundg (x.nots.length - (k + 1))
                  case measure => have := HGK.out; omega
                  case rel => exact ⟨k + 1, by omega, rfl, by go_num, by rw [HST.out, ← Bool.or_assoc, ← HRS.out]; rfl, rfl⟩
                | false =>
                  go_wp2_with fail
                  refine (c3 _).mono ?_
                  rintro e w' ⟨rfl, hw'⟩; obtain rfl := hw'.symm
                  go_wp2
                  go_roundg (x.nots.length - (k + 1))
                  case measure => have := HGK.out; omega
                  case rel => exact ⟨k + 1, by omega, rfl, by go_num, by rw [HST.out, ← Bool.or_assoc, ← HRS.out]; rfl, rfl⟩
              · obtain rfl : k = x.nots.length := by omega
                clear hk hkt
                rw [List.take_length]
                obtain ⟨rs, hrs⟩ : ∃ rs, rs = ((!r2) || Ev.anyOf sx x.nots) := ⟨_, rfl⟩
                have HRS : Hid (Ev.out x y.nots[j] = rs) := by rw [HOUT.out, HAP.out, hrs]; cases Ev.anyOf sx x.nots <;> cases r2 <;> exact rfl
                rw [← hrs]
                clear hrs
                cases rs with
                | true =>
                  go_wp2
                  go_roundg (y.nots.length - (j + 1))
                  case measure => have := HGJ.out; omega
                  case rel => exact ⟨j + 1, by omega, rfl, by go_num, outTo_step hjt HO.out HRS.out, rfl⟩
                | false =>
                  go_wp2
                  go_ret
                  exact ⟨by rw [HR'.out, outTo_none hjt HRS.out]; simp, HWR.out⟩
        · obtain rfl : j = y.nots.length := by omega
          clear hj hjt
          have c1 := fun w' => begins22 x.tag y.tag w' tx ty
          go_wp2_with fail
          refine (c1 _).mono ?_
          rintro e w' ⟨rfl, hw'⟩; obtain rfl := hw'.symm
          go_wp2
          go_ret
          exact ⟨by rw [HR'.out, outTo_all HO.out]; simp, HWR.out⟩

/-- cardamomref4.Within. -/
theorem rwithin15 (x y : Ev.Bx) (ao bo : Option Addr) (ca cb n m : Nat) (w : World) (hx : x.ok n) (hy : y.ok m) (hn : n ≤ 1000) (hm : m ≤ 1000) (ha : Txts Any w ao x.nots) (hb : Txts Any w bo y.nots) :
    Calls Try.prog 15 #[Bval x ao ca, Bval y bo cb] w fun e w' => e = .returned (.bool (Ev.within x y)) ∧ Below w.heap.size w w' :=
  rwithin_any x y ao bo ca cb n m w hx hy hn hm ha hb

end Go.Proofs.Ytflpdekifkcfkab
