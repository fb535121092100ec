/- pars.reader: rows of |, and the reader whole. -/
import Derived.Test.YtdeojcodbojmoaaGreatDoorRow
namespace Go.Proofs.YtdeojcodbojmoaaGreatDoor
open Go.RowKit
set_option maxRecDepth 100000
set_option linter.unusedVariables false

set_option maxHeartbeats 8000000 in
theorem row67_68 (rb : Nat) (ws : List Wd.Word) (p : Nat) (e : Int) (w : World) (hg : Ps.Goods ws) (h : Rdr w rb ws p e) (hp : p ≤ ws.length) (R : Option (Ps.Ft × Nat)) (hRn : Ps.P ws .and p = none → R = none) (hRs : ∀ f q, Ps.P ws .and p = some (f, q) → Ps.P ws (.orM f) q = R)
    (cp : ∀ q, p ≤ q → q ≤ ws.length → ∀ w, Rdr w rb ws q e → Calls Tryz.prog 68 #[.pointer (some ⟨rb, 0, none⟩)] w (PR rb ws e (Ps.P ws .and q) w)) :
    Calls Tryz.prog 67 #[.pointer (some ⟨rb, 0, none⟩), .int .i64 6, .string ⟨#[124]⟩, .func (.func 68) #[.pointer (some ⟨rb, 0, none⟩)] #[]] w (PR rb ws e R w) := by
  have hlt := h.lt
  have h0 : Rdr (w.alloc (.cells #[.int .i64 0, .int .i64 0, .int .i64 0, .int .i64 0, .string ⟨#[]⟩, .slice none 0 0] 53)) rb ws p e := h.alloc _
  have HA0 : Hid (At w rb (w.alloc (.cells #[.int .i64 0, .int .i64 0, .int .i64 0, .int .i64 0, .string ⟨#[]⟩, .slice none 0 0] 53))) := At.start w rb
  have c1 := cp p (Nat.le_refl _) hp _ h0
  have hsome := fun f q (hx : Ps.P ws .and p = some (f, q)) => Ps.P_some hg hx (s := p) rfl hp
  have start : ∀ (w1 : World) (r : Ending), PR rb ws e (Ps.P ws .and p) (w.alloc (.cells #[.int .i64 0, .int .i64 0, .int .i64 0, .int .i64 0, .string ⟨#[]⟩, .slice none 0 0] 53)) r w1 → ∃ o k l h t x n ev, r = .returned (.tuple #[.agg #[.int .i64 o, .int .i64 k, .int .i64 l, .int .i64 h, .string t, .slice x n n], ev]) ∧ RowI w rb w1.heap.size ws p e .orM R ev (w1.alloc (.cells #[.int .i64 o, .int .i64 k, .int .i64 l, .int .i64 h, .string t, .slice x n n] 53)) := by
    intro w1 r hr
    cases hx : Ps.P ws .and p with
    | none =>
      rw [hx] at hr
      have hR := hRn hx
      obtain ⟨o, k, l, h, t, x, n, m, T, v, rfl, hm, hk⟩ := hr
      have hat := HA0.out.step hlt hk
      exact ⟨o, k, l, h, t, x, n, _, rfl, hat.alloc _, hat.s, by simp, fun o => by simp, o, k, l, h, t, x, n, by unfold Six; simp, .inr ⟨hR, m, T, v, rfl, hm⟩⟩
    | some y =>
      obtain ⟨f, q⟩ := y
      rw [hx] at hr
      have hR := hRs f q hx
      obtain ⟨a1, a2, a3, a4⟩ := hsome f q hx
      obtain ⟨o, k, l, h, t, x, n, rfl, hl, hrd, hk⟩ := hr
      have hat := HA0.out.step hlt hk
      exact ⟨o, k, l, h, t, x, n, _, rfl, hat.alloc _, hat.s, by simp, fun o => by simp, o, k, l, h, t, x, n, by unfold Six; simp, .inl ⟨rfl, f, q, a1, a3, a4, hR, hrd.alloc _, Lies.kept ((Kept.refl _ w1).alloc _) f (Lies.mono (fun b hb hpb => ⟨by unfold Past at hpb; simp at hpb; omega, by omega⟩) f hl)⟩⟩
  have HST : Hid (∀ (w1 : World) (r : Ending), PR rb ws e (Ps.P ws .and p) (w.alloc (.cells #[.int .i64 0, .int .i64 0, .int .i64 0, .int .i64 0, .string ⟨#[]⟩, .slice none 0 0] 53)) r w1 → ∃ o k l h t x n ev, r = .returned (.tuple #[.agg #[.int .i64 o, .int .i64 k, .int .i64 l, .int .i64 h, .string t, .slice x n n], ev]) ∧ RowI w rb w1.heap.size ws p e .orM R ev (w1.alloc (.cells #[.int .i64 o, .int .i64 k, .int .i64 l, .int .i64 h, .string t, .slice x n n] 53))) := start
  have HCP : Hid (∀ q, p ≤ q → q ≤ ws.length → ∀ w, Rdr w rb ws q e → Calls Tryz.prog 68 #[.pointer (some ⟨rb, 0, none⟩)] w (PR rb ws e (Ps.P ws .and q) w)) := cp
  clear start hsome hRn hRs cp h0 HA0 h
  go_enter Tryz.func67, Tryz.ntmps67
  go_wp2_with fail
  refine c1.mono ?_
  intro r w1 hr
  obtain ⟨o1, k1, l1, h1, t1, x1, n1, ev, rfl, hI⟩ := HST.out w1 r hr
  clear c1 hr HST
  obtain ⟨W, hW⟩ : ∃ W, W = w1.alloc (.cells #[.int .i64 o1, .int .i64 k1, .int .i64 l1, .int .i64 h1, .string t1, .slice x1 n1 n1] 53) := ⟨_, rfl⟩
  obtain ⟨fb, hfb⟩ : ∃ fb, fb = w1.heap.size := ⟨_, rfl⟩
  have HW : Hid (W = w1.alloc (.cells #[.int .i64 o1, .int .i64 k1, .int .i64 l1, .int .i64 h1, .string t1, .slice x1 n1 n1] 53)) := hW
  have HI : Hid (RowI w rb fb ws p e .orM R ev W) := by rw [hW, hfb]; exact hI
  have HFB : Hid (fb = w1.heap.size) := hfb
  clear hW hI hfb
  go_wp2_with fail
  rw [← HW.out, ← HFB.out]
  clear HW HFB
  go_loopw [11] (fun ev wr => RowI w rb fb ws p e .orM R ev wr) (fun ev wr => rowM rb ev wr)
  case atStart => exact HI.out
  case round =>
    obtain ⟨hat, hlo, hhi, hfz, o, k, l, h, t, x, n, six, hcase⟩ := hrel
    clear HI
    have hrb : rb < w.heap.size := hlt
    rcases hcase with ⟨rfl, f, q, hwf, hq, hpq, hP, hrd, hl⟩ | ⟨rfl, m, T, v, rfl, hm⟩
    · have HC : Hid (_ ∧ _ ∧ _ ∧ _ ∧ _ ∧ _ ∧ _) := ⟨hat, hwf, hq, hP, hl, six, hrd⟩
      by_cases hmk : Ps.isMark ws q 124 = true
      · clear hat hwf hq hP hl six
        have c2 := has82 rb ws q e 124 ⟨#[124]⟩ rfl wr hrd
        rw [isM_eq, hmk] at c2
        simp only [if_true] at c2
        have HFZ : Hid _ := hfz
        clear hrd hfz
        go_wp2_with fail
        refine c2.mono ?_
        rintro r wa ⟨rfl, hra, hka⟩
        clear c2
        have hq1 : q + 1 ≤ ws.length := Ps.isMark_lt hmk
        have cn := HCP.out (q + 1) (by omega) hq1 (wa.alloc (.cells #[.int .i64 0, .int .i64 0, .int .i64 0, .int .i64 0, .string ⟨#[]⟩, .slice none 0 0] 53)) (hra.alloc _)
        obtain ⟨nb, hnb⟩ : ∃ nb, nb = wa.heap.size := ⟨_, rfl⟩
        have hHA : At w rb (wa.alloc (.cells #[.int .i64 0, .int .i64 0, .int .i64 0, .int .i64 0, .string ⟨#[]⟩, .slice none 0 0] 53)) := (HC.out.1.step hlt hka).alloc _
        have six1 : Six (wa.alloc (.cells #[.int .i64 0, .int .i64 0, .int .i64 0, .int .i64 0, .string ⟨#[]⟩, .slice none 0 0] 53)) fb 0 o k l h t x n := HC.out.2.2.2.2.2.1.kept (P := But rb) (by unfold But; omega) (hka.alloc _)
        have hL1 : Lies (fun b => w.heap.size < b ∧ b ≠ fb ∧ b ≠ wa.heap.size) wa f o k l h t x n := Lies.mono (fun b hb hpb => ⟨hpb.1, hpb.2, by omega⟩) f (Lies.kept (hka.mono (fun b _ hb => by unfold Pf at hb; unfold But; omega)) f HC.out.2.2.2.2.1)
        have hfz1 : ∀ i, (wa.alloc (.cells #[.int .i64 0, .int .i64 0, .int .i64 0, .int .i64 0, .string ⟨#[]⟩, .slice none 0 0] 53)).frozen? ⟨fb, i, none⟩ = false := fun i => ((hka.alloc _).frozen hhi (by unfold But; omega)).trans (HFZ.out i)
        have sfa : fb < wa.heap.size := Nat.lt_of_lt_of_le hhi hka.size
        have hlw : leftOf wr rb = ws.length - q := leftOf_eq HC.out.2.2.2.2.2.2
        have HQ : Hid (_ ∧ _ ∧ _ ∧ _) := ⟨HC.out.2.1, HC.out.2.2.2.1, hlw, hmk⟩
        have HH : Hid (_ ∧ _ ∧ _ ∧ _) := ⟨hHA, six1, hL1, hfz1⟩
        clear hra hka HC HFZ hHA six1 hL1 hfz1 hlw hmk
        go_wp2_with fail
        refine cn.mono ?_
        intro r wc hr
        obtain ⟨o2, k2, l2, h2, t2, x2, n2, ev2, rfl, hk2, hcs⟩ := pr_cases hr
        have HCS : Hid _ := hcs
        have sac : wa.heap.size < wc.heap.size := by have := hk2.size; simp at this; omega
        have z0 : ∀ i, wc.cell? ⟨wa.heap.size, i, none⟩ = (#[.int .i64 0, .int .i64 0, .int .i64 0, .int .i64 0, .string ⟨#[]⟩, .slice none 0 0] : Array Value)[i]? := fun i => by rw [hk2.cell (by simp) (by unfold But; omega)]; simp
        have y0 : wc.cell? ⟨wa.heap.size, 0, none⟩ = some (.int .i64 0) := z0 0
        have y1 : wc.cell? ⟨wa.heap.size, 1, none⟩ = some (.int .i64 0) := z0 1
        have y2 : wc.cell? ⟨wa.heap.size, 2, none⟩ = some (.int .i64 0) := z0 2
        have y3 : wc.cell? ⟨wa.heap.size, 3, none⟩ = some (.int .i64 0) := z0 3
        have y4 : wc.cell? ⟨wa.heap.size, 4, none⟩ = some (.string ⟨#[]⟩) := z0 4
        have y5 : wc.cell? ⟨wa.heap.size, 5, none⟩ = some (.slice none 0 0) := z0 5
        have yf : ∀ i, wc.frozen? ⟨wa.heap.size, i, none⟩ = false := fun i => by rw [hk2.frozen (by simp) (by unfold But; omega)]; simp
        have HK2 : Hid (Kept (But rb) (wa.alloc (.cells #[.int .i64 0, .int .i64 0, .int .i64 0, .int .i64 0, .string ⟨#[]⟩, .slice none 0 0] 53)) wc) := hk2
        clear z0 cn hr hcs hk2
        obtain ⟨X, hX⟩ : ∃ X, X = (((((wc.setCell ⟨wa.heap.size, 0, none⟩ (.int .i64 o2)).setCell ⟨wa.heap.size, 1, none⟩ (.int .i64 k2)).setCell ⟨wa.heap.size, 2, none⟩ (.int .i64 l2)).setCell ⟨wa.heap.size, 3, none⟩ (.int .i64 h2)).setCell ⟨wa.heap.size, 4, none⟩ (.string t2)).setCell ⟨wa.heap.size, 5, none⟩ (.slice x2 n2 n2) := ⟨_, rfl⟩
        have HX : Hid (X = _) := hX
        simp only []
        iterate 12 (first | go_skip | go_guarded | go_step | go_upon | go_simp)
        rw [← HX.out]
        have sixn : Six X wa.heap.size 0 o2 k2 l2 h2 t2 x2 n2 := by rw [hX]; exact six_of_set wc wa.heap.size o2 k2 l2 h2 t2 x2 n2 y0 y1 y2 y3 y4 y5
        have kX : Kept (fun b => b ≠ wa.heap.size) wc X := by rw [hX]; exact kept_six_at (fun h => h rfl)
        have sX : X.heap.size = wc.heap.size := by rw [hX]; simp
        have six2 : Six X fb 0 o k l h t x n := (HH.out.2.1.kept (P := But rb) (by unfold But; omega) HK2.out).kept (P := fun b => b ≠ wa.heap.size) (by show fb ≠ wa.heap.size; omega) kX
        have fX : ∀ i, X.frozen? ⟨fb, i, none⟩ = false := fun i => (kX.frozen (by omega) (by show fb ≠ wa.heap.size; omega)).trans ((HK2.out.frozen (by simp; omega) (by unfold But; omega)).trans (HH.out.2.2.2 i))
        have HXX : Hid (Kept (fun b => b ≠ wa.heap.size) wc X ∧ X.heap.size = wc.heap.size ∧ Six X fb 0 o k l h t x n ∧ Six X wa.heap.size 0 o2 k2 l2 h2 t2 x2 n2 ∧ ∀ i, X.frozen? ⟨fb, i, none⟩ = false) := ⟨kX, sX, six2, sixn, fX⟩
        obtain ⟨p0, p1, p2, p3, p4, p5⟩ := six2
        obtain ⟨q0, q1, q2, q3, q4, q5⟩ := sixn
        simp only [Nat.zero_add] at p0 p1 p2 p3 p4 p5 q0 q1 q2 q3 q4 q5
        have sXa : wa.heap.size < X.heap.size := by omega
        have sXf : fb < X.heap.size := by omega
        clear kX sX fX hX HX y0 y1 y2 y3 y4 y5 yf
        obtain ⟨V, hV⟩ : ∃ V, V = X.alloc (.cells #[.int .i64 o, .int .i64 k, .int .i64 l, .int .i64 h, .string t, .slice x n n, .int .i64 o2, .int .i64 k2, .int .i64 l2, .int .i64 h2, .string t2, .slice x2 n2 n2] 53) := ⟨_, rfl⟩
        have HV : Hid (V = _) := hV
        iterate 20 (first | go_skip | go_guarded | go_step | go_upon | go_simp)
        rw [← HV.out]
        have kV : Kept Any X V := by rw [hV]; exact (Kept.refl _ X).alloc _
        have sixv : Six V X.heap.size 0 o k l h t x n := by rw [hV]; unfold Six; simp
        have sixw : Six V X.heap.size 6 o2 k2 l2 h2 t2 x2 n2 := by rw [hV]; unfold Six; simp
        have sV : X.heap.size < V.heap.size := by rw [hV]; simp
        have six3 : Six V fb 0 o k l h t x n := HXX.out.2.2.1.kept (P := Any) trivial kV
        have fV : ∀ i, V.frozen? ⟨fb, i, none⟩ = false := fun i => (kV.frozen sXf trivial).trans (HXX.out.2.2.2.2 i)
        have HVV : Hid (Kept Any X V ∧ Six V X.heap.size 0 o k l h t x n ∧ Six V X.heap.size 6 o2 k2 l2 h2 t2 x2 n2 ∧ Six V fb 0 o k l h t x n) := ⟨kV, sixv, sixw, six3⟩
        clear p0 p1 p2 p3 p4 p5 q0 q1 q2 q3 q4 q5 hV HV kV sixv sixw
        obtain ⟨p0, p1, p2, p3, p4, p5⟩ := six3
        simp only [Nat.zero_add] at p0 p1 p2 p3 p4 p5
        have sVf : fb < V.heap.size := by omega
        obtain ⟨Y, hY⟩ : ∃ Y, Y = (((((V.setCell ⟨fb, 0, none⟩ (.int .i64 6)).setCell ⟨fb, 1, none⟩ (.int .i64 0)).setCell ⟨fb, 2, none⟩ (.int .i64 0)).setCell ⟨fb, 3, none⟩ (.int .i64 0)).setCell ⟨fb, 4, none⟩ (.string ⟨#[]⟩)).setCell ⟨fb, 5, none⟩ (.slice (some ⟨X.heap.size, 0, none⟩) 2 2) := ⟨_, rfl⟩
        have HY : Hid (Y = _) := hY
        go_wp2_with fail
        rw [← HY.out]
        have sixy : Six Y fb 0 6 0 0 0 ⟨#[]⟩ (some ⟨X.heap.size, 0, none⟩) 2 := by rw [hY]; exact six_of_set V fb _ _ _ _ _ _ _ p0 p1 p2 p3 p4 p5
        have kY : Kept (fun b => b ≠ fb) V Y := by rw [hY]; exact kept_six_at (fun h => h rfl)
        have sY : Y.heap.size = V.heap.size := by rw [hY]; simp
        have fY : ∀ i, Y.frozen? ⟨fb, i, none⟩ = false := fun i => by rw [hY, frozen_six]; exact fV i
        have kcY : Kept (fun b => b ≠ fb ∧ b ≠ wa.heap.size) wc Y := (HXX.out.1.mono (fun b _ hb => hb.2)).trans ((HVV.out.1.mono (fun _ _ _ => trivial)).trans (kY.mono (fun b _ hb => hb.1)))
        have hatY : At w rb Y := (HH.out.1.step hlt HK2.out).step' (P := fun b => b ≠ fb ∧ b ≠ wa.heap.size) (by constructor <;> omega) (fun b hb _ => by constructor <;> omega) kcY
        have HYY : Hid (At w rb Y ∧ Six Y fb 0 6 0 0 0 ⟨#[]⟩ (some ⟨X.heap.size, 0, none⟩) 2 ∧ fb < Y.heap.size ∧ (∀ i, Y.frozen? ⟨fb, i, none⟩ = false) ∧ Kept (fun b => b ≠ fb ∧ b ≠ wa.heap.size) wc Y ∧ Kept (fun b => b ≠ fb) V Y) := ⟨hatY, sixy, by omega, fY, kcY, kY⟩
        clear hY HY p0 p1 p2 p3 p4 p5 sixy kY fY fV kcY hatY
        rcases HCS.out with ⟨rfl, g, q', hPg, hlg, hrg⟩ | ⟨hPn, m, T, v, rfl, hm⟩
        · refine (within_none _ _).mono ?_
          rintro r w9 ⟨rfl, rfl⟩
          obtain ⟨b1, b2, b3, b4⟩ := Ps.P_some hg hPg (s := q + 1) rfl hq1
          have HG : Hid (RowI w rb fb ws p e .orM R .nilIface w9 ∧ rowM rb .nilIface w9 < rowM rb .nilIface wr) := by
            have hrY : Rdr w9 rb ws q' e := hrg.below (HYY.out.2.2.2.2.1.below (by omega) (fun b hb => by constructor <;> omega))
            refine ⟨⟨HYY.out.1, hlo, HYY.out.2.2.1, HYY.out.2.2.2.1, _, _, _, _, _, _, _, HYY.out.2.1, .inl ⟨rfl, .two 6 f g, q', ⟨by decide, HQ.out.1, b1⟩, b3, by omega, ?_, hrY, ?_⟩⟩, ?_⟩
            · rw [← HQ.out.2.1]; exact (Ps.P_orM_yes hg f g q q' HQ.out.1 HQ.out.2.2.2 hPg).symm
            · have lf : Lies (fun b => w.heap.size < b ∧ b ≠ fb ∧ b ≠ wa.heap.size) wc f o k l h t x n := Lies.kept ((((Kept.refl _ wa).alloc _).trans (HK2.out.mono (fun b _ hb => by unfold But; omega)))) f HH.out.2.2.1
              have lg : Lies (fun b => w.heap.size < b ∧ b ≠ fb ∧ b ≠ wa.heap.size) wc g o2 k2 l2 h2 t2 x2 n2 := Lies.mono (fun b _ hb => by unfold Past at hb; simp at hb; refine ⟨?_, ?_, ?_⟩ <;> omega) g hlg
              have k9 : Kept (fun b => w.heap.size < b ∧ b ≠ fb ∧ b ≠ wa.heap.size) wc w9 := HYY.out.2.2.2.2.1.mono (fun b _ hb => hb.2)
              exact ⟨rfl, rfl, rfl, rfl, rfl, X.heap.size, o, k, l, h, t, x, n, o2, k2, l2, h2, t2, x2, n2, rfl, rfl, by unfold Pf; omega, HVV.out.2.1.kept (P := fun b => b ≠ fb) (by show X.heap.size ≠ fb; omega) HYY.out.2.2.2.2.2, Lies.mono (fun b _ hb => ⟨hb.1, hb.2.1⟩) f (Lies.kept k9 f lf), HVV.out.2.2.1.kept (P := fun b => b ≠ fb) (by show X.heap.size ≠ fb; omega) HYY.out.2.2.2.2.2, Lies.mono (fun b _ hb => ⟨hb.1, hb.2.1⟩) g (Lies.kept k9 g lg)⟩
            · show leftOf w9 rb + 1 < leftOf wr rb + 1
              rw [leftOf_eq hrY, HQ.out.2.2.1]; omega
          clear HQ HH HVV HYY HXX HK2 HCS hlg hrg hPg
          go_wp2
          go_roundw
          case rel => exact HG.out.1
          case measure => exact HG.out.2
        · refine (within_one _ _ _ _).mono ?_
          rintro r w9 ⟨rfl, rfl⟩
          have HG : Hid (RowI w rb fb ws p e .orM R (.iface 124 (.agg #[.string ⟨#[124]⟩, .iface T v])) w9 ∧ rowM rb (.iface 124 (.agg #[.string ⟨#[124]⟩, .iface T v])) w9 < rowM rb .nilIface wr) := by
            refine ⟨⟨HYY.out.1, hlo, HYY.out.2.2.1, HYY.out.2.2.2.1, _, _, _, _, _, _, _, HYY.out.2.1, .inr ⟨?_, _, _, _, rfl, hm.one _⟩⟩, ?_⟩
            · rw [← HQ.out.2.1]; exact Ps.P_orM_bad hg f q HQ.out.2.2.2 hPn
            · show 0 < leftOf wr rb + 1
              omega
          clear HQ HH HVV HYY HXX HK2 HCS hPn hm
          go_wp2
          go_roundw
          case rel => exact HG.out.1
          case measure => exact HG.out.2
      · have hmk' : Ps.isMark ws q 124 = false := by simpa using hmk
        have hRy : R = some (f, q) := by rw [← hP]; exact Ps.P_orM_no f q hmk'
        have HY : Hid (R = some (f, q)) := hRy
        have c2 := has82 rb ws q e 124 ⟨#[124]⟩ rfl wr hrd
        rw [isM_eq, hmk'] at c2
        simp only [Bool.false_eq_true, if_false] at c2
        clear hrd hP hmk hmk' hRy hat hl six hfz
        go_wp2_with fail
        refine c2.mono ?_
        rintro r wa ⟨rfl, hra, hka⟩
        clear c2
        have HA : Hid (At w rb wa) := HC.out.1.step hlt hka
        have sixa := HC.out.2.2.2.2.2.1.kept (P := But rb) (by unfold But; omega) hka
        have HL : Hid (Lies (Pf w fb) wa f o k l h t x n) := Lies.kept (hka.mono (fun b _ hb => by unfold Pf at hb; unfold But; omega)) f HC.out.2.2.2.2.1
        have HR : Hid (Rdr wa rb ws q e) := hra
        obtain ⟨y0, y1, y2, y3, y4, y5⟩ := sixa
        simp only [Nat.zero_add] at y0 y1 y2 y3 y4 y5
        have ne1 : w.heap.size ≠ fb := by omega
        have ne2 : fb ≠ w.heap.size := by omega
        have z1 := HA.out.z
        have f1 := HA.out.f
        have s1 := HA.out.s
        clear hka hra HC
        go_wp2
        refine bodyPost_ret (v := .tuple #[.agg #[.int .i64 o, .int .i64 k, .int .i64 l, .int .i64 h, .string t, .slice x n n], .nilIface]) (by simp [results, Tryz.results67, go_sem, z1]) rfl ?_
        rw [HY.out]
        exact pr_yes (Lies.mono (P := Pf w fb) (fun b _ hb => by unfold Past; unfold Pf at hb; omega) f (Lies.kept (kept_six_at (by unfold Pf; omega)) f HL.out)) (HR.out.below (below_six hlt)) (kept_six HA.out.k)
    · have z1 := hat.z
      have f1 := hat.f
      have s1 := hat.s
      have HA : Hid (At w rb wr) := hat
      have HM : Hid (Mis m (.iface T v)) := hm
      obtain ⟨y0, y1, y2, y3, y4, y5⟩ := six
      simp only [Nat.zero_add] at y0 y1 y2 y3 y4 y5
      have ne1 : w.heap.size ≠ fb := by omega
      have ne2 : fb ≠ w.heap.size := by omega
      clear hat hm
      go_wp2
      refine bodyPost_ret (v := .tuple #[.agg #[.int .i64 o, .int .i64 k, .int .i64 l, .int .i64 h, .string t, .slice x n n], .iface T v]) (by simp [results, Tryz.results67, go_sem, z1]) rfl ?_
      exact pr_no HM.out (kept_six HA.out.k)

set_option maxHeartbeats 2000000 in
theorem allOf68 (rb : Nat) (ws : List Wd.Word) (p : Nat) (e : Int) (w : World) (R : Option (Ps.Ft × Nat)) (h : Rdr w rb ws p e) (c : ∀ w, Rdr w rb ws p e → Calls Tryz.prog 67 #[.pointer (some ⟨rb, 0, none⟩), .int .i64 5, .string ⟨#[38]⟩, .func (.func 83) #[.pointer (some ⟨rb, 0, none⟩)] #[]] w (PR rb ws e R w)) :
    Calls Tryz.prog 68 #[.pointer (some ⟨rb, 0, none⟩)] w (PR rb ws e R w) := by
  have hlt := h.lt
  have HA0 : Hid (At w rb (w.alloc (.cells #[.int .i64 0, .int .i64 0, .int .i64 0, .int .i64 0, .string ⟨#[]⟩, .slice none 0 0] 53))) := At.start w rb
  have c1 := c (w.alloc (.cells #[.int .i64 0, .int .i64 0, .int .i64 0, .int .i64 0, .string ⟨#[]⟩, .slice none 0 0] 53)) (h.alloc _)
  clear c h
  go_enter Tryz.func68, Tryz.ntmps68
  go_wp2_with fail
  refine c1.mono ?_
  intro r w1 hr
  obtain ⟨o1, k1, l1, h1, t1, x1, n1, ev, rfl, hk1, hcs⟩ := pr_cases hr
  have HA : Hid (At w rb w1) := HA0.out.step hlt hk1
  have HCS : Hid _ := hcs
  clear hr hcs c1 HA0 hk1
  have z1 := HA.out.z
  have f1 := HA.out.f
  have s1 := HA.out.s
  go_wp2
  refine bodyPost_ret (v := .tuple #[.agg #[.int .i64 o1, .int .i64 k1, .int .i64 l1, .int .i64 h1, .string t1, .slice x1 n1 n1], ev]) (by simp [results, Tryz.results68, go_sem, z1]) rfl ?_
  rcases HCS.out with ⟨rfl, f, q, rfl, hl, hr⟩ | ⟨rfl, m, T, v, rfl, hm⟩
  · have hl' : Lies (fun b => w.heap.size < b) w1 f o1 k1 l1 h1 t1 x1 n1 := Lies.mono (fun b _ hb => by unfold Past at hb; simp at hb; omega) f hl
    exact pr_yes (Lies.mono (P := fun b => w.heap.size < b) (fun b _ hb => Nat.le_of_lt hb) f (Lies.kept (kept_six_at (by omega)) f hl')) (hr.below (below_six hlt)) (kept_six HA.out.k)
  · exact pr_no hm (kept_six HA.out.k)

set_option maxHeartbeats 2000000 in
theorem filter52 (rb : Nat) (ws : List Wd.Word) (p : Nat) (e : Int) (w : World) (R : Option (Ps.Ft × Nat)) (h : Rdr w rb ws p e) (c : ∀ w, Rdr w rb ws p e → Calls Tryz.prog 67 #[.pointer (some ⟨rb, 0, none⟩), .int .i64 6, .string ⟨#[124]⟩, .func (.func 68) #[.pointer (some ⟨rb, 0, none⟩)] #[]] w (PR rb ws e R w)) :
    Calls Tryz.prog 52 #[.pointer (some ⟨rb, 0, none⟩)] w (PR rb ws e R w) := by
  have hlt := h.lt
  have HA0 : Hid (At w rb (w.alloc (.cells #[.int .i64 0, .int .i64 0, .int .i64 0, .int .i64 0, .string ⟨#[]⟩, .slice none 0 0] 53))) := At.start w rb
  have c1 := c (w.alloc (.cells #[.int .i64 0, .int .i64 0, .int .i64 0, .int .i64 0, .string ⟨#[]⟩, .slice none 0 0] 53)) (h.alloc _)
  clear c h
  go_enter Tryz.func52, Tryz.ntmps52
  go_wp2_with fail
  refine c1.mono ?_
  intro r w1 hr
  obtain ⟨o1, k1, l1, h1, t1, x1, n1, ev, rfl, hk1, hcs⟩ := pr_cases hr
  have HA : Hid (At w rb w1) := HA0.out.step hlt hk1
  have HCS : Hid _ := hcs
  clear hr hcs c1 HA0 hk1
  have z1 := HA.out.z
  have f1 := HA.out.f
  have s1 := HA.out.s
  go_wp2
  refine bodyPost_ret (v := .tuple #[.agg #[.int .i64 o1, .int .i64 k1, .int .i64 l1, .int .i64 h1, .string t1, .slice x1 n1 n1], ev]) (by simp [results, Tryz.results52, go_sem, z1]) rfl ?_
  rcases HCS.out with ⟨rfl, f, q, rfl, hl, hr⟩ | ⟨rfl, m, T, v, rfl, hm⟩
  · have hl' : Lies (fun b => w.heap.size < b) w1 f o1 k1 l1 h1 t1 x1 n1 := Lies.mono (fun b _ hb => by unfold Past at hb; simp at hb; omega) f hl
    exact pr_yes (Lies.mono (P := fun b => w.heap.size < b) (fun b _ hb => Nat.le_of_lt hb) f (Lies.kept (kept_six_at (by omega)) f hl')) (hr.below (below_six hlt)) (kept_six HA.out.k)
  · exact pr_no hm (kept_six HA.out.k)

/-- The same, given from each later place on. -/
theorem reads_step (rb : Nat) (ws : List Wd.Word) (e : Int) (hg : Ps.Goods ws) (p : Nat) (hp : p ≤ ws.length) (ih : ∀ q, p < q → q ≤ ws.length → 
    (∀ w, Rdr w rb ws q e → Calls Tryz.prog 83 #[.pointer (some ⟨rb, 0, none⟩)] w (PR rb ws e (Ps.P ws .not q) w)) ∧
    (∀ w, Rdr w rb ws q e → Calls Tryz.prog 68 #[.pointer (some ⟨rb, 0, none⟩)] w (PR rb ws e (Ps.P ws .and q) w)) ∧
    (∀ w, Rdr w rb ws q e → Calls Tryz.prog 52 #[.pointer (some ⟨rb, 0, none⟩)] w (PR rb ws e (Ps.P ws .or q) w))) :
    (∀ w, Rdr w rb ws p e → Calls Tryz.prog 83 #[.pointer (some ⟨rb, 0, none⟩)] w (PR rb ws e (Ps.P ws .not p) w)) ∧
    (∀ w, Rdr w rb ws p e → Calls Tryz.prog 68 #[.pointer (some ⟨rb, 0, none⟩)] w (PR rb ws e (Ps.P ws .and p) w)) ∧
    (∀ w, Rdr w rb ws p e → Calls Tryz.prog 52 #[.pointer (some ⟨rb, 0, none⟩)] w (PR rb ws e (Ps.P ws .or p) w)) := by
  have hnot : ∀ w, Rdr w rb ws p e → Calls Tryz.prog 83 #[.pointer (some ⟨rb, 0, none⟩)] w (PR rb ws e (Ps.P ws .not p) w) := by
    intro w h
    rw [Ps.P_not hg p hp]
    by_cases e33 : Ps.isMark ws p 33 = true
    · rw [if_pos e33]
      have e42 := Ps.isMark_one (d := 42) e33 (by decide)
      have e64 := Ps.isMark_one (d := 64) e33 (by decide)
      have e94 := Ps.isMark_one (d := 94) e33 (by decide)
      have c := (ih (p + 1) (by omega) (Ps.isMark_lt e33)).1
      cases hx : Ps.P ws .not (p + 1) with
      | none => rw [hx] at c; exact single_not_no83 rb ws p e w hg h e42 e64 e94 e33 c
      | some y => obtain ⟨f, q⟩ := y; rw [hx] at c; exact single_not83 rb ws p e w hg h e42 e64 e94 e33 f q c
    · rw [if_neg e33]
      have e33' : Ps.isMark ws p 33 = false := by simpa using e33
      by_cases e40 : Ps.isMark ws p 40 = true
      · rw [if_pos e40]
        have e42 := Ps.isMark_one (d := 42) e40 (by decide)
        have e64 := Ps.isMark_one (d := 64) e40 (by decide)
        have e94 := Ps.isMark_one (d := 94) e40 (by decide)
        have c := (ih (p + 1) (by omega) (Ps.isMark_lt e40)).2.2
        cases hx : Ps.P ws .or (p + 1) with
        | none => rw [hx] at c; exact single_open_no83 rb ws p e w hg h e42 e64 e94 e33' e40 c
        | some y =>
          obtain ⟨f, q⟩ := y
          rw [hx] at c
          simp only
          by_cases e41 : Ps.isMark ws q 41 = true
          · rw [if_pos e41]; exact single_open83 rb ws p e w hg h e42 e64 e94 e33' e40 f q e41 c
          · rw [if_neg e41]; exact single_open_no83b rb ws p e w hg h e42 e64 e94 e33' e40 f q (by simpa using e41) c
      · rw [if_neg e40]
        have e40' : Ps.isMark ws p 40 = false := by simpa using e40
        by_cases e42 : Ps.isMark ws p 42 = true
        · rw [if_pos e42]; exact single_star83 rb ws p e w hg h e42
        · rw [if_neg e42]
          have e42' : Ps.isMark ws p 42 = false := by simpa using e42
          by_cases e94 : Ps.isMark ws p 94 = true
          · rw [if_pos e94]
            have e64 := Ps.isMark_one (d := 64) e94 (by decide)
            cases hx : Ps.name ws (p + 1) with
            | none => exact single_tag_no83 rb ws p e w hg h e42' e64 e94 hx
            | some t => exact single_tag83 rb ws p e w hg h e42' e64 e94 t hx
          · rw [if_neg e94]
            have e94' : Ps.isMark ws p 94 = false := by simpa using e94
            by_cases e64 : Ps.isMark ws p 64 = true
            · rw [if_pos e64]
              cases hx : Ps.key ws (p + 1) with
              | none => exact single_at_no83 rb ws p e w hg h e42' e64 hx
              | some y => obtain ⟨f, q⟩ := y; exact single_at83 rb ws p e w hg h e42' e64 f q hx
            · rw [if_neg e64]
              exact single_none83 rb ws p e w hg h e42' (by simpa using e64) e94' e33' e40'
  have hand : ∀ w, Rdr w rb ws p e → Calls Tryz.prog 68 #[.pointer (some ⟨rb, 0, none⟩)] w (PR rb ws e (Ps.P ws .and p) w) := by
    intro w h
    refine allOf68 rb ws p e w _ h (fun w' h' => row67_83 rb ws p e w' hg h' hp _ (fun hx => ?_) (fun f q hx => ?_) (fun q hq hl => ?_))
    · rw [Ps.P_and hg p hp, hx]
    · rw [Ps.P_and hg p hp, hx]
    · by_cases hpq : p = q
      · subst hpq; exact hnot
      · exact (ih q (by omega) hl).1
  have hor : ∀ w, Rdr w rb ws p e → Calls Tryz.prog 52 #[.pointer (some ⟨rb, 0, none⟩)] w (PR rb ws e (Ps.P ws .or p) w) := by
    intro w h
    refine filter52 rb ws p e w _ h (fun w' h' => row67_68 rb ws p e w' hg h' hp _ (fun hx => ?_) (fun f q hx => ?_) (fun q hq hl => ?_))
    · rw [Ps.P_or hg p hp, hx]
    · rw [Ps.P_or hg p hp, hx]
    · by_cases hpq : p = q
      · subst hpq; exact hand
      · exact (ih q (by omega) hl).2.1
  exact ⟨hnot, hand, hor⟩

/-- What the three functions of the reader do, from each place on. -/
theorem reads_all (rb : Nat) (ws : List Wd.Word) (e : Int) (hg : Ps.Goods ws) (d : Nat) : ∀ p, p ≤ ws.length → ws.length - p ≤ d → 
    (∀ w, Rdr w rb ws p e → Calls Tryz.prog 83 #[.pointer (some ⟨rb, 0, none⟩)] w (PR rb ws e (Ps.P ws .not p) w)) ∧
    (∀ w, Rdr w rb ws p e → Calls Tryz.prog 68 #[.pointer (some ⟨rb, 0, none⟩)] w (PR rb ws e (Ps.P ws .and p) w)) ∧
    (∀ w, Rdr w rb ws p e → Calls Tryz.prog 52 #[.pointer (some ⟨rb, 0, none⟩)] w (PR rb ws e (Ps.P ws .or p) w)) := by
  induction d with
  | zero => exact fun p hp hd => reads_step rb ws e hg p hp (fun q hq hl => absurd hl (by omega))
  | succ d ih => exact fun p hp hd => reads_step rb ws e hg p hp (fun q hq hl => ih q hl (by omega))

end Go.Proofs.YtdeojcodbojmoaaGreatDoor
