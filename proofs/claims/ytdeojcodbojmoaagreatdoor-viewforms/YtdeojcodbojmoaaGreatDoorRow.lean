/- pars.reader: a row of parts with a mark between them. -/
import Derived.Test.YtdeojcodbojmoaaGreatDoorSgn
import Derived.Test.YtdeojcodbojmoaaGreatDoorPsf
namespace Go.Proofs.YtdeojcodbojmoaaGreatDoor
open Go.RowKit
set_option maxRecDepth 100000
set_option linter.unusedVariables false

/-- Blocks made since w, but for one. -/
def Pf (w : World) (fb : Nat) : Nat → Prop := fun b => w.heap.size < b ∧ b ≠ fb

/-- How many words the reader has left. -/
def leftOf (wr : World) (rb : Nat) : Nat := match wr.cell? ⟨rb, 0, none⟩ with
  | some (.slice _ n _) => n
  | _ => 0
def rowM (rb : Nat) (ev : Value) (wr : World) : Nat := match ev with
  | .nilIface => leftOf wr rb + 1
  | _ => 0
theorem leftOf_eq {w : World} {rb : Nat} {ws : List Wd.Word} {i : Nat} {e : Int} (h : Rdr w rb ws i e) : leftOf w rb = ws.length - i := by
  obtain ⟨_, _, _, ao, cap, wb, q, _⟩ := h
  unfold leftOf
  rw [q]

/-- What stands at the head of the loop. -/
structure RowI (w : World) (rb fb : Nat) (ws : List Wd.Word) (p : Nat) (e : Int) (M : Ps.Ft → Ps.Job) (R : Option (Ps.Ft × Nat)) (ev : Value) (wr : World) : Prop where
  at_ : At w rb wr
  lo : w.heap.size < fb
  hi : fb < wr.heap.size
  fz : ∀ o, wr.frozen? ⟨fb, o, none⟩ = false
  is : ∃ o k l h t x n, Six wr fb 0 o k l h t x n ∧
    ((ev = .nilIface ∧ ∃ f q, f.wf ∧ q ≤ ws.length ∧ p ≤ q ∧ Ps.P ws (M f) q = R ∧ Rdr wr rb ws q e ∧ Lies (Pf w fb) wr f o k l h t x n) ∨ (R = none ∧ ∃ m T v, ev = .iface T v ∧ Mis m (.iface T v)))

theorem pr_no {rb : Nat} {ws : List Wd.Word} {e : Int} {w w' : World} {o k l h : Int} {t : ByteArray} {x : Option Addr} {n m : Nat} {T : TypeId} {v : Value} (hm : Mis m (.iface T v)) (hk : Kept (But rb) w w') : PR rb ws e none w (.returned (.tuple #[.agg #[.int .i64 o, .int .i64 k, .int .i64 l, .int .i64 h, .string t, .slice x n n], .iface T v])) w' := ⟨o, k, l, h, t, x, n, m, T, v, rfl, hm, hk⟩
theorem pr_yes {rb : Nat} {ws : List Wd.Word} {e : Int} {w w' : World} {f : Ps.Ft} {q : Nat} {o k l h : Int} {t : ByteArray} {x : Option Addr} {n : Nat} (hl : Lies (Past w.heap.size) w' f o k l h t x n) (hr : Rdr w' rb ws q e) (hk : Kept (But rb) w w') : PR rb ws e (some (f, q)) w (.returned (.tuple #[.agg #[.int .i64 o, .int .i64 k, .int .i64 l, .int .i64 h, .string t, .slice x n n], .nilIface])) w' := ⟨o, k, l, h, t, x, n, rfl, hl, hr, hk⟩

/-- What a part tells, of either kind. -/
theorem pr_cases {rb : Nat} {ws : List Wd.Word} {e : Int} {o : Option (Ps.Ft × Nat)} {w w' : World} {r : Ending} (h : PR rb ws e o w r w') : ∃ o1 k1 l1 h1 t1 x1 n1 ev, r = .returned (.tuple #[.agg #[.int .i64 o1, .int .i64 k1, .int .i64 l1, .int .i64 h1, .string t1, .slice x1 n1 n1], ev]) ∧ Kept (But rb) w w' ∧
    ((ev = .nilIface ∧ ∃ f q, o = some (f, q) ∧ Lies (Past w.heap.size) w' f o1 k1 l1 h1 t1 x1 n1 ∧ Rdr w' rb ws q e) ∨ (o = none ∧ ∃ m T v, ev = .iface T v ∧ Mis m (.iface T v))) := by
  cases o with
  | none =>
    obtain ⟨o, k, l, h, t, x, n, m, T, v, rfl, hm, hk⟩ := h
    exact ⟨o, k, l, h, t, x, n, _, rfl, hk, .inr ⟨rfl, m, T, v, rfl, hm⟩⟩
  | some y =>
    obtain ⟨f, q⟩ := y
    obtain ⟨o, k, l, h, t, x, n, rfl, hl, hr, hk⟩ := h
    exact ⟨o, k, l, h, t, x, n, _, rfl, hk, .inl ⟨rfl, f, q, rfl, hl, hr⟩⟩

theorem kept_six_at {P : Nat → Prop} {W : World} {b : Nat} (hb : ¬ P b) {u0 u1 u2 u3 u4 u5 : Value} : Kept P W ((((((W.setCell ⟨b, 0, none⟩ u0).setCell ⟨b, 1, none⟩ u1).setCell ⟨b, 2, none⟩ u2).setCell ⟨b, 3, none⟩ u3).setCell ⟨b, 4, none⟩ u4).setCell ⟨b, 5, none⟩ u5) := by
  have f : ∀ o : Nat, ∀ k, k < W.heap.size → P k → k ≠ (⟨b, o, none⟩ : Addr).block := fun o k _ hp he => hb ((show k = b from he) ▸ hp)
  exact ((((((Kept.refl P W).setCell (f 0) u0).setCell (f 1) u1).setCell (f 2) u2).setCell (f 3) u3).setCell (f 4) u4).setCell (f 5) u5

/-- The result's block, by what else may have turned. -/
theorem At.step' {w W W' : World} {rb : Nat} {P : Nat → Prop} (h : At w rb W) (h0 : P w.heap.size) (h1 : ∀ k, k < w.heap.size → k ≠ rb → P k) (k : Kept P W W') : At w rb W' :=
  ⟨fun o => (k.cell h.s h0).trans (h.z o), fun o => (k.frozen h.s h0).trans (h.f o), Nat.lt_of_lt_of_le h.s k.size, ⟨k.os.trans h.k.os, k.tape.trans h.k.tape, k.output.trans h.k.output, Nat.le_trans h.k.size k.size, fun i hi hp => (k.block i (Nat.lt_of_lt_of_le hi h.k.size) (h1 i hi hp)).trans (h.k.block i hi hp)⟩⟩

theorem frozen_six (W : World) (b : Nat) (a : Addr) (u0 u1 u2 u3 u4 u5 : Value) : ((((((W.setCell ⟨b, 0, none⟩ u0).setCell ⟨b, 1, none⟩ u1).setCell ⟨b, 2, none⟩ u2).setCell ⟨b, 3, none⟩ u3).setCell ⟨b, 4, none⟩ u4).setCell ⟨b, 5, none⟩ u5).frozen? a = W.frozen? a := by simp

theorem six_of_set (W : World) (b : Nat) (o k l h : Int) (t : ByteArray) (x : Option Addr) (n : Nat) {v0 v1 v2 v3 v4 v5 : Value} (h0 : W.cell? ⟨b, 0, none⟩ = some v0) (h1 : W.cell? ⟨b, 1, none⟩ = some v1) (h2 : W.cell? ⟨b, 2, none⟩ = some v2) (h3 : W.cell? ⟨b, 3, none⟩ = some v3) (h4 : W.cell? ⟨b, 4, none⟩ = some v4) (h5 : W.cell? ⟨b, 5, none⟩ = some v5) :
    Six ((((((W.setCell ⟨b, 0, none⟩ (.int .i64 o)).setCell ⟨b, 1, none⟩ (.int .i64 k)).setCell ⟨b, 2, none⟩ (.int .i64 l)).setCell ⟨b, 3, none⟩ (.int .i64 h)).setCell ⟨b, 4, none⟩ (.string t)).setCell ⟨b, 5, none⟩ (.slice x n n)) b 0 o k l h t x n := by
  refine ⟨?_, ?_, ?_, ?_, ?_, ?_⟩
  · rw [World.cell?_setCell_other _ _ _ _ (by simp), World.cell?_setCell_other _ _ _ _ (by simp), World.cell?_setCell_other _ _ _ _ (by simp), World.cell?_setCell_other _ _ _ _ (by simp), World.cell?_setCell_other _ _ _ _ (by simp)]; exact World.cell?_setCell_same W ⟨b, 0, none⟩ _ (u := v0) (by exact h0)
  · rw [World.cell?_setCell_other _ _ _ _ (by simp), World.cell?_setCell_other _ _ _ _ (by simp), World.cell?_setCell_other _ _ _ _ (by simp), World.cell?_setCell_other _ _ _ _ (by simp)]; exact World.cell?_setCell_same _ ⟨b, 1, none⟩ _ (u := v1) (by rw [World.cell?_setCell_other _ _ _ _ (by simp)]; exact h1)
  · rw [World.cell?_setCell_other _ _ _ _ (by simp), World.cell?_setCell_other _ _ _ _ (by simp), World.cell?_setCell_other _ _ _ _ (by simp)]; exact World.cell?_setCell_same _ ⟨b, 2, none⟩ _ (u := v2) (by rw [World.cell?_setCell_other _ _ _ _ (by simp), World.cell?_setCell_other _ _ _ _ (by simp)]; exact h2)
  · rw [World.cell?_setCell_other _ _ _ _ (by simp), World.cell?_setCell_other _ _ _ _ (by simp)]; exact World.cell?_setCell_same _ ⟨b, 3, none⟩ _ (u := v3) (by rw [World.cell?_setCell_other _ _ _ _ (by simp), World.cell?_setCell_other _ _ _ _ (by simp), World.cell?_setCell_other _ _ _ _ (by simp)]; exact h3)
  · rw [World.cell?_setCell_other _ _ _ _ (by simp)]; exact World.cell?_setCell_same _ ⟨b, 4, none⟩ _ (u := v4) (by rw [World.cell?_setCell_other _ _ _ _ (by simp), World.cell?_setCell_other _ _ _ _ (by simp), World.cell?_setCell_other _ _ _ _ (by simp), World.cell?_setCell_other _ _ _ _ (by simp)]; exact h4)
  · exact World.cell?_setCell_same _ ⟨b, 5, none⟩ _ (u := v5) (by rw [World.cell?_setCell_other _ _ _ _ (by simp), World.cell?_setCell_other _ _ _ _ (by simp), World.cell?_setCell_other _ _ _ _ (by simp), World.cell?_setCell_other _ _ _ _ (by simp), World.cell?_setCell_other _ _ _ _ (by simp)]; exact h5)

set_option maxHeartbeats 8000000 in
theorem row67_83 (rb : Nat) (ws : List Wd.Word) (p : Nat) (e : Int) (w : World) (hg : Ps.Goods ws) (h : Rdr w rb ws p e) (hp : p ≤ ws.length) (R : Option (Ps.Ft × Nat)) (hRn : Ps.P ws .not p = none → R = none) (hRs : ∀ f q, Ps.P ws .not p = some (f, q) → Ps.P ws (.andM f) q = R)
    (cp : ∀ q, p ≤ q → q ≤ ws.length → ∀ w, Rdr w rb ws q e → Calls Tryz.prog 83 #[.pointer (some ⟨rb, 0, none⟩)] w (PR rb ws e (Ps.P ws .not q) w)) :
    Calls Tryz.prog 67 #[.pointer (some ⟨rb, 0, none⟩), .int .i64 5, .string ⟨#[38]⟩, .func (.func 83) #[.pointer (some ⟨rb, 0, none⟩)] #[]] w (PR rb ws e R w) := by
  have hlt := h.lt
  have h0 : Rdr (w.alloc (.cells #[.int .i64 0, .int .i64 0, .int .i64 0, .int .i64 0, .string ⟨#[]⟩, .slice none 0 0] 53)) rb ws p e := h.alloc _
  have HA0 : Hid (At w rb (w.alloc (.cells #[.int .i64 0, .int .i64 0, .int .i64 0, .int .i64 0, .string ⟨#[]⟩, .slice none 0 0] 53))) := At.start w rb
  have c1 := cp p (Nat.le_refl _) hp _ h0
  have hsome := fun f q (hx : Ps.P ws .not p = some (f, q)) => Ps.P_some hg hx (s := p) rfl hp
  have start : ∀ (w1 : World) (r : Ending), PR rb ws e (Ps.P ws .not p) (w.alloc (.cells #[.int .i64 0, .int .i64 0, .int .i64 0, .int .i64 0, .string ⟨#[]⟩, .slice none 0 0] 53)) r w1 → ∃ o k l h t x n ev, r = .returned (.tuple #[.agg #[.int .i64 o, .int .i64 k, .int .i64 l, .int .i64 h, .string t, .slice x n n], ev]) ∧ RowI w rb w1.heap.size ws p e .andM R ev (w1.alloc (.cells #[.int .i64 o, .int .i64 k, .int .i64 l, .int .i64 h, .string t, .slice x n n] 53)) := by
    intro w1 r hr
    cases hx : Ps.P ws .not p with
    | none =>
      rw [hx] at hr
      have hR := hRn hx
      obtain ⟨o, k, l, h, t, x, n, m, T, v, rfl, hm, hk⟩ := hr
      have hat := HA0.out.step hlt hk
      exact ⟨o, k, l, h, t, x, n, _, rfl, hat.alloc _, hat.s, by simp, fun o => by simp, o, k, l, h, t, x, n, by unfold Six; simp, .inr ⟨hR, m, T, v, rfl, hm⟩⟩
    | some y =>
      obtain ⟨f, q⟩ := y
      rw [hx] at hr
      have hR := hRs f q hx
      obtain ⟨a1, a2, a3, a4⟩ := hsome f q hx
      obtain ⟨o, k, l, h, t, x, n, rfl, hl, hrd, hk⟩ := hr
      have hat := HA0.out.step hlt hk
      exact ⟨o, k, l, h, t, x, n, _, rfl, hat.alloc _, hat.s, by simp, fun o => by simp, o, k, l, h, t, x, n, by unfold Six; simp, .inl ⟨rfl, f, q, a1, a3, a4, hR, hrd.alloc _, Lies.kept ((Kept.refl _ w1).alloc _) f (Lies.mono (fun b hb hpb => ⟨by unfold Past at hpb; simp at hpb; omega, by omega⟩) f hl)⟩⟩
  have HST : Hid (∀ (w1 : World) (r : Ending), PR rb ws e (Ps.P ws .not p) (w.alloc (.cells #[.int .i64 0, .int .i64 0, .int .i64 0, .int .i64 0, .string ⟨#[]⟩, .slice none 0 0] 53)) r w1 → ∃ o k l h t x n ev, r = .returned (.tuple #[.agg #[.int .i64 o, .int .i64 k, .int .i64 l, .int .i64 h, .string t, .slice x n n], ev]) ∧ RowI w rb w1.heap.size ws p e .andM R ev (w1.alloc (.cells #[.int .i64 o, .int .i64 k, .int .i64 l, .int .i64 h, .string t, .slice x n n] 53))) := start
  have HCP : Hid (∀ q, p ≤ q → q ≤ ws.length → ∀ w, Rdr w rb ws q e → Calls Tryz.prog 83 #[.pointer (some ⟨rb, 0, none⟩)] w (PR rb ws e (Ps.P ws .not q) w)) := cp
  clear start hsome hRn hRs cp h0 HA0 h
  go_enter Tryz.func67, Tryz.ntmps67
  go_wp2_with fail
  refine c1.mono ?_
  intro r w1 hr
  obtain ⟨o1, k1, l1, h1, t1, x1, n1, ev, rfl, hI⟩ := HST.out w1 r hr
  clear c1 hr HST
  obtain ⟨W, hW⟩ : ∃ W, W = w1.alloc (.cells #[.int .i64 o1, .int .i64 k1, .int .i64 l1, .int .i64 h1, .string t1, .slice x1 n1 n1] 53) := ⟨_, rfl⟩
  obtain ⟨fb, hfb⟩ : ∃ fb, fb = w1.heap.size := ⟨_, rfl⟩
  have HW : Hid (W = w1.alloc (.cells #[.int .i64 o1, .int .i64 k1, .int .i64 l1, .int .i64 h1, .string t1, .slice x1 n1 n1] 53)) := hW
  have HI : Hid (RowI w rb fb ws p e .andM R ev W) := by rw [hW, hfb]; exact hI
  have HFB : Hid (fb = w1.heap.size) := hfb
  clear hW hI hfb
  go_wp2_with fail
  rw [← HW.out, ← HFB.out]
  clear HW HFB
  go_loopw [11] (fun ev wr => RowI w rb fb ws p e .andM R ev wr) (fun ev wr => rowM rb ev wr)
  case atStart => exact HI.out
  case round =>
    obtain ⟨hat, hlo, hhi, hfz, o, k, l, h, t, x, n, six, hcase⟩ := hrel
    clear HI
    have hrb : rb < w.heap.size := hlt
    rcases hcase with ⟨rfl, f, q, hwf, hq, hpq, hP, hrd, hl⟩ | ⟨rfl, m, T, v, rfl, hm⟩
    · have HC : Hid (_ ∧ _ ∧ _ ∧ _ ∧ _ ∧ _ ∧ _) := ⟨hat, hwf, hq, hP, hl, six, hrd⟩
      by_cases hmk : Ps.isMark ws q 38 = true
      · clear hat hwf hq hP hl six
        have c2 := has82 rb ws q e 38 ⟨#[38]⟩ rfl wr hrd
        rw [isM_eq, hmk] at c2
        simp only [if_true] at c2
        have HFZ : Hid _ := hfz
        clear hrd hfz
        go_wp2_with fail
        refine c2.mono ?_
        rintro r wa ⟨rfl, hra, hka⟩
        clear c2
        have hq1 : q + 1 ≤ ws.length := Ps.isMark_lt hmk
        have cn := HCP.out (q + 1) (by omega) hq1 (wa.alloc (.cells #[.int .i64 0, .int .i64 0, .int .i64 0, .int .i64 0, .string ⟨#[]⟩, .slice none 0 0] 53)) (hra.alloc _)
        obtain ⟨nb, hnb⟩ : ∃ nb, nb = wa.heap.size := ⟨_, rfl⟩
        have hHA : At w rb (wa.alloc (.cells #[.int .i64 0, .int .i64 0, .int .i64 0, .int .i64 0, .string ⟨#[]⟩, .slice none 0 0] 53)) := (HC.out.1.step hlt hka).alloc _
        have six1 : Six (wa.alloc (.cells #[.int .i64 0, .int .i64 0, .int .i64 0, .int .i64 0, .string ⟨#[]⟩, .slice none 0 0] 53)) fb 0 o k l h t x n := HC.out.2.2.2.2.2.1.kept (P := But rb) (by unfold But; omega) (hka.alloc _)
        have hL1 : Lies (fun b => w.heap.size < b ∧ b ≠ fb ∧ b ≠ wa.heap.size) wa f o k l h t x n := Lies.mono (fun b hb hpb => ⟨hpb.1, hpb.2, by omega⟩) f (Lies.kept (hka.mono (fun b _ hb => by unfold Pf at hb; unfold But; omega)) f HC.out.2.2.2.2.1)
        have hfz1 : ∀ i, (wa.alloc (.cells #[.int .i64 0, .int .i64 0, .int .i64 0, .int .i64 0, .string ⟨#[]⟩, .slice none 0 0] 53)).frozen? ⟨fb, i, none⟩ = false := fun i => ((hka.alloc _).frozen hhi (by unfold But; omega)).trans (HFZ.out i)
        have sfa : fb < wa.heap.size := Nat.lt_of_lt_of_le hhi hka.size
        have hlw : leftOf wr rb = ws.length - q := leftOf_eq HC.out.2.2.2.2.2.2
        have HQ : Hid (_ ∧ _ ∧ _ ∧ _) := ⟨HC.out.2.1, HC.out.2.2.2.1, hlw, hmk⟩
        have HH : Hid (_ ∧ _ ∧ _ ∧ _) := ⟨hHA, six1, hL1, hfz1⟩
        clear hra hka HC HFZ hHA six1 hL1 hfz1 hlw hmk
        go_wp2_with fail
        refine cn.mono ?_
        intro r wc hr
        obtain ⟨o2, k2, l2, h2, t2, x2, n2, ev2, rfl, hk2, hcs⟩ := pr_cases hr
        have HCS : Hid _ := hcs
        have sac : wa.heap.size < wc.heap.size := by have := hk2.size; simp at this; omega
        have z0 : ∀ i, wc.cell? ⟨wa.heap.size, i, none⟩ = (#[.int .i64 0, .int .i64 0, .int .i64 0, .int .i64 0, .string ⟨#[]⟩, .slice none 0 0] : Array Value)[i]? := fun i => by rw [hk2.cell (by simp) (by unfold But; omega)]; simp
        have y0 : wc.cell? ⟨wa.heap.size, 0, none⟩ = some (.int .i64 0) := z0 0
        have y1 : wc.cell? ⟨wa.heap.size, 1, none⟩ = some (.int .i64 0) := z0 1
        have y2 : wc.cell? ⟨wa.heap.size, 2, none⟩ = some (.int .i64 0) := z0 2
        have y3 : wc.cell? ⟨wa.heap.size, 3, none⟩ = some (.int .i64 0) := z0 3
        have y4 : wc.cell? ⟨wa.heap.size, 4, none⟩ = some (.string ⟨#[]⟩) := z0 4
        have y5 : wc.cell? ⟨wa.heap.size, 5, none⟩ = some (.slice none 0 0) := z0 5
        have yf : ∀ i, wc.frozen? ⟨wa.heap.size, i, none⟩ = false := fun i => by rw [hk2.frozen (by simp) (by unfold But; omega)]; simp
        have HK2 : Hid (Kept (But rb) (wa.alloc (.cells #[.int .i64 0, .int .i64 0, .int .i64 0, .int .i64 0, .string ⟨#[]⟩, .slice none 0 0] 53)) wc) := hk2
        clear z0 cn hr hcs hk2
        obtain ⟨X, hX⟩ : ∃ X, X = (((((wc.setCell ⟨wa.heap.size, 0, none⟩ (.int .i64 o2)).setCell ⟨wa.heap.size, 1, none⟩ (.int .i64 k2)).setCell ⟨wa.heap.size, 2, none⟩ (.int .i64 l2)).setCell ⟨wa.heap.size, 3, none⟩ (.int .i64 h2)).setCell ⟨wa.heap.size, 4, none⟩ (.string t2)).setCell ⟨wa.heap.size, 5, none⟩ (.slice x2 n2 n2) := ⟨_, rfl⟩
        have HX : Hid (X = _) := hX
        simp only []
        iterate 12 (first | go_skip | go_guarded | go_step | go_upon | go_simp)
        rw [← HX.out]
        have sixn : Six X wa.heap.size 0 o2 k2 l2 h2 t2 x2 n2 := by rw [hX]; exact six_of_set wc wa.heap.size o2 k2 l2 h2 t2 x2 n2 y0 y1 y2 y3 y4 y5
        have kX : Kept (fun b => b ≠ wa.heap.size) wc X := by rw [hX]; exact kept_six_at (fun h => h rfl)
        have sX : X.heap.size = wc.heap.size := by rw [hX]; simp
        have six2 : Six X fb 0 o k l h t x n := (HH.out.2.1.kept (P := But rb) (by unfold But; omega) HK2.out).kept (P := fun b => b ≠ wa.heap.size) (by show fb ≠ wa.heap.size; omega) kX
        have fX : ∀ i, X.frozen? ⟨fb, i, none⟩ = false := fun i => (kX.frozen (by omega) (by show fb ≠ wa.heap.size; omega)).trans ((HK2.out.frozen (by simp; omega) (by unfold But; omega)).trans (HH.out.2.2.2 i))
        have HXX : Hid (Kept (fun b => b ≠ wa.heap.size) wc X ∧ X.heap.size = wc.heap.size ∧ Six X fb 0 o k l h t x n ∧ Six X wa.heap.size 0 o2 k2 l2 h2 t2 x2 n2 ∧ ∀ i, X.frozen? ⟨fb, i, none⟩ = false) := ⟨kX, sX, six2, sixn, fX⟩
        obtain ⟨p0, p1, p2, p3, p4, p5⟩ := six2
        obtain ⟨q0, q1, q2, q3, q4, q5⟩ := sixn
        simp only [Nat.zero_add] at p0 p1 p2 p3 p4 p5 q0 q1 q2 q3 q4 q5
        have sXa : wa.heap.size < X.heap.size := by omega
        have sXf : fb < X.heap.size := by omega
        clear kX sX fX hX HX y0 y1 y2 y3 y4 y5 yf
        obtain ⟨V, hV⟩ : ∃ V, V = X.alloc (.cells #[.int .i64 o, .int .i64 k, .int .i64 l, .int .i64 h, .string t, .slice x n n, .int .i64 o2, .int .i64 k2, .int .i64 l2, .int .i64 h2, .string t2, .slice x2 n2 n2] 53) := ⟨_, rfl⟩
        have HV : Hid (V = _) := hV
        iterate 20 (first | go_skip | go_guarded | go_step | go_upon | go_simp)
        rw [← HV.out]
        have kV : Kept Any X V := by rw [hV]; exact (Kept.refl _ X).alloc _
        have sixv : Six V X.heap.size 0 o k l h t x n := by rw [hV]; unfold Six; simp
        have sixw : Six V X.heap.size 6 o2 k2 l2 h2 t2 x2 n2 := by rw [hV]; unfold Six; simp
        have sV : X.heap.size < V.heap.size := by rw [hV]; simp
        have six3 : Six V fb 0 o k l h t x n := HXX.out.2.2.1.kept (P := Any) trivial kV
        have fV : ∀ i, V.frozen? ⟨fb, i, none⟩ = false := fun i => (kV.frozen sXf trivial).trans (HXX.out.2.2.2.2 i)
        have HVV : Hid (Kept Any X V ∧ Six V X.heap.size 0 o k l h t x n ∧ Six V X.heap.size 6 o2 k2 l2 h2 t2 x2 n2 ∧ Six V fb 0 o k l h t x n) := ⟨kV, sixv, sixw, six3⟩
        clear p0 p1 p2 p3 p4 p5 q0 q1 q2 q3 q4 q5 hV HV kV sixv sixw
        obtain ⟨p0, p1, p2, p3, p4, p5⟩ := six3
        simp only [Nat.zero_add] at p0 p1 p2 p3 p4 p5
        have sVf : fb < V.heap.size := by omega
        obtain ⟨Y, hY⟩ : ∃ Y, Y = (((((V.setCell ⟨fb, 0, none⟩ (.int .i64 5)).setCell ⟨fb, 1, none⟩ (.int .i64 0)).setCell ⟨fb, 2, none⟩ (.int .i64 0)).setCell ⟨fb, 3, none⟩ (.int .i64 0)).setCell ⟨fb, 4, none⟩ (.string ⟨#[]⟩)).setCell ⟨fb, 5, none⟩ (.slice (some ⟨X.heap.size, 0, none⟩) 2 2) := ⟨_, rfl⟩
        have HY : Hid (Y = _) := hY
        go_wp2_with fail
        rw [← HY.out]
        have sixy : Six Y fb 0 5 0 0 0 ⟨#[]⟩ (some ⟨X.heap.size, 0, none⟩) 2 := by rw [hY]; exact six_of_set V fb _ _ _ _ _ _ _ p0 p1 p2 p3 p4 p5
        have kY : Kept (fun b => b ≠ fb) V Y := by rw [hY]; exact kept_six_at (fun h => h rfl)
        have sY : Y.heap.size = V.heap.size := by rw [hY]; simp
        have fY : ∀ i, Y.frozen? ⟨fb, i, none⟩ = false := fun i => by rw [hY, frozen_six]; exact fV i
        have kcY : Kept (fun b => b ≠ fb ∧ b ≠ wa.heap.size) wc Y := (HXX.out.1.mono (fun b _ hb => hb.2)).trans ((HVV.out.1.mono (fun _ _ _ => trivial)).trans (kY.mono (fun b _ hb => hb.1)))
        have hatY : At w rb Y := (HH.out.1.step hlt HK2.out).step' (P := fun b => b ≠ fb ∧ b ≠ wa.heap.size) (by constructor <;> omega) (fun b hb _ => by constructor <;> omega) kcY
        have HYY : Hid (At w rb Y ∧ Six Y fb 0 5 0 0 0 ⟨#[]⟩ (some ⟨X.heap.size, 0, none⟩) 2 ∧ fb < Y.heap.size ∧ (∀ i, Y.frozen? ⟨fb, i, none⟩ = false) ∧ Kept (fun b => b ≠ fb ∧ b ≠ wa.heap.size) wc Y ∧ Kept (fun b => b ≠ fb) V Y) := ⟨hatY, sixy, by omega, fY, kcY, kY⟩
        clear hY HY p0 p1 p2 p3 p4 p5 sixy kY fY fV kcY hatY
        rcases HCS.out with ⟨rfl, g, q', hPg, hlg, hrg⟩ | ⟨hPn, m, T, v, rfl, hm⟩
        · refine (within_none _ _).mono ?_
          rintro r w9 ⟨rfl, rfl⟩
          obtain ⟨b1, b2, b3, b4⟩ := Ps.P_some hg hPg (s := q + 1) rfl hq1
          have HG : Hid (RowI w rb fb ws p e .andM R .nilIface w9 ∧ rowM rb .nilIface w9 < rowM rb .nilIface wr) := by
            have hrY : Rdr w9 rb ws q' e := hrg.below (HYY.out.2.2.2.2.1.below (by omega) (fun b hb => by constructor <;> omega))
            refine ⟨⟨HYY.out.1, hlo, HYY.out.2.2.1, HYY.out.2.2.2.1, _, _, _, _, _, _, _, HYY.out.2.1, .inl ⟨rfl, .two 5 f g, q', ⟨by decide, HQ.out.1, b1⟩, b3, by omega, ?_, hrY, ?_⟩⟩, ?_⟩
            · rw [← HQ.out.2.1]; exact (Ps.P_andM_yes hg f g q q' HQ.out.1 HQ.out.2.2.2 hPg).symm
            · have lf : Lies (fun b => w.heap.size < b ∧ b ≠ fb ∧ b ≠ wa.heap.size) wc f o k l h t x n := Lies.kept ((((Kept.refl _ wa).alloc _).trans (HK2.out.mono (fun b _ hb => by unfold But; omega)))) f HH.out.2.2.1
              have lg : Lies (fun b => w.heap.size < b ∧ b ≠ fb ∧ b ≠ wa.heap.size) wc g o2 k2 l2 h2 t2 x2 n2 := Lies.mono (fun b _ hb => by unfold Past at hb; simp at hb; refine ⟨?_, ?_, ?_⟩ <;> omega) g hlg
              have k9 : Kept (fun b => w.heap.size < b ∧ b ≠ fb ∧ b ≠ wa.heap.size) wc w9 := HYY.out.2.2.2.2.1.mono (fun b _ hb => hb.2)
              exact ⟨rfl, rfl, rfl, rfl, rfl, X.heap.size, o, k, l, h, t, x, n, o2, k2, l2, h2, t2, x2, n2, rfl, rfl, by unfold Pf; omega, HVV.out.2.1.kept (P := fun b => b ≠ fb) (by show X.heap.size ≠ fb; omega) HYY.out.2.2.2.2.2, Lies.mono (fun b _ hb => ⟨hb.1, hb.2.1⟩) f (Lies.kept k9 f lf), HVV.out.2.2.1.kept (P := fun b => b ≠ fb) (by show X.heap.size ≠ fb; omega) HYY.out.2.2.2.2.2, Lies.mono (fun b _ hb => ⟨hb.1, hb.2.1⟩) g (Lies.kept k9 g lg)⟩
            · show leftOf w9 rb + 1 < leftOf wr rb + 1
              rw [leftOf_eq hrY, HQ.out.2.2.1]; omega
          clear HQ HH HVV HYY HXX HK2 HCS hlg hrg hPg
          go_wp2
          go_roundw
          case rel => exact HG.out.1
          case measure => exact HG.out.2
        · refine (within_one _ _ _ _).mono ?_
          rintro r w9 ⟨rfl, rfl⟩
          have HG : Hid (RowI w rb fb ws p e .andM R (.iface 124 (.agg #[.string ⟨#[38]⟩, .iface T v])) w9 ∧ rowM rb (.iface 124 (.agg #[.string ⟨#[38]⟩, .iface T v])) w9 < rowM rb .nilIface wr) := by
            refine ⟨⟨HYY.out.1, hlo, HYY.out.2.2.1, HYY.out.2.2.2.1, _, _, _, _, _, _, _, HYY.out.2.1, .inr ⟨?_, _, _, _, rfl, hm.one _⟩⟩, ?_⟩
            · rw [← HQ.out.2.1]; exact Ps.P_andM_bad hg f q HQ.out.2.2.2 hPn
            · show 0 < leftOf wr rb + 1
              omega
          clear HQ HH HVV HYY HXX HK2 HCS hPn hm
          go_wp2
          go_roundw
          case rel => exact HG.out.1
          case measure => exact HG.out.2
      · have hmk' : Ps.isMark ws q 38 = false := by simpa using hmk
        have hRy : R = some (f, q) := by rw [← hP]; exact Ps.P_andM_no f q hmk'
        have HY : Hid (R = some (f, q)) := hRy
        have c2 := has82 rb ws q e 38 ⟨#[38]⟩ rfl wr hrd
        rw [isM_eq, hmk'] at c2
        simp only [Bool.false_eq_true, if_false] at c2
        clear hrd hP hmk hmk' hRy hat hl six hfz
        go_wp2_with fail
        refine c2.mono ?_
        rintro r wa ⟨rfl, hra, hka⟩
        clear c2
        have HA : Hid (At w rb wa) := HC.out.1.step hlt hka
        have sixa := HC.out.2.2.2.2.2.1.kept (P := But rb) (by unfold But; omega) hka
        have HL : Hid (Lies (Pf w fb) wa f o k l h t x n) := Lies.kept (hka.mono (fun b _ hb => by unfold Pf at hb; unfold But; omega)) f HC.out.2.2.2.2.1
        have HR : Hid (Rdr wa rb ws q e) := hra
        obtain ⟨y0, y1, y2, y3, y4, y5⟩ := sixa
        simp only [Nat.zero_add] at y0 y1 y2 y3 y4 y5
        have ne1 : w.heap.size ≠ fb := by omega
        have ne2 : fb ≠ w.heap.size := by omega
        have z1 := HA.out.z
        have f1 := HA.out.f
        have s1 := HA.out.s
        clear hka hra HC
        go_wp2
        refine bodyPost_ret (v := .tuple #[.agg #[.int .i64 o, .int .i64 k, .int .i64 l, .int .i64 h, .string t, .slice x n n], .nilIface]) (by simp [results, Tryz.results67, go_sem, z1]) rfl ?_
        rw [HY.out]
        exact pr_yes (Lies.mono (P := Pf w fb) (fun b _ hb => by unfold Past; unfold Pf at hb; omega) f (Lies.kept (kept_six_at (by unfold Pf; omega)) f HL.out)) (HR.out.below (below_six hlt)) (kept_six HA.out.k)
    · have z1 := hat.z
      have f1 := hat.f
      have s1 := hat.s
      have HA : Hid (At w rb wr) := hat
      have HM : Hid (Mis m (.iface T v)) := hm
      obtain ⟨y0, y1, y2, y3, y4, y5⟩ := six
      simp only [Nat.zero_add] at y0 y1 y2 y3 y4 y5
      have ne1 : w.heap.size ≠ fb := by omega
      have ne2 : fb ≠ w.heap.size := by omega
      clear hat hm
      go_wp2
      refine bodyPost_ret (v := .tuple #[.agg #[.int .i64 o, .int .i64 k, .int .i64 l, .int .i64 h, .string t, .slice x n n], .iface T v]) (by simp [results, Tryz.results67, go_sem, z1]) rfl ?_
      exact pr_no HM.out (kept_six HA.out.k)

end Go.Proofs.YtdeojcodbojmoaaGreatDoor
