/- norm.ofTwo: the boxes of two. -/
import Derived.Test.YtflpdekifkcfkabLeafs
import Derived.Test.YtflpdekifkcfkabMeets
namespace Go.Proofs.Ytflpdekifkcfkab
open Go.RowKit
set_option linter.unusedVariables false

/-- Rows that may be. -/
def Fits (n : Nat) (r : Option (List Ev.Bx)) : Prop := ∀ l, r = some l → l.length ≤ 16 ∧ ∀ x ∈ l, x.ok n

/-- slices.Concat of two rows of boxes. -/
theorem concat_rows (tb : Nat) (l1 l2 : List Ev.Bx) (a1 a2 : Option Addr) (c1 c2 B : Nat) (w : World) (h0 : w.cell? ⟨tb, 0, none⟩ = some (.slice a1 l1.length c1)) (h1 : w.cell? ⟨tb, 1, none⟩ = some (.slice a2 l2.length c2))
    (r1 : RowB B w (.slice a1 l1.length c1) l1) (r2 : RowB B w (.slice a2 l2.length c2) l2) (hB : B ≤ w.heap.size) (n1 : l1.length ≤ 16) (n2 : l2.length ≤ 16) :
    Calls Try.prog 58 #[.slice (some ⟨tb, 0, none⟩) 2 2] w fun e w' => ∃ v, e = .returned v ∧ RowB B w' v (l1 ++ l2) ∧ Below w.heap.size w w' := by
  obtain ⟨e1, m1, t1, s1⟩ := r1.src
  obtain ⟨e2, m2, t2, s2⟩ := r2.src
  refine (concat60 tb a1 a2 l1.length c1 l2.length c2 _ _ w h0 h1 s1 s2 (by omega) (by omega)).mono ?_
  rintro e w' ⟨v, rfl, ho, hb⟩
  refine ⟨v, rfl, ⟨e1 ++ e2, by rw [List.map_append, m1, m2], fun e he => ?_, ?_⟩, hb⟩
  · rw [List.mem_append] at he
    rcases he with he | he
    · exact (t1 e he).below hb
    · exact (t2 e he).below hb
  · rw [cellsB_append, List.length_append]
    exact own_mono ho hB

set_option maxHeartbeats 4000000 in
theorem two45 (d : Int) (turned each : Bool) (w : World) (b : Nat) (o1 k1 l1 h1 : Int) (t1 : ByteArray) (x1 : Option Addr) (n1 : Nat) (s : Six w b 0 o1 k1 l1 h1 t1 x1 n1) (o2 k2 l2 h2 : Int) (t2 : ByteArray) (x2 : Option Addr) (n2 : Nat) (s' : Six w b 6 o2 k2 l2 h2 t2 x2 n2)
    (ra rb : Option (List Ev.Bx)) (n m : Nat) (fa : Fits n ra) (fb : Fits m rb) (hn : n ≤ 500) (hm : m ≤ 500)
    (c1 : ∀ w', Below w.heap.size w w' → Calls Try.prog 37 #[.agg #[.int .i64 o1, .int .i64 k1, .int .i64 l1, .int .i64 h1, .string t1, .slice x1 n1 n1], .bool turned, .int .i64 d] w' (RPost w' ra))
    (c2 : ∀ w', Below w.heap.size w w' → Calls Try.prog 37 #[.agg #[.int .i64 o2, .int .i64 k2, .int .i64 l2, .int .i64 h2, .string t2, .slice x2 n2 n2], .bool turned, .int .i64 d] w' (RPost w' rb)) :
    Calls Try.prog 49 #[.slice (some ⟨b, 0, none⟩) 2 2, .bool turned, .bool each, .int .i64 d] w (RPost w (Ev.both each ra rb)) := by
  have hb0 := s.lt
  obtain ⟨q0, q1, q2, q3, q4, q5⟩ := s
  obtain ⟨u0, u1, u2, u3, u4, u5⟩ := s'
  simp only [Nat.zero_add] at q1 q2 q3 q4 q5
  have cc1 := c1 w (Below.refl _ _)
  clear c1
  cases ra with
  | none =>
    have e : Ev.both each none rb = none := rfl
    rw [e]
    clear e c2
    unfold RPost at cc1 ⊢
    simp only [Option.isSome_none, Option.getD_none] at cc1 ⊢
    go_enter Try.func49, Try.ntmps49
    go_wp2_with fail
    refine cc1.mono ?_
    rintro e w1 ⟨v1, rfl, r1, hb1⟩
    obtain ⟨a1, z1, rfl⟩ := r1.slice
    go_wp2
    go_ret2
    exact ⟨_, rfl, RowB.nil _ _, hb1⟩
  | some la =>
    obtain ⟨lenA, okA⟩ := fa la rfl
    cases rb with
    | none =>
      have e : Ev.both each (some la) none = none := rfl
      rw [e]
      clear e
      unfold RPost at cc1 c2 ⊢
      simp only [Option.isSome_none, Option.getD_none, Option.isSome_some, Option.getD_some] at cc1 c2 ⊢
      go_enter Try.func49, Try.ntmps49
      go_wp2_with fail
      refine cc1.mono ?_
      rintro e w1 ⟨v1, rfl, r1, hb1⟩
      obtain ⟨a1, z1, rfl⟩ := r1.slice
      have hcl : ∀ i, w1.cell? ⟨b, i, none⟩ = w.cell? ⟨b, i, none⟩ := fun i => hb1.cell hb0
      go_wp2_with fail
      refine (c2 _ hb1).mono ?_
      rintro e w2 ⟨v2, rfl, r2, hb2⟩
      obtain ⟨a2, z2, rfl⟩ := r2.slice
      have hb := hb1.trans (hb2.mono hb1.size)
      clear hcl
      go_wp2
      go_ret2
      exact ⟨_, rfl, RowB.nil _ _, hb⟩
    | some lb =>
      obtain ⟨lenB, okB⟩ := fb lb rfl
      have e : Ev.both each (some la) (some lb) = Ev.few (if each = true then Ev.meets la lb else la ++ lb) := rfl
      rw [e]
      clear e
      obtain ⟨L, hL⟩ : ∃ L, L = (if each = true then Ev.meets la lb else la ++ lb) := ⟨_, rfl⟩
      rw [← hL]
      have HL : Hid (L = (if each = true then Ev.meets la lb else la ++ lb)) := hL
      have hLl : L.length ≤ 10000 := by
        rw [hL]
        have m1 := length_meets la lb
        have m2 : la.length * lb.length ≤ 16 * 16 := Nat.mul_le_mul lenA lenB
        split
        · omega
        · simp; omega
      clear hL
      unfold RPost at cc1 c2 ⊢
      simp only [Option.isSome_some, Option.getD_some] at cc1 c2
      obtain ⟨R, hR⟩ : ∃ R, R = Ev.few L := ⟨_, rfl⟩
      rw [← hR]
      have HR : Hid (R = Ev.few L) := hR
      clear hR
      go_enter Try.func49, Try.ntmps49
      go_wp2_with fail
      refine cc1.mono ?_
      rintro e w1 ⟨v1, rfl, r1, hb1⟩
      obtain ⟨a1, z1, rfl⟩ := r1.slice
      have hcl : ∀ i, w1.cell? ⟨b, i, none⟩ = w.cell? ⟨b, i, none⟩ := fun i => hb1.cell hb0
      go_wp2_with fail
      refine (c2 _ hb1).mono ?_
      rintro e w2 ⟨v2, rfl, r2, hb2⟩
      obtain ⟨a2, z2, rfl⟩ := r2.slice
      have hb := hb1.trans (hb2.mono hb1.size)
      have R1 := (r1.below hb2)
      have R2 := r2.mono hb1.size
      have hbs := hb.size
      obtain ⟨W, hW⟩ : ∃ W, W = w2.alloc (.cells #[.slice a1 la.length z1, .slice a2 lb.length z2] 32) := ⟨_, rfl⟩
      have hbW : Below w2.heap.size w2 W := by rw [hW]; exact (Below.refl _ _).alloc (Nat.le_refl _) _
      have cc := concat_rows w2.heap.size la lb a1 a2 z1 z2 w.heap.size W (by rw [hW]; simp) (by rw [hW]; simp) (R1.below hbW) (R2.below hbW) (Nat.le_trans hbs hbW.size) lenA lenB
      rw [hW] at cc
      have HW : Hid (W = w2.alloc (.cells #[.slice a1 la.length z1, .slice a2 lb.length z2] 32)) := hW
      clear hcl r1 r2 hb1 hb2 c2 cc1 hW
      go_wp2_with fail
      refine cc.mono ?_
      rintro e w3 ⟨v3, rfl, r3, hb3⟩
      rw [← HW.out] at hb3
      have hb23 : Below w2.heap.size w2 w3 := hbW.trans (hb3.mono hbW.size)
      have hbw3 : Below w.heap.size w w3 := hb.trans (hb23.mono hbs)
      obtain ⟨a3, z3, rfl⟩ := r3.slice
      have hb3s := hbw3.size
      cases each with
      | false =>
        simp only [Bool.false_eq_true, if_false] at HL
        rw [← HL.out] at r3
        rw [← HL.out]
        clear cc HW R1 R2 hbW hb3 hb23 hb HL
        by_cases h16 : 16 < L.length
        · have hf : Hid (R = none) := by rw [HR.out]; unfold Ev.few; rw [if_pos h16]; exact rfl
          clear HR
          go_wp2
          go_ret2
          rw [hf.out]
          exact ⟨_, rfl, RowB.nil _ _, hbw3⟩
        · have hf : Hid (R = some L) := by rw [HR.out]; unfold Ev.few; rw [if_neg h16]; exact rfl
          clear HR
          go_wp2
          go_ret2
          rw [hf.out]
          exact ⟨_, rfl, r3, hbw3⟩
      | true =>
        simp only [if_true] at HL
        have cm := meets61 la lb a1 a2 z1 z2 n m w.heap.size w.heap.size w3 (R1.below hb23) (R2.below hb23) okA okB hn hm lenA lenB
        rw [← HL.out] at cm
        clear cc HW R1 R2 hbW hb3 hb23 hb HL r3
        go_wp2_with fail
        refine cm.mono ?_
        rintro e w4 ⟨v4, rfl, r4, hb4⟩
        have r4' := r4.mono hb3s
        have hbw4 : Below w.heap.size w w4 := hbw3.trans (hb4.mono hb3s)
        obtain ⟨a4, z4, rfl⟩ := r4.slice
        clear cm r4 hb4 hbw3
        by_cases h16 : 16 < L.length
        · have hf : Hid (R = none) := by rw [HR.out]; unfold Ev.few; rw [if_pos h16]; exact rfl
          clear HR
          go_wp2
          go_ret2
          rw [hf.out]
          exact ⟨_, rfl, RowB.nil _ _, hbw4⟩
        · have hf : Hid (R = some L) := by rw [HR.out]; unfold Ev.few; rw [if_neg h16]; exact rfl
          clear HR
          go_wp2
          go_ret2
          rw [hf.out]
          exact ⟨_, rfl, r4', hbw4⟩

end Go.Proofs.Ytflpdekifkcfkab
