/- Two views held against each other. -/
import Derived.Test.YtdeojcodbojmoaaGreatDoorEqs
namespace Go.Proofs.YtdeojcodbojmoaaGreatDoor
open Go.RowKit
set_option maxRecDepth 100000
set_option linter.unusedVariables false

set_option maxHeartbeats 1000000 in
theorem same15 (P1 P2 : Nat → Prop) (c1 c2 : Vc) (v1 v2 : Vw) (w : World) (l1 : Lv P1 w c1 v1) (l2 : Lv P2 w c2 v2) :
    Calls Tryz.prog 15 #[.agg #[.int .i64 c1.R, .int .i64 c1.Rev, .string c1.f, .slice c1.sa c1.sn c1.sc, .slice c1.ea c1.en c1.ec], .agg #[.int .i64 c2.R, .int .i64 c2.Rev, .string c2.f, .slice c2.sa c2.sn c2.sc, .slice c2.ea c2.en c2.ec]] w fun e w' => e = .returned (.bool (sv v1 v2)) ∧ Below w.heap.size w w' := by
  obtain ⟨R1, V1, f1, a1, n1, z1, b1, m1, y1⟩ := c1
  obtain ⟨R2, V2, f2, a2, n2, z2, b2, m2, y2⟩ := c2
  obtain ⟨r1, g1, t1, x1, u1⟩ := v1
  obtain ⟨r2, g2, t2, x2, u2⟩ := v2
  obtain ⟨e1, e2, e3, s1, e4, e5, k1, k2⟩ := l1
  obtain ⟨e1', e2', e3', s2, e4', e5', k1', k2'⟩ := l2
  simp only at *
  subst e1 e2 e3 e4 e5 e1' e2' e3' e4' e5'
  have hs1 : ∀ w', Below w.heap.size w w' → Calls Tryz.prog 33 #[.slice a1 x1.length z1, .slice a2 x2.length z2] w' fun e w'' => e = .returned (.bool (decide (x1 = x2))) ∧ Below w'.heap.size w' w'' := fun w' hb => heads33 w' P1 P2 a1 a2 z1 z2 x1 x2 (k1.below hb).z (k1'.below hb).z
  have hs2 : ∀ w', Below w.heap.size w w' → Calls Tryz.prog 19 #[.slice b1 u1.length y1, .slice b2 u2.length y2] w' fun e w'' => e = .returned (.bool (decide (u1 = u2))) ∧ Below w'.heap.size w' w'' := fun w' hb => ints19 w' P1 P2 b1 b2 y1 y2 u1 u2 (k2.below hb).z (k2'.below hb).z
  clear k1 k2 k1' k2' s1 s2
  have hbW : ∀ o1 o2 : Obj, Below w.heap.size w ((w.alloc o1).alloc o2) := fun o1 o2 => ((Below.refl _ w).alloc (Nat.le_refl _) _).alloc (by simp) _
  by_cases q1 : R1 = R2
  · have d1 : (R1 == R2) = true := by simpa using q1
    have D1 : Hid ((R1 == R2) = true) := d1
    clear q1
    by_cases q2 : V1 = V2
    · have d2 : (V1 == V2) = true := by simpa using q2
      have D2 : Hid ((V1 == V2) = true) := d2
      clear q2
      by_cases q3 : f1.toList = f2.toList
      · have d3 : (f1.toList == f2.toList) = true := by simpa using q3
        have D3 : Hid ((f1.toList == f2.toList) = true) := d3
        clear q3
        have C1 := fun o1 o2 => hs1 _ (hbW o1 o2)
        have HS : Hid (_ ∧ _) := ⟨hs2, hbW⟩
        clear hs1 hs2 hbW
        go_enter Tryz.func15, Tryz.ntmps15
        go_wp2_with fail
        refine (C1 _ _).mono ?_
        rintro e w1 ⟨rfl, hb1⟩
        clear C1
        have hb0 : Below w.heap.size w w1 := (HS.out.2 _ _).trans (hb1.mono (by simp <;> omega))
        have hsz := hb1.size
        simp at hsz
        have c1 : ∀ i, w1.cell? ⟨w.heap.size, i, none⟩ = (#[.int .i64 R1, .int .i64 V1, .string f1, .slice a1 x1.length z1, .slice b1 u1.length y1] : Array Value)[i]? := fun i => by
          rw [hb1.cell (p := ⟨w.heap.size, i, none⟩) (by simp <;> omega), World.cell?_alloc_past _ _ _ (hn := by simp)]; simp
        have c2 : ∀ i, w1.cell? ⟨w.heap.size + 1, i, none⟩ = (#[.int .i64 R2, .int .i64 V2, .string f2, .slice a2 x2.length z2, .slice b2 u2.length y2] : Array Value)[i]? := fun i => by
          rw [hb1.cell (p := ⟨w.heap.size + 1, i, none⟩) (by simp), World.cell?_alloc_at _ _ _ _ (by simp)]
        have C2 := HS.out.1 w1 hb0
        have HB : Hid (Below w.heap.size w w1) := hb0
        clear HS hb0 hb1
        by_cases q4 : x1 = x2
        · have d4 : decide (x1 = x2) = true := decide_eq_true q4
          have D4 : Hid (decide (x1 = x2) = true) := d4
          clear q4
          go_wp2_with fail
          refine C2.mono ?_
          rintro e w2 ⟨rfl, hb2⟩
          clear C2
          go_wp2
          go_ret
          exact ⟨by rw [sv_last D1.out D2.out D3.out D4.out]; rfl, HB.out.trans (hb2.mono HB.out.size)⟩
        · have d4 : decide (x1 = x2) = false := decide_eq_false q4
          have D4 : Hid (decide (x1 = x2) = false) := d4
          clear q4 C2
          go_wp2
          go_ret
          exact ⟨by rw [sv_no4 D4.out]; rfl, HB.out⟩
      · have d3 : (f1.toList == f2.toList) = false := by simpa using q3
        have D3 : Hid ((f1.toList == f2.toList) = false) := d3
        clear q3 hs1 hs2
        go_enter Tryz.func15, Tryz.ntmps15
        go_wp2
        go_ret
        exact ⟨by rw [sv_no3 D3.out]; rfl, hbW _ _⟩
    · have d2 : (V1 == V2) = false := by simpa using q2
      have D2 : Hid ((V1 == V2) = false) := d2
      clear q2 hs1 hs2
      go_enter Tryz.func15, Tryz.ntmps15
      go_wp2
      go_ret
      exact ⟨by rw [sv_no2 D2.out]; rfl, hbW _ _⟩
  · have d1 : (R1 == R2) = false := by simpa using q1
    have D1 : Hid ((R1 == R2) = false) := d1
    clear q1 hs1 hs2
    go_enter Tryz.func15, Tryz.ntmps15
    go_wp2
    go_ret
    exact ⟨by rw [sv_no1 D1.out]; rfl, hbW _ _⟩

set_option maxHeartbeats 1000000 in
theorem same14 (P1 P2 : Nat → Prop) (c1 c2 : Vc) (v1 v2 : Vw) (w : World) (l1 : Lv P1 w c1 v1) (l2 : Lv P2 w c2 v2) :
    Calls Tryz.prog 14 #[.agg #[.int .i64 c1.R, .int .i64 c1.Rev, .string c1.f, .slice c1.sa c1.sn c1.sc, .slice c1.ea c1.en c1.ec], .agg #[.int .i64 c2.R, .int .i64 c2.Rev, .string c2.f, .slice c2.sa c2.sn c2.sc, .slice c2.ea c2.en c2.ec]] w fun e w' => e = .returned (.bool (sv v1 v2)) ∧ Below w.heap.size w w' := by
  obtain ⟨R1, V1, f1, a1, n1, z1, b1, m1, y1⟩ := c1
  obtain ⟨R2, V2, f2, a2, n2, z2, b2, m2, y2⟩ := c2
  obtain ⟨r1, g1, t1, x1, u1⟩ := v1
  obtain ⟨r2, g2, t2, x2, u2⟩ := v2
  obtain ⟨e1, e2, e3, s1, e4, e5, k1, k2⟩ := l1
  obtain ⟨e1', e2', e3', s2, e4', e5', k1', k2'⟩ := l2
  simp only at *
  subst e1 e2 e3 e4 e5 e1' e2' e3' e4' e5'
  have hs1 : ∀ w', Below w.heap.size w w' → Calls Tryz.prog 31 #[.slice a1 x1.length z1, .slice a2 x2.length z2] w' fun e w'' => e = .returned (.bool (decide (x1 = x2))) ∧ Below w'.heap.size w' w'' := fun w' hb => heads31 w' P1 P2 a1 a2 z1 z2 x1 x2 (k1.below hb).z (k1'.below hb).z
  have hs2 : ∀ w', Below w.heap.size w w' → Calls Tryz.prog 32 #[.slice b1 u1.length y1, .slice b2 u2.length y2] w' fun e w'' => e = .returned (.bool (decide (u1 = u2))) ∧ Below w'.heap.size w' w'' := fun w' hb => ints32 w' P1 P2 b1 b2 y1 y2 u1 u2 (k2.below hb).z (k2'.below hb).z
  clear k1 k2 k1' k2' s1 s2
  have hbW : ∀ o1 o2 : Obj, Below w.heap.size w ((w.alloc o1).alloc o2) := fun o1 o2 => ((Below.refl _ w).alloc (Nat.le_refl _) _).alloc (by simp) _
  by_cases q1 : R1 = R2
  · have d1 : (R1 == R2) = true := by simpa using q1
    have D1 : Hid ((R1 == R2) = true) := d1
    clear q1
    by_cases q2 : V1 = V2
    · have d2 : (V1 == V2) = true := by simpa using q2
      have D2 : Hid ((V1 == V2) = true) := d2
      clear q2
      by_cases q3 : f1.toList = f2.toList
      · have d3 : (f1.toList == f2.toList) = true := by simpa using q3
        have D3 : Hid ((f1.toList == f2.toList) = true) := d3
        clear q3
        have C1 := fun o1 o2 => hs1 _ (hbW o1 o2)
        have HS : Hid (_ ∧ _) := ⟨hs2, hbW⟩
        clear hs1 hs2 hbW
        go_enter Tryz.func14, Tryz.ntmps14
        go_wp2_with fail
        refine (C1 _ _).mono ?_
        rintro e w1 ⟨rfl, hb1⟩
        clear C1
        have hb0 : Below w.heap.size w w1 := (HS.out.2 _ _).trans (hb1.mono (by simp <;> omega))
        have hsz := hb1.size
        simp at hsz
        have c1 : ∀ i, w1.cell? ⟨w.heap.size, i, none⟩ = (#[.int .i64 R1, .int .i64 V1, .string f1, .slice a1 x1.length z1, .slice b1 u1.length y1] : Array Value)[i]? := fun i => by
          rw [hb1.cell (p := ⟨w.heap.size, i, none⟩) (by simp <;> omega), World.cell?_alloc_past _ _ _ (hn := by simp)]; simp
        have c2 : ∀ i, w1.cell? ⟨w.heap.size + 1, i, none⟩ = (#[.int .i64 R2, .int .i64 V2, .string f2, .slice a2 x2.length z2, .slice b2 u2.length y2] : Array Value)[i]? := fun i => by
          rw [hb1.cell (p := ⟨w.heap.size + 1, i, none⟩) (by simp), World.cell?_alloc_at _ _ _ _ (by simp)]
        have C2 := HS.out.1 w1 hb0
        have HB : Hid (Below w.heap.size w w1) := hb0
        clear HS hb0 hb1
        by_cases q4 : x1 = x2
        · have d4 : decide (x1 = x2) = true := decide_eq_true q4
          have D4 : Hid (decide (x1 = x2) = true) := d4
          clear q4
          go_wp2_with fail
          refine C2.mono ?_
          rintro e w2 ⟨rfl, hb2⟩
          clear C2
          go_wp2
          go_ret
          exact ⟨by rw [sv_last D1.out D2.out D3.out D4.out]; rfl, HB.out.trans (hb2.mono HB.out.size)⟩
        · have d4 : decide (x1 = x2) = false := decide_eq_false q4
          have D4 : Hid (decide (x1 = x2) = false) := d4
          clear q4 C2
          go_wp2
          go_ret
          exact ⟨by rw [sv_no4 D4.out]; rfl, HB.out⟩
      · have d3 : (f1.toList == f2.toList) = false := by simpa using q3
        have D3 : Hid ((f1.toList == f2.toList) = false) := d3
        clear q3 hs1 hs2
        go_enter Tryz.func14, Tryz.ntmps14
        go_wp2
        go_ret
        exact ⟨by rw [sv_no3 D3.out]; rfl, hbW _ _⟩
    · have d2 : (V1 == V2) = false := by simpa using q2
      have D2 : Hid ((V1 == V2) = false) := d2
      clear q2 hs1 hs2
      go_enter Tryz.func14, Tryz.ntmps14
      go_wp2
      go_ret
      exact ⟨by rw [sv_no2 D2.out]; rfl, hbW _ _⟩
  · have d1 : (R1 == R2) = false := by simpa using q1
    have D1 : Hid ((R1 == R2) = false) := d1
    clear q1 hs1 hs2
    go_enter Tryz.func14, Tryz.ntmps14
    go_wp2
    go_ret
    exact ⟨by rw [sv_no1 D1.out]; rfl, hbW _ _⟩

end Go.Proofs.YtdeojcodbojmoaaGreatDoor
