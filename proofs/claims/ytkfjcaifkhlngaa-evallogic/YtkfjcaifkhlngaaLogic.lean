/- EvalLogic: and, or, not are those of truths. -/
import Derived.Test.YtkfjcaifkhlngaaBare
import Derived.Test.YtkfjcaifkhlngaaOrdsc
namespace Go.Proofs.Ytkfjcaifkhlngaa
open Go.RowKit
set_option linter.unusedVariables false

set_option maxRecDepth 100000 in
set_option maxHeartbeats 2000000 in
theorem logic_long (a0 a1 a2 : Option Addr) (l0 c0 l1 c1 l2 c2 : Nat) (w : World) (h0 : l0 ≤ maxLen) (h1 : l1 ≤ maxLen) (h2 : l2 ≤ maxLen) (h : 30 < l0 ∨ 30 < l1 ∨ 20 < l2) :
    Calls Try.prog 4 #[.slice a0 l0 c0, .slice a1 l1 c1, .slice a2 l2 c2] w fun e w' => e = .returned (.bool true) ∧ Below w.heap.size w w' := by
  unfold maxLen at h0 h1 h2
  by_cases h9 : 30 < l0
  · clear h
    go_enter Try.func4, Try.ntmps4
    go_wp2_with fail
    refine (begun9 _).mono ?_
    rintro e w1 ⟨rfl, hb1⟩
    go_wp2
    go_ret
    exact ⟨rfl, hb1⟩
  · by_cases h8 : 30 < l1
    · clear h
      go_enter Try.func4, Try.ntmps4
      go_wp2_with fail
      refine (begun9 _).mono ?_
      rintro e w1 ⟨rfl, hb1⟩
      go_wp2
      go_ret
      exact ⟨rfl, hb1⟩
    · have h7 : 20 < l2 := by omega
      clear h
      go_enter Try.func4, Try.ntmps4
      go_wp2_with fail
      refine (begun9 _).mono ?_
      rintro e w1 ⟨rfl, hb1⟩
      go_wp2
      go_ret
      exact ⟨rfl, hb1⟩

set_option maxRecDepth 100000 in
set_option maxHeartbeats 8000000 in
theorem logic_short (a0 a1 a2 : Option Addr) (l0 c0 l1 c1 l2 c2 : Nat) (w : World) (h0 : l0 ≤ 30) (h1 : l1 ≤ 30) (h2 : l2 ≤ 20) (r0 : Reads8 w a0 l0) (r1 : Reads8 w a1 l1) (r2 : Reads8 w a2 l2) :
    Calls Try.prog 4 #[.slice a0 l0 c0, .slice a1 l1 c1, .slice a2 l2 c2] w fun e w' => e = .returned (.bool true) ∧ Below w.heap.size w w' := by
  go_enter Try.func4, Try.ntmps4
  go_wp2_with fail
  refine (begun9 _).mono ?_
  rintro e w1 ⟨rfl, hb1⟩
  replace r0 := reads_below r0 hb1
  replace r1 := reads_below r1 hb1
  replace r2 := reads_below r2 hb1
  go_wp2_with fail
  refine (made10 _ _ _ _).mono ?_
  rintro e W ⟨rfl, hW⟩
  have hp1 : Pick W w1.heap.size := by rw [hW]; exact pick_made r0 (by omega)
  have hbW : Below w1.heap.size w1 W := by rw [hW]; exact (Below.refl _ _).alloc (Nat.le_refl _) _
  have hsW : w1.heap.size < W.heap.size := by rw [hW]; simp
  clear hW r0
  go_wp2_with fail
  refine (filter11 w1.heap.size 4 3 W (by omega) (by omega) hp1).mono ?_
  rintro e w2 ⟨f, o1, k1, l1', h1', t1, x1, n1, rfl, hok1, hdp1, hly1, hw2⟩
  have hb2 : Below w1.heap.size w1 w2 := hbW.trans (hw2.2.below (by omega) (fun k hk => by unfold But; omega))
  have r1' := reads_below r1 hb2
  have r2' := reads_below r2 hb2
  have ly1 : Lies Any w2 f o1 k1 l1' h1' t1 x1 n1 := Lies.mono (P := From W.heap.size) (fun _ _ _ => trivial) f hly1
  clear hp1 hbW hw2 r1 r2 hly1 hsW
  go_wp2_with fail
  refine (made10 _ _ _ _).mono ?_
  rintro e W2 ⟨rfl, hW2⟩
  have hp2 : Pick W2 w2.heap.size := by rw [hW2]; exact pick_made r1' (by omega)
  have hbW2 : Below w2.heap.size w2 W2 := by rw [hW2]; exact (Below.refl _ _).alloc (Nat.le_refl _) _
  have hsW2 : w2.heap.size < W2.heap.size := by rw [hW2]; simp
  clear hW2 r1'
  go_wp2_with fail
  refine (filter11 w2.heap.size 4 3 W2 (by omega) (by omega) hp2).mono ?_
  rintro e w3 ⟨g, o2, k2, l2', h2', t2, x2, n2, rfl, hok2, hdp2, hly2, hw3⟩
  have hb3 : Below w2.heap.size w2 w3 := hbW2.trans (hw3.2.below (by omega) (fun k hk => by unfold But; omega))
  have r2'' := reads_below r2' hb3
  have ly1' := ly1.below hb3
  have ly2 : Lies Any w3 g o2 k2 l2' h2' t2 x2 n2 := Lies.mono (P := From W2.heap.size) (fun _ _ _ => trivial) g hly2
  clear hp2 hbW2 hw3 r2' hly2 hsW2 ly1
  go_wp2_with fail
  refine (made10 _ _ _ _).mono ?_
  rintro e W3 ⟨rfl, hW3⟩
  have hp3 : Pick W3 w3.heap.size := by rw [hW3]; exact pick_made r2'' (by omega)
  have hbW3 : Below w3.heap.size w3 W3 := by rw [hW3]; exact (Below.refl _ _).alloc (Nat.le_refl _) _
  have hsW3 : w3.heap.size < W3.heap.size := by rw [hW3]; simp
  clear hW3 r2''
  go_wp2_with fail
  refine (version12 w3.heap.size W3 hp3).mono ?_
  rintro e w4 ⟨v, al, rfl, hhas, hw4⟩
  have hb4 : Below w3.heap.size w3 w4 := hbW3.trans (hw4.2.below (by omega) (fun k hk => by unfold But; omega))
  have ly1w := ly1'.below hb4
  have ly2w := ly2.below hb4
  have hhasw : Has Any w4 v al := hhas.mono (fun _ _ _ => trivial)
  have hbw4 : Below w.heap.size w w4 := ((hb1.trans (hb2.mono hb1.size)).trans (hb3.mono (Nat.le_trans hb1.size hb2.size))).trans (hb4.mono (Nat.le_trans (Nat.le_trans hb1.size hb2.size) hb3.size))
  clear hp3 hbW3 hw4 hhas hsW3 ly1' ly2 hb1 hb2 hb3 hb4
  unfold Vs.val
  go_wp2_with fail
  obtain ⟨V, hV⟩ : ∃ V, V = (((w4.alloc (.cells #[.int .i64 o1, .int .i64 k1, .int .i64 l1', .int .i64 h1', .string t1, .slice x1 n1 n1] 26)).alloc (.cells #[.int .i64 o2, .int .i64 k2, .int .i64 l2', .int .i64 h2', .string t2, .slice x2 n2 n2] 26)).alloc (.cells #[.int .i64 v.it, .int .i64 v.L, .int .i64 v.R, .int .i64 v.N, .bool v.dead, .slice v.ao v.len v.cap, .string v.tag, .string v.body] 34)) := ⟨_, rfl⟩
  rw [← hV]
  have hbV : Below w4.heap.size w4 V := by rw [hV]; exact (((Below.refl _ _).alloc (Nat.le_refl _) _).alloc (by simp) _).alloc (by simp; omega) _
  have pA : V.cell? ⟨w4.heap.size, 0, none⟩ = some (.int .i64 o1) ∧ V.cell? ⟨w4.heap.size, 1, none⟩ = some (.int .i64 k1) ∧ V.cell? ⟨w4.heap.size, 2, none⟩ = some (.int .i64 l1') ∧ V.cell? ⟨w4.heap.size, 3, none⟩ = some (.int .i64 h1') ∧ V.cell? ⟨w4.heap.size, 4, none⟩ = some (.string t1) ∧ V.cell? ⟨w4.heap.size, 5, none⟩ = some (.slice x1 n1 n1) := by
    rw [hV]
    refine ⟨?_, ?_, ?_, ?_, ?_, ?_⟩ <;> (rw [World.cell?_alloc_past _ _ _ (hn := by simp; omega), World.cell?_alloc_past _ _ _ (hn := by simp)]; simp)
  have pB : V.cell? ⟨w4.heap.size + 1, 0, none⟩ = some (.int .i64 o2) ∧ V.cell? ⟨w4.heap.size + 1, 1, none⟩ = some (.int .i64 k2) ∧ V.cell? ⟨w4.heap.size + 1, 2, none⟩ = some (.int .i64 l2') ∧ V.cell? ⟨w4.heap.size + 1, 3, none⟩ = some (.int .i64 h2') ∧ V.cell? ⟨w4.heap.size + 1, 4, none⟩ = some (.string t2) ∧ V.cell? ⟨w4.heap.size + 1, 5, none⟩ = some (.slice x2 n2 n2) := by
    rw [hV]
    refine ⟨?_, ?_, ?_, ?_, ?_, ?_⟩ <;> (rw [World.cell?_alloc_past _ _ _ (hn := by simp)]; simp)
  have pV : V.cell? ⟨w4.heap.size + 1 + 1, 0, none⟩ = some (.int .i64 v.it) ∧ V.cell? ⟨w4.heap.size + 1 + 1, 1, none⟩ = some (.int .i64 v.L) ∧ V.cell? ⟨w4.heap.size + 1 + 1, 2, none⟩ = some (.int .i64 v.R) ∧ V.cell? ⟨w4.heap.size + 1 + 1, 3, none⟩ = some (.int .i64 v.N) ∧ V.cell? ⟨w4.heap.size + 1 + 1, 4, none⟩ = some (.bool v.dead) ∧ V.cell? ⟨w4.heap.size + 1 + 1, 5, none⟩ = some (.slice v.ao v.len v.cap) ∧ V.cell? ⟨w4.heap.size + 1 + 1, 6, none⟩ = some (.string v.tag) ∧ V.cell? ⟨w4.heap.size + 1 + 1, 7, none⟩ = some (.string v.body) := by
    rw [hV]
    refine ⟨?_, ?_, ?_, ?_, ?_, ?_, ?_, ?_⟩ <;> (rw [World.cell?_alloc_at _ _ _ _ (by simp)]; simp)
  have m2 : w4.heap.size + 1 + 1 < V.heap.size := by rw [hV]; simp
  have m1 : w4.heap.size + 1 < V.heap.size := by omega
  have m0 : w4.heap.size < V.heap.size := by omega
  have lyf := ly1w.below hbV
  have lyg := ly2w.below hbV
  have hv := hhasw.below hbV
  have hbwV : Below w.heap.size w V := hbw4.trans (hbV.mono hbw4.size)
  clear hV ly1w ly2w hhasw hbV hbw4
  have cA := fun w' (hb : Below V.heap.size V w') => lets13 f v al w' o1 k1 l1' h1' t1 x1 n1 (by omega) hok1 (lyf.below hb) (hv.below hb)
  have cB := fun w' (hb : Below V.heap.size V w') => lets13 g v al w' o2 k2 l2' h2' t2 x2 n2 (by omega) hok2 (lyg.below hb) (hv.below hb)
  unfold Vs.val at cA cB
  obtain ⟨ra, hra⟩ : ∃ r, r = f.lets al v.tag := ⟨_, rfl⟩
  obtain ⟨rb, hrb⟩ : ∃ r, r = g.lets al v.tag := ⟨_, rfl⟩
  rw [← hra] at cA
  rw [← hrb] at cB
  have HA : Hid (ra = f.lets al v.tag) := hra
  have HB : Hid (rb = g.lets al v.tag) := hrb
  clear hra hrb
  go_region_held3 (fun w' => (w'.cell? ⟨w4.heap.size, 0, none⟩ = some (.int .i64 o1) ∧ w'.cell? ⟨w4.heap.size, 1, none⟩ = some (.int .i64 k1) ∧ w'.cell? ⟨w4.heap.size, 2, none⟩ = some (.int .i64 l1') ∧ w'.cell? ⟨w4.heap.size, 3, none⟩ = some (.int .i64 h1') ∧ w'.cell? ⟨w4.heap.size, 4, none⟩ = some (.string t1) ∧ w'.cell? ⟨w4.heap.size, 5, none⟩ = some (.slice x1 n1 n1)) ∧ (w'.cell? ⟨w4.heap.size + 1, 0, none⟩ = some (.int .i64 o2) ∧ w'.cell? ⟨w4.heap.size + 1, 1, none⟩ = some (.int .i64 k2) ∧ w'.cell? ⟨w4.heap.size + 1, 2, none⟩ = some (.int .i64 l2') ∧ w'.cell? ⟨w4.heap.size + 1, 3, none⟩ = some (.int .i64 h2') ∧ w'.cell? ⟨w4.heap.size + 1, 4, none⟩ = some (.string t2) ∧ w'.cell? ⟨w4.heap.size + 1, 5, none⟩ = some (.slice x2 n2 n2)) ∧ (w'.cell? ⟨w4.heap.size + 1 + 1, 0, none⟩ = some (.int .i64 v.it) ∧ w'.cell? ⟨w4.heap.size + 1 + 1, 1, none⟩ = some (.int .i64 v.L) ∧ w'.cell? ⟨w4.heap.size + 1 + 1, 2, none⟩ = some (.int .i64 v.R) ∧ w'.cell? ⟨w4.heap.size + 1 + 1, 3, none⟩ = some (.int .i64 v.N) ∧ w'.cell? ⟨w4.heap.size + 1 + 1, 4, none⟩ = some (.bool v.dead) ∧ w'.cell? ⟨w4.heap.size + 1 + 1, 5, none⟩ = some (.slice v.ao v.len v.cap) ∧ w'.cell? ⟨w4.heap.size + 1 + 1, 6, none⟩ = some (.string v.tag) ∧ w'.cell? ⟨w4.heap.size + 1 + 1, 7, none⟩ = some (.string v.body)))
    (go_keep)
    (first
      | (go_at_call_of 13 (o1); refine (cA _ (Below.refl _ _).drew).mono ?_; rintro e w5 ⟨rfl, hb5⟩; have hcl := fun b o (h : b < V.heap.size) => hb5.cell (p := ⟨b, o, none⟩) h)
      | (go_at_call_of 13 (o2); refine (cB _ ((Below.refl _ _).drew.trans hb5)).mono ?_; rintro e w6 ⟨rfl, hb6⟩; have hcl6 := fun b o (h : b < w5.heap.size) => hb6.cell (p := ⟨b, o, none⟩) h; have n0' := Nat.lt_of_lt_of_le m0 hb5.size; have n1' := Nat.lt_of_lt_of_le m1 hb5.size; have n2' := Nat.lt_of_lt_of_le m2 hb5.size))
  have hbV6 : Below V.heap.size V w6 := (Below.refl _ _).drew.trans (hb5.trans (hb6.mono hb5.size))
  have hA6 : Six w6 w4.heap.size 0 o1 k1 l1' h1' t1 x1 n1 := (show Six V w4.heap.size 0 o1 k1 l1' h1' t1 x1 n1 from pA).of (fun i => hbV6.cell (p := ⟨w4.heap.size, i, none⟩) m0)
  have hB6 : Six w6 (w4.heap.size + 1) 0 o2 k2 l2' h2' t2 x2 n2 := (show Six V (w4.heap.size + 1) 0 o2 k2 l2' h2' t2 x2 n2 from pB).of (fun i => hbV6.cell (p := ⟨w4.heap.size + 1, i, none⟩) m1)
  clear cA cB hcl hcl6 hb5 hb6 pA pB n0' n1' n2'
  go_wp2_with fail
  refine region7 _ _ _ _ _ _ _ _ _ _ _ _ _ _ _ _ _ _ _ _ _ _ _ _ _ _ _ _ _ _ _ _ _ _ _ _ _ _ _ _ _ _ _ _ _ _ _ _ _ _ _ _ _ _ _ _ _ _ _ _ _ _ _ _ _ _ _ _ _ _ _ w4.heap.size (w4.heap.size + 1) o1 k1 l1' h1' t1 x1 n1 o2 k2 l2' h2' t2 x2 n2 w6 hA6 hB6 _ ?_
  intro bb w7 hws
  have hb7 : Below V.heap.size V w7 := hbV6.drew.trans (hws.bel.mono hbV6.size)
  have hbw7 : Below w.heap.size w w7 := hbwV.trans (hb7.mono hbwV.size)
  obtain ⟨d0, d0'⟩ := hws.con 0 rfl
  obtain ⟨d1, d1'⟩ := hws.con 1 rfl
  have d2 : Six w7 (bb 2) 0 o1 k1 l1' h1' t1 x1 n1 := hws.con 2 rfl
  obtain ⟨_, _, _, _, _, _, _, _, s3, e3⟩ := hws.con 3 rfl
  obtain ⟨_, _, _, _, _, _, _, _, s4, e4⟩ := hws.con 4 rfl
  obtain ⟨_, _, _, _, _, _, _, _, s5, e5⟩ := hws.con 5 rfl
  obtain ⟨rfl, rfl, rfl, rfl, rfl, rfl, rfl⟩ := e3 rfl
  obtain ⟨rfl, rfl, rfl, rfl, rfl, rfl, rfl⟩ := e4 rfl
  obtain ⟨rfl, rfl, rfl, rfl, rfl, rfl, rfl⟩ := e5 rfl
  have q3 := (hws.blk 3 rfl).2
  have q4 := (hws.blk 4 rfl).2
  have q5 := (hws.blk 5 rfl).2
  have q9 : w4.heap.size + 1 + 1 < w7.heap.size := Nat.lt_of_lt_of_le m2 hb7.size
  have lyf7 := lyf.below hb7
  have lyg7 := lyg.below hb7
  have hv7 := hv.below hb7
  have ly5 : Lies Any w7 (.two 5 f g) 5 0 0 0 ⟨#[]⟩ (some ⟨bb 0, 0, none⟩) 2 := ⟨rfl, rfl, rfl, rfl, rfl, bb 0, o1, k1, l1', h1', t1, x1, n1, o2, k2, l2', h2', t2, x2, n2, rfl, rfl, trivial, d0, lyf7, d0', lyg7⟩
  have ly6 : Lies Any w7 (.two 6 f g) 6 0 0 0 ⟨#[]⟩ (some ⟨bb 1, 0, none⟩) 2 := ⟨rfl, rfl, rfl, rfl, rfl, bb 1, o1, k1, l1', h1', t1, x1, n1, o2, k2, l2', h2', t2, x2, n2, rfl, rfl, trivial, d1, lyf7, d1', lyg7⟩
  have ly7 : Lies Any w7 (.non f) 7 0 0 0 ⟨#[]⟩ (some ⟨bb 2, 0, none⟩) 1 := ⟨rfl, rfl, rfl, rfl, rfl, bb 2, o1, k1, l1', h1', t1, x1, n1, rfl, rfl, trivial, d2, lyf7⟩
  have c5 := fun w' (hb : Below w7.heap.size w7 w') => lets13 (.two 5 f g) v al w' 5 0 0 0 ⟨#[]⟩ (some ⟨bb 0, 0, none⟩) 2 (by simp only [Ev.Ft.deep]; omega) ⟨.inl rfl, hok1, hok2⟩ (ly5.below hb) (hv7.below hb)
  have c6 := fun w' (hb : Below w7.heap.size w7 w') => lets13 (.two 6 f g) v al w' 6 0 0 0 ⟨#[]⟩ (some ⟨bb 1, 0, none⟩) 2 (by simp only [Ev.Ft.deep]; omega) ⟨.inr rfl, hok1, hok2⟩ (ly6.below hb) (hv7.below hb)
  have c7 := fun w' (hb : Below w7.heap.size w7 w') => lets13 (.non f) v al w' 7 0 0 0 ⟨#[]⟩ (some ⟨bb 2, 0, none⟩) 1 (by simp only [Ev.Ft.deep]; omega) hok1 (ly7.below hb) (hv7.below hb)
  have c1' := fun w' (hb : Below w7.heap.size w7 w') => lets_bare v al w' 1 0 0 0 ⟨#[]⟩ true (by omega) (by decide) (hv7.below hb) rfl
  have v5 : Ev.Ft.lets al v.tag (.two 5 f g) = (ra && rb) := by rw [HA.out, HB.out]; rfl
  have v6 : Ev.Ft.lets al v.tag (.two 6 f g) = (ra || rb) := by rw [HA.out, HB.out]; rfl
  have v7 : Ev.Ft.lets al v.tag (.non f) = !ra := by rw [HA.out]; rfl
  rw [v5] at c5
  rw [v6] at c6
  rw [v7] at c7
  unfold Vs.val at c5 c6 c7 c1'
  have pV7 : w7.cell? ⟨w4.heap.size + 1 + 1, 0, none⟩ = some (.int .i64 v.it) ∧ w7.cell? ⟨w4.heap.size + 1 + 1, 1, none⟩ = some (.int .i64 v.L) ∧ w7.cell? ⟨w4.heap.size + 1 + 1, 2, none⟩ = some (.int .i64 v.R) ∧ w7.cell? ⟨w4.heap.size + 1 + 1, 3, none⟩ = some (.int .i64 v.N) ∧ w7.cell? ⟨w4.heap.size + 1 + 1, 4, none⟩ = some (.bool v.dead) ∧ w7.cell? ⟨w4.heap.size + 1 + 1, 5, none⟩ = some (.slice v.ao v.len v.cap) ∧ w7.cell? ⟨w4.heap.size + 1 + 1, 6, none⟩ = some (.string v.tag) ∧ w7.cell? ⟨w4.heap.size + 1 + 1, 7, none⟩ = some (.string v.body) := by
    obtain ⟨a0, a1, a2, a3, a4, a5, a6, a7⟩ := pV
    have hc := fun i => hb7.cell (p := ⟨w4.heap.size + 1 + 1, i, none⟩) m2
    exact ⟨(hc 0).trans a0, (hc 1).trans a1, (hc 2).trans a2, (hc 3).trans a3, (hc 4).trans a4, (hc 5).trans a5, (hc 6).trans a6, (hc 7).trans a7⟩
  obtain ⟨g0, g1, g2, g3, g4, g5, g6, g7⟩ := pV7
  obtain ⟨y30, y31, y32, y33, y34, y35⟩ := s3
  obtain ⟨y40, y41, y42, y43, y44, y45⟩ := s4
  obtain ⟨y50, y51, y52, y53, y54, y55⟩ := s5
  simp only [Nat.zero_add] at y30 y31 y32 y33 y34 y35 y40 y41 y42 y43 y44 y45 y50 y51 y52 y53 y54 y55
  clear hws d0 d0' d1 d1' d2 e3 e4 e5 ly5 ly6 ly7 lyf7 lyg7 hv7 lyf lyg hv hA6 hB6 hbV6 hb7 pV v5 v6 v7 HA HB hok1 hok2 hdp1 hdp2 hbwV m0 m1 m2
  unfold fr7
  generalize bb 0 = u0 at *
  generalize bb 1 = u1 at *
  generalize bb 2 = u2 at *
  generalize bb 3 = u3 at *
  generalize bb 4 = u4 at *
  generalize bb 5 = u5 at *
  cases ra <;> cases rb
  all_goals
    go_wp2_with fail
    refine (c5 _ (Below.refl _ _)).mono ?_
    rintro e w8 ⟨rfl, hb8⟩
    have hcl8 := fun b o (h : b < w7.heap.size) => hb8.cell (p := ⟨b, o, none⟩) h
    go_wp2_with fail
    refine (c6 _ hb8).mono ?_
    rintro e w9 ⟨rfl, hb9⟩
    have hb9' := hb8.trans (hb9.mono hb8.size)
    have hcl9 := fun b o (h : b < w7.heap.size) => hb9'.cell (p := ⟨b, o, none⟩) h
    clear hcl8
    go_wp2_with fail
    refine (c7 _ hb9').mono ?_
    rintro e w10 ⟨rfl, hb10⟩
    have hb10' := hb9'.trans (hb10.mono hb9'.size)
    have hcl10 := fun b o (h : b < w7.heap.size) => hb10'.cell (p := ⟨b, o, none⟩) h
    clear hcl9
    go_wp2_with fail
    refine (c1' _ hb10').mono ?_
    rintro e w11 ⟨rfl, hb11⟩
    have hb11' := hb10'.trans (hb11.mono hb10'.size)
    clear hcl10 c5 c6 c7 c1' hb8 hb9 hb9' hb10 hb10' hb11
    go_wp2
    go_ret
    exact ⟨rfl, hbw7.trans (hb11'.mono hbw7.size)⟩

theorem logic_any (a0 : Option Addr) (l0 c0 : Nat) (a1 : Option Addr) (l1 c1 : Nat) (a2 : Option Addr) (l2 c2 : Nat) (w : World) (r0 : Reads8 w a0 l0) (r1 : Reads8 w a1 l1) (r2 : Reads8 w a2 l2) :
    Calls Try.prog 4 #[.slice a0 l0 c0, .slice a1 l1 c1, .slice a2 l2 c2] w fun e w' => e = .returned (.bool true) ∧ Below w.heap.size w w' := by
  by_cases h : 30 < l0 ∨ 30 < l1 ∨ 20 < l2
  · exact logic_long a0 a1 a2 l0 c0 l1 c1 l2 c2 w r0.1 r1.1 r2.1 h
  · exact logic_short a0 a1 a2 l0 c0 l1 c1 l2 c2 w (by omega) (by omega) (by omega) r0 r1 r2

end Go.Proofs.Ytkfjcaifkhlngaa
