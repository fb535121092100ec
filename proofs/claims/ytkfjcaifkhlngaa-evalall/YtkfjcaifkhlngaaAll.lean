/- EvalAll: what a filter lets through. -/
import Derived.Test.YtkfjcaifkhlngaaBare
import Derived.Test.YtkfjcaifkhlngaaRef
namespace Go.Proofs.Ytkfjcaifkhlngaa
open Go.RowKit
set_option linter.unusedVariables false

set_option maxHeartbeats 1000000 in
theorem all_long (a0 a1 : Option Addr) (l0 c0 l1 c1 : Nat) (w : World) (h0 : l0 ≤ maxLen) (h1 : l1 ≤ maxLen) (h : 40 < l0 ∨ 60 < l1) :
    Calls Try.prog 3 #[.slice a0 l0 c0, .slice a1 l1 c1] w fun e w' => e = .returned (.bool true) ∧ Below w.heap.size w w' := by
  unfold maxLen at h0 h1
  by_cases h9 : 40 < l0
  · clear h
    go_enter Try.func3, Try.ntmps3
    go_wp2_with fail
    refine (begun9 _).mono ?_
    rintro e w1 ⟨rfl, hb1⟩
    go_wp2
    go_ret
    exact ⟨rfl, hb1⟩
  · have h6 : 60 < l1 := by omega
    clear h
    go_enter Try.func3, Try.ntmps3
    go_wp2_with fail
    refine (begun9 _).mono ?_
    rintro e w1 ⟨rfl, hb1⟩
    go_wp2
    go_ret
    exact ⟨rfl, hb1⟩

set_option maxHeartbeats 4000000 in
theorem all_short (a0 a1 : Option Addr) (l0 c0 l1 c1 : Nat) (w : World) (h0 : l0 ≤ 40) (h1 : l1 ≤ 60) (r0 : Reads8 w a0 l0) (r1 : Reads8 w a1 l1) :
    Calls Try.prog 3 #[.slice a0 l0 c0, .slice a1 l1 c1] w fun e w' => e = .returned (.bool true) ∧ Below w.heap.size w w' := by
  go_enter Try.func3, Try.ntmps3
  go_wp2_with fail
  refine (begun9 _).mono ?_
  rintro e w1 ⟨rfl, hb1⟩
  replace r0 := reads_below r0 hb1
  replace r1 := reads_below r1 hb1
  go_wp2_with fail
  refine (made10 _ _ _ _).mono ?_
  rintro e W ⟨rfl, hW⟩
  have hp1 : Pick W w1.heap.size := by rw [hW]; exact pick_made r0 (by omega)
  have hbW : Below w1.heap.size w1 W := by rw [hW]; exact (Below.refl _ _).alloc (Nat.le_refl _) _
  have hsW : w1.heap.size < W.heap.size := by rw [hW]; simp
  clear hW r0
  go_wp2_with fail
  refine (filter11 w1.heap.size 4 4 W (by omega) (by omega) hp1).mono ?_
  rintro e w2 ⟨f, o, k, l, h, t, x, n, rfl, hok, hdp, hly, hw2⟩
  have hb2 : Below w1.heap.size w1 w2 := hbW.trans (hw2.2.below (by omega) (fun k hk => by unfold But; omega))
  clear hp1
  go_wp2_with fail
  obtain ⟨V2, hV2⟩ : ∃ V2, V2 = w2.alloc (.cells #[.int .i64 o, .int .i64 k, .int .i64 l, .int .i64 h, .string t, .slice x n n] 26) := ⟨_, rfl⟩
  rw [← hV2]
  have hb2' : Below w1.heap.size w1 V2 := by rw [hV2]; exact hb2.alloc hb2.size _
  have hsV2 : w2.heap.size < V2.heap.size := by rw [hV2]; simp
  have hsix : Six V2 w2.heap.size 0 o k l h t x n := by rw [hV2]; unfold Six; simp
  have hly2 : Lies (From W.heap.size) V2 f o k l h t x n := Lies.kept (by rw [hV2]; exact (Kept.refl _ w2).alloc _) f hly
  have r2 := reads_below r1 hb2'
  clear hV2 hly hw2 hb2 r1
  refine (made10 _ _ _ _).mono ?_
  rintro e W2 ⟨rfl, hW2⟩
  have hp2 : Pick W2 V2.heap.size := by rw [hW2]; exact pick_made r2 (by omega)
  have hsW2 : V2.heap.size < W2.heap.size := by rw [hW2]; simp
  have hk2 : Kept (But V2.heap.size) V2 W2 := by rw [hW2]; exact (Kept.refl _ V2).alloc _
  clear hW2 r2
  have hly3 : Lies (But V2.heap.size) V2 f o k l h t x n := Lies.mono (fun b hb _ => by unfold But; omega) f hly2
  have hdp6 : f.deep ≤ 6 := by omega
  clear hly2 hdp
  go_wp2_with fail
  go_loopw [7] (fun i wr => ∃ k : Nat, k ≤ 3 ∧ i = .int .i64 k ∧ Pick wr V2.heap.size ∧ Kept (But V2.heap.size) V2 wr) (fun i _ => 3 - (intOf i).toNat)
  case atStart => exact ⟨0, by omega, rfl, hp2, hk2⟩
  case round =>
    obtain ⟨q, hq, rfl, hp3, hk3⟩ := hrel
    by_cases hlt : q < 3
    · clear hp2 hk2
      go_wp2_with fail
      refine (version12 V2.heap.size wr hp3).mono ?_
      rintro e w3 ⟨v, al, rfl, hhas, hw3⟩
      have hk4 : Kept (But V2.heap.size) V2 w3 := hk3.trans hw3.2
      have hs3 : V2.heap.size ≤ w3.heap.size := hk4.size
      have hsix4 : Six w3 w2.heap.size 0 o k l h t x n := hsix.of (fun i => hk4.cell hsV2 (by unfold But; omega))
      have hly4 : Lies Any w3 f o k l h t x n := Lies.mono (P := But V2.heap.size) (fun _ _ _ => trivial) f (Lies.kept hk4 f hly3)
      have hhas4 : Has Any w3 v al := hhas.mono (fun _ _ _ => trivial)
      have hlt4 : w2.heap.size < w3.heap.size := by omega
      have hpb3 : V2.heap.size < w3.heap.size := hw3.1.lt
      have hp4 := hw3.1
      clear hhas hw3 hk3 hp3 hsix hly3
      unfold Vs.val
      go_wp2_with fail
      obtain ⟨V, hV⟩ : ∃ V, V = w3.alloc (.cells #[.int .i64 v.it, .int .i64 v.L, .int .i64 v.R, .int .i64 v.N, .bool v.dead, .slice v.ao v.len v.cap, .string v.tag, .string v.body] 34) := ⟨_, rfl⟩
      rw [← hV]
      have hbV : Below w3.heap.size w3 V := by rw [hV]; exact (Below.refl _ _).alloc (Nat.le_refl _) _
      have p1 : V.cell? ⟨w3.heap.size, 0, none⟩ = some (.int .i64 v.it) ∧ V.cell? ⟨w3.heap.size, 1, none⟩ = some (.int .i64 v.L) ∧ V.cell? ⟨w3.heap.size, 2, none⟩ = some (.int .i64 v.R) ∧ V.cell? ⟨w3.heap.size, 3, none⟩ = some (.int .i64 v.N) ∧ V.cell? ⟨w3.heap.size, 4, none⟩ = some (.bool v.dead) ∧ V.cell? ⟨w3.heap.size, 5, none⟩ = some (.slice v.ao v.len v.cap) ∧ V.cell? ⟨w3.heap.size, 6, none⟩ = some (.string v.tag) ∧ V.cell? ⟨w3.heap.size, 7, none⟩ = some (.string v.body) := by rw [hV]; simp
      have p3 : V.cell? ⟨w2.heap.size, 0, none⟩ = some (.int .i64 o) ∧ V.cell? ⟨w2.heap.size, 1, none⟩ = some (.int .i64 k) ∧ V.cell? ⟨w2.heap.size, 2, none⟩ = some (.int .i64 l) ∧ V.cell? ⟨w2.heap.size, 3, none⟩ = some (.int .i64 h) ∧ V.cell? ⟨w2.heap.size, 4, none⟩ = some (.string t) ∧ V.cell? ⟨w2.heap.size, 5, none⟩ = some (.slice x n n) := by
        obtain ⟨q0, q1, q2, q3, q4, q5⟩ := hsix4
        exact ⟨(hbV.cell hlt4).trans q0, (hbV.cell hlt4).trans q1, (hbV.cell hlt4).trans q2, (hbV.cell hlt4).trans q3, (hbV.cell hlt4).trans q4, (hbV.cell hlt4).trans q5⟩
      have n0 : w3.heap.size < V.heap.size := by rw [hV]; simp
      have n2 : w2.heap.size < V.heap.size := by omega
      have cA := fun w' (hb : Below V.heap.size V w') => lets13 f v al w' o k l h t x n hdp6 hok ((hly4.below hbV).below hb) ((hhas4.below hbV).below hb)
      have cB := fun w' (hb : Below V.heap.size V w') => lets14 f v al w' o k l h t x n hok ((hly4.below hbV).below hb) ((hhas4.below hbV).below hb)
      unfold Vs.val at cA cB
      have hkV : Kept (But V2.heap.size) V2 V := hk4.trans (Kept.of_below hbV)
      have hpV : Pick V V2.heap.size := hp4.below (hbV.mono (by omega))
      clear hV hsix4 hly4 hhas4 hbV hp4 hk4
      generalize f.lets al v.tag = r at *
      go_region_held3 (fun w' => (w'.cell? ⟨w2.heap.size, 0, none⟩ = some (.int .i64 o) ∧ w'.cell? ⟨w2.heap.size, 1, none⟩ = some (.int .i64 k) ∧ w'.cell? ⟨w2.heap.size, 2, none⟩ = some (.int .i64 l) ∧ w'.cell? ⟨w2.heap.size, 3, none⟩ = some (.int .i64 h) ∧ w'.cell? ⟨w2.heap.size, 4, none⟩ = some (.string t) ∧ w'.cell? ⟨w2.heap.size, 5, none⟩ = some (.slice x n n)) ∧ (w'.cell? ⟨w3.heap.size, 0, none⟩ = some (.int .i64 v.it) ∧ w'.cell? ⟨w3.heap.size, 1, none⟩ = some (.int .i64 v.L) ∧ w'.cell? ⟨w3.heap.size, 2, none⟩ = some (.int .i64 v.R) ∧ w'.cell? ⟨w3.heap.size, 3, none⟩ = some (.int .i64 v.N) ∧ w'.cell? ⟨w3.heap.size, 4, none⟩ = some (.bool v.dead) ∧ w'.cell? ⟨w3.heap.size, 5, none⟩ = some (.slice v.ao v.len v.cap) ∧ w'.cell? ⟨w3.heap.size, 6, none⟩ = some (.string v.tag) ∧ w'.cell? ⟨w3.heap.size, 7, none⟩ = some (.string v.body)))
        (go_keep)
        (first
          | (go_at_call 13; refine (cA _ (Below.refl _ _).drew).mono ?_; rintro e w5 ⟨rfl, hb5⟩; have hcl := fun b o (h : b < V.heap.size) => hb5.cell (p := ⟨b, o, none⟩) h)
          | (go_at_call 14; refine (cB _ ((Below.refl _ _).drew.trans hb5)).mono ?_; rintro e w6 ⟨rfl, hb6⟩; have hcl6 := fun b o (h : b < w5.heap.size) => hb6.cell (p := ⟨b, o, none⟩) h; have n0' := Nat.lt_of_lt_of_le n0 hb5.size; have n2' := Nat.lt_of_lt_of_le n2 hb5.size))
      have hb56 : Below V.heap.size V w6 := (Below.refl _ _).drew.trans (hb5.trans (hb6.mono hb5.size))
      have hk6 : Kept (But V2.heap.size) V2 w6 := hkV.trans (Kept.of_below hb56)
      have hp6 : Pick w6 V2.heap.size := hpV.below (hb56.mono (by omega))
      clear cA cB hb5 hb6 hb56 hkV hpV p1 p3
      cases r
      · go_wp2
        go_roundw
        case rel => exact ⟨q + 1, by omega, by go_num, hp6, hk6⟩
        case measure => simp [intOf]; omega
      · go_wp2
        go_roundw
        case rel => exact ⟨q + 1, by omega, by go_num, hp6, hk6⟩
        case measure => simp [intOf]; omega
    · have hb4 : Below w1.heap.size w1 wr := hb2'.trans (hk3.below hb2'.size (fun k hk => by unfold But; have := hb2'.size; omega))
      clear hp2 hk2 hsix hly3 hk3 hp3
      go_wp2
      go_ret
      exact ⟨rfl, hb1.trans (hb4.mono hb1.size)⟩

theorem all_any (a0 : Option Addr) (l0 c0 : Nat) (a1 : Option Addr) (l1 c1 : Nat) (w : World) (r0 : Reads8 w a0 l0) (r1 : Reads8 w a1 l1) :
    Calls Try.prog 3 #[.slice a0 l0 c0, .slice a1 l1 c1] w fun e w' => e = .returned (.bool true) ∧ Below w.heap.size w w' := by
  by_cases h : 40 < l0 ∨ 60 < l1
  · exact all_long a0 a1 l0 c0 l1 c1 w r0.1 r1.1 h
  · exact all_short a0 a1 l0 c0 l1 c1 w (by omega) (by omega) r0 r1

end Go.Proofs.Ytkfjcaifkhlngaa
