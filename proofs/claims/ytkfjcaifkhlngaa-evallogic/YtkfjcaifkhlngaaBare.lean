/- EvalBare: what is let through hangs on attributes and tag alone. -/
import Derived.Test.YtkfjcaifkhlngaaFilt
import Derived.Test.YtkfjcaifkhlngaaBegun
import Derived.BigRegion
namespace Go.Proofs.Ytkfjcaifkhlngaa
open Go.RowKit
set_option linter.unusedVariables false

theorem reads_below {w w' : World} {ao : Option Addr} {len : Nat} (h : Reads8 w ao len) (hb : Below w.heap.size w w') : Reads8 w' ao len := by
  obtain ⟨hl, b, off, zs, hao, hc⟩ := h
  refine ⟨hl, b, off, zs, fun h0 => ⟨(hao h0).1, Nat.lt_of_lt_of_le (hao h0).2 hb.size⟩, fun j hj => ⟨?_, (hc j hj).2⟩⟩
  exact (hb.cell (hao (by omega)).2).trans (hc j hj).1

/-- Numbers that came in stay where other numbers are chosen from. -/
theorem reads_went {pb : Nat} {w w' : World} {ao : Option Addr} {len : Nat} (h : Reads8 w ao len) (hk : Kept (But pb) w w') (hp : w.heap.size ≤ pb) : Reads8 w' ao len := by
  obtain ⟨hl, b, off, zs, hao, hc⟩ := h
  refine ⟨hl, b, off, zs, fun h0 => ⟨(hao h0).1, Nat.lt_of_lt_of_le (hao h0).2 hk.size⟩, fun j hj => ⟨?_, (hc j hj).2⟩⟩
  have hb := (hao (by omega)).2
  exact (hk.cell hb (by unfold But; omega)).trans (hc j hj).1

set_option maxHeartbeats 1000000 in
theorem bare_long (a0 a1 : Option Addr) (l0 c0 l1 c1 : Nat) (w : World) (h0 : l0 ≤ maxLen) (h1 : l1 ≤ maxLen) (h : 30 < l0 ∨ 40 < l1) :
    Calls Try.prog 5 #[.slice a0 l0 c0, .slice a1 l1 c1] w fun e w' => e = .returned (.bool true) ∧ Below w.heap.size w w' := by
  unfold maxLen at h0 h1
  by_cases h9 : 30 < l0
  · clear h
    go_enter Try.func5, Try.ntmps5
    go_wp2_with fail
    refine (begun9 _).mono ?_
    rintro e w1 ⟨rfl, hb1⟩
    go_wp2
    go_ret
    exact ⟨rfl, hb1⟩
  · have h6 : 40 < l1 := by omega
    clear h
    go_enter Try.func5, Try.ntmps5
    go_wp2_with fail
    refine (begun9 _).mono ?_
    rintro e w1 ⟨rfl, hb1⟩
    go_wp2
    go_ret
    exact ⟨rfl, hb1⟩

set_option maxHeartbeats 4000000 in
theorem bare_short (a0 a1 : Option Addr) (l0 c0 l1 c1 : Nat) (w : World) (h0 : l0 ≤ 30) (h1 : l1 ≤ 40) (r0 : Reads8 w a0 l0) (r1 : Reads8 w a1 l1) :
    Calls Try.prog 5 #[.slice a0 l0 c0, .slice a1 l1 c1] w fun e w' => e = .returned (.bool true) ∧ Below w.heap.size w w' := by
  go_enter Try.func5, Try.ntmps5
  go_wp2_with fail
  refine (begun9 _).mono ?_
  rintro e w1 ⟨rfl, hb1⟩
  replace r0 := reads_below r0 hb1
  replace r1 := reads_below r1 hb1
  go_wp2_with fail
  refine (made10 _ _ _ _).mono ?_
  rintro e W ⟨rfl, hW⟩
  have hp1 : Pick W w1.heap.size := by rw [hW]; exact pick_made r0 (by omega)
  have hbW : Below w1.heap.size w1 W := by rw [hW]; exact (Below.refl _ _).alloc (Nat.le_refl _) _
  have hsW : w1.heap.size < W.heap.size := by rw [hW]; simp
  clear hW r0
  go_wp2_with fail
  refine (filter11 w1.heap.size 4 4 W (by omega) (by omega) hp1).mono ?_
  rintro e w2 ⟨f, o, k, l, h, t, x, n, rfl, hok, hdp, hly, hw2⟩
  have hb2 : Below w1.heap.size w1 w2 := hbW.trans (hw2.2.below (by omega) (fun k hk => by unfold But; omega))
  clear hp1
  go_wp2_with fail
  obtain ⟨V2, hV2⟩ : ∃ V2, V2 = w2.alloc (.cells #[.int .i64 o, .int .i64 k, .int .i64 l, .int .i64 h, .string t, .slice x n n] 26) := ⟨_, rfl⟩
  rw [← hV2]
  have hb2' : Below w1.heap.size w1 V2 := by rw [hV2]; exact hb2.alloc hb2.size _
  have hsV2 : w2.heap.size < V2.heap.size := by rw [hV2]; simp
  have hsix : Six V2 w2.heap.size 0 o k l h t x n := by rw [hV2]; unfold Six; simp
  have hly2 : Lies (From W.heap.size) V2 f o k l h t x n := Lies.kept (by rw [hV2]; exact (Kept.refl _ w2).alloc _) f hly
  have r2 := reads_below r1 hb2'
  clear hV2 hly hw2 hb2 r1
  refine (made10 _ _ _ _).mono ?_
  rintro e W2 ⟨rfl, hW2⟩
  have hp2 : Pick W2 V2.heap.size := by rw [hW2]; exact pick_made r2 (by omega)
  have hsW2 : V2.heap.size < W2.heap.size := by rw [hW2]; simp
  have hk2 : Kept (But V2.heap.size) V2 W2 := by rw [hW2]; exact (Kept.refl _ V2).alloc _
  clear hW2 r2
  go_wp2_with fail
  refine (version12 V2.heap.size W2 hp2).mono ?_
  rintro e w3 ⟨v, al, rfl, hhas, hw3⟩
  go_wp2_with fail
  refine (version12 V2.heap.size w3 hw3.1).mono ?_
  rintro e w4 ⟨v', al', rfl, hhas', hw4⟩
  have hs3 : W2.heap.size ≤ w3.heap.size := hw3.2.size
  have hs4 : w3.heap.size ≤ w4.heap.size := hw4.2.size
  have hk4 : Kept (But V2.heap.size) V2 w4 := hk2.trans (hw3.2.trans hw4.2)
  have hsix4 : Six w4 w2.heap.size 0 o k l h t x n := hsix.of (fun i => hk4.cell (by omega) (by unfold But; omega))
  have hly4 : Lies Any w4 f o k l h t x n := Lies.mono (P := But V2.heap.size) (fun _ _ _ => trivial) f (Lies.kept hk4 f (Lies.mono (fun b hb _ => by unfold But; omega) f hly2))
  have hhas4 : Has Any w4 v al := (hhas.kept (hw4.from (by omega))).mono (fun _ _ _ => trivial)
  have hb4 : Below w1.heap.size w1 w4 := hb2'.trans (hk4.below (by have := hb2'.size; omega) (fun k hk => by unfold But; have := hb2'.size; omega))
  have hlt4 : w2.heap.size < w4.heap.size := by omega
  have hb4s := hb4.size
  clear hp2 hk2 hhas hhas' hw3 hw4 hk4 hly2 hsix hb2'
  unfold Vs.val
  go_wp2_with fail
  go_region
  go_wp2_with fail
  obtain ⟨V, hV⟩ : ∃ V, V = ((w4.alloc (.cells #[.int .i64 v.it, .int .i64 v.L, .int .i64 v.R, .int .i64 v.N, .bool v.dead, .slice v.ao v.len v.cap, .string v.tag, .string v.body] 34)).alloc (.cells #[.int .i64 v'.it, .int .i64 v'.L, .int .i64 v'.R, .int .i64 v'.N, .bool v'.dead, .slice v.ao v.len v.cap, .string v.tag, .string v'.body] 34)).drew := ⟨_, rfl⟩
  rw [← hV]
  have hbV : Below w4.heap.size w4 V := by rw [hV]; exact (((Below.refl _ _).alloc (Nat.le_refl _) _).alloc (by simp) _).drew
  have p1 : V.cell? ⟨w4.heap.size, 0, none⟩ = some (.int .i64 v.it) ∧ V.cell? ⟨w4.heap.size, 1, none⟩ = some (.int .i64 v.L) ∧ V.cell? ⟨w4.heap.size, 2, none⟩ = some (.int .i64 v.R) ∧ V.cell? ⟨w4.heap.size, 3, none⟩ = some (.int .i64 v.N) ∧ V.cell? ⟨w4.heap.size, 4, none⟩ = some (.bool v.dead) ∧ V.cell? ⟨w4.heap.size, 5, none⟩ = some (.slice v.ao v.len v.cap) ∧ V.cell? ⟨w4.heap.size, 6, none⟩ = some (.string v.tag) ∧ V.cell? ⟨w4.heap.size, 7, none⟩ = some (.string v.body) := by rw [hV]; simp
  have p2 : V.cell? ⟨w4.heap.size + 1, 0, none⟩ = some (.int .i64 v'.it) ∧ V.cell? ⟨w4.heap.size + 1, 1, none⟩ = some (.int .i64 v'.L) ∧ V.cell? ⟨w4.heap.size + 1, 2, none⟩ = some (.int .i64 v'.R) ∧ V.cell? ⟨w4.heap.size + 1, 3, none⟩ = some (.int .i64 v'.N) ∧ V.cell? ⟨w4.heap.size + 1, 4, none⟩ = some (.bool v'.dead) ∧ V.cell? ⟨w4.heap.size + 1, 5, none⟩ = some (.slice v.ao v.len v.cap) ∧ V.cell? ⟨w4.heap.size + 1, 6, none⟩ = some (.string v.tag) ∧ V.cell? ⟨w4.heap.size + 1, 7, none⟩ = some (.string v'.body) := by rw [hV]; simp
  have p3 : V.cell? ⟨w2.heap.size, 0, none⟩ = some (.int .i64 o) ∧ V.cell? ⟨w2.heap.size, 1, none⟩ = some (.int .i64 k) ∧ V.cell? ⟨w2.heap.size, 2, none⟩ = some (.int .i64 l) ∧ V.cell? ⟨w2.heap.size, 3, none⟩ = some (.int .i64 h) ∧ V.cell? ⟨w2.heap.size, 4, none⟩ = some (.string t) ∧ V.cell? ⟨w2.heap.size, 5, none⟩ = some (.slice x n n) := by
    obtain ⟨q0, q1, q2, q3, q4, q5⟩ := hsix4
    exact ⟨(hbV.cell hlt4).trans q0, (hbV.cell hlt4).trans q1, (hbV.cell hlt4).trans q2, (hbV.cell hlt4).trans q3, (hbV.cell hlt4).trans q4, (hbV.cell hlt4).trans q5⟩
  have n1 : w4.heap.size + 1 < V.heap.size := by rw [hV]; simp
  have n0 : w4.heap.size < V.heap.size := by omega
  have n2 : w2.heap.size < V.heap.size := by omega
  have cA := fun w' (hb : Below V.heap.size V w') => lets13 f v al w' o k l h t x n (by omega) hok ((hly4.below hbV).below hb) ((hhas4.below hbV).below hb)
  have hhasB : Has Any w4 ⟨v'.it, v'.L, v'.R, v'.N, v'.dead, v.ao, v.len, v.cap, v.tag, v'.body⟩ al := hhas4
  have cB := fun w' (hb : Below V.heap.size V w') => lets13 f ⟨v'.it, v'.L, v'.R, v'.N, v'.dead, v.ao, v.len, v.cap, v.tag, v'.body⟩ al w' o k l h t x n (by omega) hok ((hly4.below hbV).below hb) ((hhasB.below hbV).below hb)
  unfold Vs.val at cA cB
  simp only at cA cB
  have hbw : Below w.heap.size w V := (hb1.trans (hb4.mono hb1.size)).trans (hbV.mono (Nat.le_trans hb1.size hb4s))
  clear hV hsix4 hly4 hhas4 hhasB hb4 hbV hok hdp
  generalize f.lets al v.tag = r at *
  go_region_held3 (fun w' => (w'.cell? ⟨w2.heap.size, 0, none⟩ = some (.int .i64 o) ∧ w'.cell? ⟨w2.heap.size, 1, none⟩ = some (.int .i64 k) ∧ w'.cell? ⟨w2.heap.size, 2, none⟩ = some (.int .i64 l) ∧ w'.cell? ⟨w2.heap.size, 3, none⟩ = some (.int .i64 h) ∧ w'.cell? ⟨w2.heap.size, 4, none⟩ = some (.string t) ∧ w'.cell? ⟨w2.heap.size, 5, none⟩ = some (.slice x n n)) ∧ (w'.cell? ⟨w4.heap.size, 0, none⟩ = some (.int .i64 v.it) ∧ w'.cell? ⟨w4.heap.size, 1, none⟩ = some (.int .i64 v.L) ∧ w'.cell? ⟨w4.heap.size, 2, none⟩ = some (.int .i64 v.R) ∧ w'.cell? ⟨w4.heap.size, 3, none⟩ = some (.int .i64 v.N) ∧ w'.cell? ⟨w4.heap.size, 4, none⟩ = some (.bool v.dead) ∧ w'.cell? ⟨w4.heap.size, 5, none⟩ = some (.slice v.ao v.len v.cap) ∧ w'.cell? ⟨w4.heap.size, 6, none⟩ = some (.string v.tag) ∧ w'.cell? ⟨w4.heap.size, 7, none⟩ = some (.string v.body)) ∧ (w'.cell? ⟨w4.heap.size + 1, 0, none⟩ = some (.int .i64 v'.it) ∧ w'.cell? ⟨w4.heap.size + 1, 1, none⟩ = some (.int .i64 v'.L) ∧ w'.cell? ⟨w4.heap.size + 1, 2, none⟩ = some (.int .i64 v'.R) ∧ w'.cell? ⟨w4.heap.size + 1, 3, none⟩ = some (.int .i64 v'.N) ∧ w'.cell? ⟨w4.heap.size + 1, 4, none⟩ = some (.bool v'.dead) ∧ w'.cell? ⟨w4.heap.size + 1, 5, none⟩ = some (.slice v.ao v.len v.cap) ∧ w'.cell? ⟨w4.heap.size + 1, 6, none⟩ = some (.string v.tag) ∧ w'.cell? ⟨w4.heap.size + 1, 7, none⟩ = some (.string v'.body)))
    (go_keep)
    (first
      | (go_at_call_of 13 (v.it); refine (cA _ (Below.refl _ _).drew).mono ?_; rintro e w5 ⟨rfl, hb5⟩; have hcl := fun b o (h : b < V.heap.size) => hb5.cell (p := ⟨b, o, none⟩) h)
      | (go_at_call_of 13 (v'.it); refine (cB _ ((Below.refl _ _).drew.trans hb5)).mono ?_; rintro e w6 ⟨rfl, hb6⟩; have hcl6 := fun b o (h : b < w5.heap.size) => hb6.cell (p := ⟨b, o, none⟩) h; have n0' := Nat.lt_of_lt_of_le n0 hb5.size; have n1' := Nat.lt_of_lt_of_le n1 hb5.size; have n2' := Nat.lt_of_lt_of_le n2 hb5.size))
  go_wp2
  go_ret
  exact ⟨rfl, hbw.drew.trans ((hb5.trans (hb6.mono hb5.size)).mono hbw.size)⟩

theorem bare_any (a0 : Option Addr) (l0 c0 : Nat) (a1 : Option Addr) (l1 c1 : Nat) (w : World) (r0 : Reads8 w a0 l0) (r1 : Reads8 w a1 l1) :
    Calls Try.prog 5 #[.slice a0 l0 c0, .slice a1 l1 c1] w fun e w' => e = .returned (.bool true) ∧ Below w.heap.size w w' := by
  by_cases h : 30 < l0 ∨ 40 < l1
  · exact bare_long a0 a1 l0 c0 l1 c1 w r0.1 r1.1 h
  · exact bare_short a0 a1 l0 c0 l1 c1 w (by omega) (by omega) r0 r1

end Go.Proofs.Ytkfjcaifkhlngaa
