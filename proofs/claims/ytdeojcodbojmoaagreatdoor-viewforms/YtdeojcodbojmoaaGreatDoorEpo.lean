/- view.Epochs of the two views that begun asks of. -/
import Derived.Test.YtdeojcodbojmoaaGreatDoorBeg
namespace Go.Proofs.YtdeojcodbojmoaaGreatDoor
open Go.RowKit
set_option maxRecDepth 100000
set_option linter.unusedVariables false

theorem make2 (W : World) : (Instr.makeSlice 23 (.int .i64 2) (.int .i64 2)).run Tryz.prog W = .ok (.slice (some ⟨W.heap.size, 0, none⟩) 2 2) (W.alloc (.cells #[.int .i64 0, .int .i64 0] 3)) := by
  obtain ⟨i0, hi, hz0, hz1, hz2⟩ := info_parts Tryz.info3
  have h := run_make (P := Tryz.prog) W 23 3 i0 (.int .i64 0) Tryz.underlying23 hi hz0 .i64 .i64 2 2 (by omega) (by omega) (by rw [hz2]; decide) (by omega)
  have e : madeCells (Value.int .i64 0).cells (Int.toNat 2 * 1) = #[.int .i64 0, .int .i64 0] := by kernel_rfl
  rw [hz1, e] at h
  exact h

set_option maxHeartbeats 4000000 in
theorem epochs_begun (g oc eb eo ec : Nat) (x0 x1 y0 y1 : Int) (fx fy : ByteArray) (xa ya : Option Addr) (xn xc yn yc : Nat) (w : World) (hec : 2 ≤ ec)
    (p0 : w.cell? ⟨g, 0, none⟩ = some (.int .i64 x0)) (p1 : w.cell? ⟨g, 1, none⟩ = some (.int .i64 x1)) (p2 : w.cell? ⟨g, 2, none⟩ = some (.string fx)) (p3 : w.cell? ⟨g, 3, none⟩ = some (.slice xa xn xc)) (p4 : w.cell? ⟨g, 4, none⟩ = some (.slice (some ⟨eb, eo, none⟩) 2 ec))
    (q0 : w.cell? ⟨g, 5, none⟩ = some (.int .i64 y0)) (q1 : w.cell? ⟨g, 6, none⟩ = some (.int .i64 y1)) (q2 : w.cell? ⟨g, 7, none⟩ = some (.string fy)) (q3 : w.cell? ⟨g, 8, none⟩ = some (.slice ya yn yc)) (q4 : w.cell? ⟨g, 9, none⟩ = some (.slice none 0 0))
    (e0 : w.cell? ⟨eb, eo, none⟩ = some (.int .i64 3)) (e1 : w.cell? ⟨eb, eo + 1, none⟩ = some (.int .i64 1)) :
    Calls Tryz.prog 20 #[.slice (some ⟨g, 0, none⟩) 2 oc, .int .i64 2] w fun r w' => r = .returned (.slice (some ⟨w.heap.size, 0, none⟩) 2 2) ∧ w'.cell? ⟨w.heap.size, 0, none⟩ = some (.int .i64 3) ∧ w'.cell? ⟨w.heap.size, 1, none⟩ = some (.int .i64 1) ∧ Below w.heap.size w w' := by
  have hg : g < w.heap.size := World.block_lt_of_cell? w ⟨g, 0, none⟩ p0
  have he : eb < w.heap.size := World.block_lt_of_cell? w ⟨eb, eo, none⟩ e0
  have hmk := make2
  go_enter Tryz.func20, Tryz.ntmps20
  go_wp2_with fail
  refine wp_loop_rounds 3 ?_
  rw [rounds_succ]
  go_wp2_with fail
  refine wp_loop_rounds 3 ?_
  rw [rounds_succ]
  go_wp2_with fail
  rw [rounds_succ]
  go_wp2_with fail
  rw [rounds_succ]
  go_wp2_with fail
  rw [rounds_succ]
  go_wp2_with fail
  refine wp_loop_rounds 1 ?_
  rw [rounds_succ]
  go_wp2_with fail
  rw [rounds_succ]
  go_wp2
  go_ret
  refine ⟨rfl, ?_, ?_, ?_⟩
  · rw [World.cell?_alloc_past _ _ _ (hn := by simp <;> omega), World.cell?_alloc_past _ _ _ (hn := by simp), World.cell?_alloc_at _ _ _ _ rfl]; rfl
  · rw [World.cell?_alloc_past _ _ _ (hn := by simp <;> omega), World.cell?_alloc_past _ _ _ (hn := by simp), World.cell?_alloc_at _ _ _ _ rfl]; rfl
  · exact (((Below.refl _ w).alloc (Nat.le_refl _) _).alloc (by simp) _).alloc (by simp <;> omega) _

end Go.Proofs.YtdeojcodbojmoaaGreatDoor
