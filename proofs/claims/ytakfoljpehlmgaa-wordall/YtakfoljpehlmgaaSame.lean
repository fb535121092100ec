/- same: are words those of the document? -/
import Derived.Test.YtakfoljpehlmgaaBegun
import Derived.BigQuiet
import Derived.Deep.QuietTactic
namespace Go.Proofs.Ytakfoljpehlmgaa
open Go.RowKit

set_option maxHeartbeats 1000000 in
theorem same_any (ws : List Wd.Word) (va vb : Value) (B1 B2 : Nat) (w : World) (ha : w.ownsRow B1 35 4 va ws.length (cellsOf ws)) (hb : w.ownsRow B2 41 4 vb ws.length (cellsOf ws)) (hl : ws.length ≤ 1000) :
    Calls Try.prog 9 #[va, vb] w fun e w' => e = .returned (.bool true) ∧ Below w.heap.size w w' := by
  by_cases h0 : ws.length = 0
  · obtain ⟨aa, ca, rfl⟩ := own_slice ha
    obtain ⟨ab, cb, rfl⟩ := own_slice hb
    rw [h0]
    clear ha hb h0 hl
    go_enter Try.func9, Try.ntmps9
    go_wp2
    refine wp_loop_rounds 1 ?_
    rw [rounds_succ]
    go_wp2
    go_ret
    exact ⟨rfl, Below.refl _ _⟩
  · obtain ⟨ga, ca, rfl, hga1, hga2, hca⟩ := own_cells ha (by omega)
    obtain ⟨gb, cb, rfl, hgb1, hgb2, hcb⟩ := own_cells hb (by omega)
    clear ha hb
    go_enter Try.func9, Try.ntmps9
    go_wp2
    go_loopw [5] (fun i wr => ∃ k : Nat, k ≤ ws.length ∧ i = .int .i64 k ∧ Below w.heap.size w wr) (fun i _ => ws.length - (intOf i).toNat)
    case atStart => exact ⟨0, by omega, rfl, Below.refl _ _⟩
    case round =>
      obtain ⟨k, hk, rfl, hbel⟩ := hrel
      by_cases hlt : k < ws.length
      · obtain ⟨x, hx⟩ : ∃ x, ws[k]? = some x := ⟨ws[k], List.getElem?_eq_getElem hlt⟩
        have qa : ∀ j, j < 4 → wr.cell? ⟨ga, k * 4 + j, none⟩ = (wordCells x)[j]? := fun j hj => (hbel.cell hga2).trans ((hca _ (by omega)).trans (cellsOf_get ws k j x hx hj))
        have qb : ∀ j, j < 4 → wr.cell? ⟨gb, k * 4 + j, none⟩ = (wordCells x)[j]? := fun j hj => (hbel.cell hgb2).trans ((hcb _ (by omega)).trans (cellsOf_get ws k j x hx hj))
        have a0 : wr.cell? ⟨ga, k * 4, none⟩ = some (.int .i64 x.kind) := qa 0 (by omega)
        have a1 : wr.cell? ⟨ga, k * 4 + 1, none⟩ = some (.string ⟨x.text.toArray⟩) := qa 1 (by omega)
        have a2 : wr.cell? ⟨ga, k * 4 + 2, none⟩ = some (.int .i64 x.num) := qa 2 (by omega)
        have a3 : wr.cell? ⟨ga, k * 4 + 3, none⟩ = some (.int .i64 x.place) := qa 3 (by omega)
        have b0 : wr.cell? ⟨gb, k * 4, none⟩ = some (.int .i64 x.kind) := qb 0 (by omega)
        have b1 : wr.cell? ⟨gb, k * 4 + 1, none⟩ = some (.string ⟨x.text.toArray⟩) := qb 1 (by omega)
        have b2 : wr.cell? ⟨gb, k * 4 + 2, none⟩ = some (.int .i64 x.num) := qb 2 (by omega)
        have b3 : wr.cell? ⟨gb, k * 4 + 3, none⟩ = some (.int .i64 x.place) := qb 3 (by omega)
        clear qa qb hca hcb hx
        go_wp2
        go_quiet (fail)
        go_wp2
        go_roundw
        case rel => exact ⟨k + 1, by omega, by go_num, below_drewN hbel _⟩
        case measure => simp [intOf]; omega
      · clear hca hcb
        go_wp2
        go_ret
        exact ⟨rfl, hbel⟩

end Go.Proofs.Ytakfoljpehlmgaa
