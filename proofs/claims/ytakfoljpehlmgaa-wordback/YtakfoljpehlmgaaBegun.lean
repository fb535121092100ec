/- begun: does word do anything yet? -/
import Derived.Test.YtakfoljpehlmgaaAll
namespace Go.Proofs.Ytakfoljpehlmgaa
open Go.RowKit

/-- An owned row that is not empty: where it lies, and its cells. -/
theorem own_cells {w : World} {base n : Nat} {e : TypeId} {v : Value} {xs : List Value} (h : w.ownsRow base e 4 v n xs) (hn : 0 < n) :
    ∃ g cap, v = .slice (some ⟨g, 0, none⟩) n cap ∧ base ≤ g ∧ g < w.heap.size ∧ ∀ j, j < n * 4 → w.cell? ⟨g, j, none⟩ = xs[j]? := by
  rcases own_form h with ⟨_, h0⟩ | ⟨g, cap, rfl⟩
  · omega
  · have := h.lt g rfl
    exact ⟨g, cap, rfl, this.1, this.2, fun j hj => h.cellAt j hj⟩

theorem all_a : Wd.all [64, 49, 32, 61, 32, 53] = ([⟨3, [64], 0, 0⟩, ⟨2, [], 1, 1⟩, ⟨3, [61], 0, 3⟩, ⟨2, [], 5, 5⟩], 0, true) := by rfl
theorem all_b : Wd.all [97, 32, 63] = ([], 2, false) := by rfl

set_option maxHeartbeats 400000 in
theorem begun_any (w : World) : Calls Try.prog 6 #[] w fun e w' => e = .returned (.bool true) ∧ Below w.heap.size w w' := by
  have c1 := fun w => all_any ⟨#[64, 49, 32, 61, 32, 53]⟩ w (by decide)
  have c2 := fun w => all_any ⟨#[97, 32, 63]⟩ w (by decide)
  simp only [all_a, all_b] at c1 c2
  go_enter Try.func6, Try.ntmps6
  go_wp2_with fail
  refine (c1 _).mono ?_
  rintro e w1 ⟨v, rfl, hown, hb1⟩
  obtain ⟨g, cap, rfl, hg1, hg2, hcell⟩ := own_cells hown (by simp)
  go_wp2_with fail
  refine (c2 _).mono ?_
  rintro e w2 ⟨v2, rfl, hown2, hb2⟩
  have q0 : w2.cell? ⟨g, 0, none⟩ = some (.int .i64 3) := (hb2.cell hg2).trans (hcell 0 (by simp))
  have q1 : w2.cell? ⟨g, 1, none⟩ = some (.string ⟨#[64]⟩) := (hb2.cell hg2).trans (hcell 1 (by simp))
  have q4 : w2.cell? ⟨g, 4, none⟩ = some (.int .i64 2) := (hb2.cell hg2).trans (hcell 4 (by simp))
  have q6 : w2.cell? ⟨g, 6, none⟩ = some (.int .i64 1) := (hb2.cell hg2).trans (hcell 6 (by simp))
  have q15 : w2.cell? ⟨g, 15, none⟩ = some (.int .i64 5) := (hb2.cell hg2).trans (hcell 15 (by simp))
  have hb := hb1.trans (hb2.mono hb1.size)
  clear c1 c2 hcell hown hown2 hb1 hb2
  go_wp2
  go_ret
  exact ⟨rfl, hb⟩

end Go.Proofs.Ytakfoljpehlmgaa
