/- A filter's text out of numbers. -/
import Derived.Test.YtdeojcodbojmoaaGreatDoorHdb
namespace Go.Proofs.YtdeojcodbojmoaaGreatDoor
open Go.RowKit
set_option maxRecDepth 100000
set_option linter.unusedVariables false

/-- The ten texts. -/
def wants : List ByteArray := [⟨#[42]⟩, ⟨#[94, 97]⟩, ⟨#[94, 98]⟩, ⟨#[64, 49, 61, 53]⟩, ⟨#[33, 94, 97]⟩, ⟨#[64, 48, 58, 48, 45, 57]⟩, ⟨#[33, 42]⟩, ⟨#[64, 49, 61, 53, 38, 94, 97]⟩, ⟨#[64, 49, 61, 53, 124, 94, 98]⟩, ⟨#[33, 64, 49, 61, 53]⟩]

set_option maxHeartbeats 1000000 in
theorem want23 (pb : Nat) (w : World) (hp : Pick w pb) :
    Calls Tryz.prog 23 #[.pointer (some ⟨pb, 0, none⟩)] w fun e w' => ∃ t : ByteArray, t ∈ wants ∧ e = .returned (.string t) ∧ Went pb w w' := by
  have hlt := hp.lt
  go_enter Tryz.func23, Tryz.ntmps23
  go_wp2_with fail
  have hW : Went pb w (w.alloc (.cells (wants.map Value.string).toArray 9)) := (Went.refl hp).alloc _
  have ht : ∀ k, k < 10 → (w.alloc (.cells (wants.map Value.string).toArray 9)).cell? ⟨w.heap.size, k, none⟩ = some (.string (wants.getD k ByteArray.empty)) := fun k hk => table_s wants w 9 k hk
  refine (num_any pb 10 _ (by omega) (by omega) hW.1).mono ?_
  rintro e w1 ⟨k, hk, rfl, hw1⟩
  have q : w1.cell? ⟨w.heap.size, k, none⟩ = some (.string (wants.getD k ByteArray.empty)) := (hw1.cell (by simp) hlt).trans (ht k (by omega))
  have hk6 : k < 10 := by omega
  have hm : wants.getD k ByteArray.empty ∈ wants := by
    rw [List.getD_eq_getElem?_getD, List.getElem?_eq_getElem (show k < wants.length from hk6)]
    exact List.getElem_mem _
  generalize wants.getD k ByteArray.empty = t at *
  have R := hW.trans hw1
  clear ht hW hw1
  go_wp2
  go_ret
  exact ⟨t, hm, rfl, R⟩

theorem want_size {t : ByteArray} (h : t ∈ wants) : t.size ≤ 1000 := by
  have : ∀ t ∈ wants, t.size ≤ 1000 := by simp [wants]; decide
  exact this t h

end Go.Proofs.YtdeojcodbojmoaaGreatDoor
