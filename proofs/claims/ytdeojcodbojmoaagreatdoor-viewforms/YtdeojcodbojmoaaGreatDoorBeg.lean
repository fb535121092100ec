/- view does something: what begun asks. -/
import Derived.Test.YtdeojcodbojmoaaGreatDoorMay
import Derived.Test.YtdeojcodbojmoaaGreatDoorMrg
import Derived.Laws.MakeOwn
namespace Go.Proofs.YtdeojcodbojmoaaGreatDoor
open Go.RowKit
set_option maxRecDepth 100000
set_option linter.unusedVariables false

set_option maxHeartbeats 1000000 in
theorem allTimes28 (b x y : Nat) (w : World) (hx : x ≤ 1000000) (hy : y ≤ 1000000) (h0 : w.cell? ⟨b, 0, none⟩ = some (.int .i64 x)) (h1 : w.cell? ⟨b, 1, none⟩ = some (.int .i64 y)) : Calls Tryz.prog 28 #[.slice (some ⟨b, 0, none⟩) 2 2] w fun r w' => r = .returned (.bool true) ∧ w' = w := by
  have hlt : b < w.heap.size := World.block_lt_of_cell? w ⟨b, 0, none⟩ h0
  go_enter Tryz.func28, Tryz.ntmps28
  go_wp2_with fail
  refine wp_loop_rounds 3 ?_
  rw [rounds_succ]
  go_wp2_with fail
  refine (times26 _ _ (by omega) (by omega)).mono ?_
  rintro r w1 ⟨rfl, rfl⟩
  go_wp2_with fail
  rw [rounds_succ]
  go_wp2_with fail
  refine (times26 _ _ (by omega) (by omega)).mono ?_
  rintro r w1 ⟨rfl, rfl⟩
  go_wp2_with fail
  rw [rounds_succ]
  go_wp2
  go_ret
  exact ⟨rfl, rfl⟩

set_option maxHeartbeats 2000000 in
theorem may_yes (a : Addr) (b : Nat) (w : World) (hg : w.cell? ⟨0, 0, none⟩ = some (.iface 185 (.pointer (some a)))) (h0 : w.cell? ⟨b, 0, none⟩ = some (.int .i64 ((3 : Nat) : Int))) (h1 : w.cell? ⟨b, 1, none⟩ = some (.int .i64 ((0 : Nat) : Int))) :
    Calls Tryz.prog 12 #[.agg #[.int .i64 1, .int .i64 2, .string ⟨#[42]⟩, .slice none 0 0, .slice (some ⟨b, 0, none⟩) 2 2], .int .i64 2] w fun r w' => r = .returned (.bool true) ∧ Below w.heap.size w w' := by
  have hg0 : 0 < w.heap.size := World.block_lt_of_cell? w ⟨0, 0, none⟩ hg
  have hb0 : b < w.heap.size := World.block_lt_of_cell? w ⟨b, 0, none⟩ h0
  go_enter Tryz.func12, Tryz.ntmps12
  go_wp2_with fail
  refine (parse25 _).mono ?_
  rintro r w1 ⟨rfl, hb1⟩
  have hs1 : w.heap.size < w1.heap.size := by have := hb1.size; simp at this; omega
  have z1 : ∀ o, w1.cell? ⟨w.heap.size, o, none⟩ = (#[.int .i64 1, .int .i64 2, .string ⟨#[42]⟩, .slice none 0 0, .slice (some ⟨b, 0, none⟩) 2 2] : Array Value)[o]? := fun o => by rw [hb1.cell (p := ⟨w.heap.size, o, none⟩) (by simp)]; simp
  have o1 : ∀ k o, k < w.heap.size → w1.cell? ⟨k, o, none⟩ = w.cell? ⟨k, o, none⟩ := fun k o hk => by rw [hb1.cell (p := ⟨k, o, none⟩) (by simp; omega), World.cell?_alloc_past _ _ _ (hn := hk)]
  have HB1 : Hid (Below w.heap.size w w1) := ((Below.refl _ w).alloc (Nat.le_refl _) _).trans (hb1.mono (by simp))
  obtain ⟨U, hU⟩ : ∃ U, U = w1.alloc (.cells #[.int .i64 1, .int .i64 0, .int .i64 0, .int .i64 0, .string ⟨#[]⟩, .slice none 0 0] 53) := ⟨_, rfl⟩
  have hsU : w.heap.size < U.heap.size := by rw [hU]; simp; omega
  have zU : ∀ o, U.cell? ⟨w.heap.size, o, none⟩ = (#[.int .i64 1, .int .i64 2, .string ⟨#[42]⟩, .slice none 0 0, .slice (some ⟨b, 0, none⟩) 2 2] : Array Value)[o]? := fun o => by rw [hU, World.cell?_alloc_past _ _ _ (hn := hs1)]; exact z1 o
  have oU : ∀ k o, k < w.heap.size → U.cell? ⟨k, o, none⟩ = w.cell? ⟨k, o, none⟩ := fun k o hk => by rw [hU, World.cell?_alloc_past _ _ _ (hn := by omega)]; exact o1 k o hk
  have HU : Hid (Below w.heap.size w U ∧ U = w1.alloc (.cells #[.int .i64 1, .int .i64 0, .int .i64 0, .int .i64 0, .string ⟨#[]⟩, .slice none 0 0] 53)) := ⟨by rw [hU]; exact HB1.out.alloc HB1.out.size _, hU⟩
  clear hb1 o1 HB1 hU
  have c1 := times26 2 U (by decide) (by decide)
  have c2 := seen27 a U ((oU 0 0 hg0).trans hg)
  go_wp2_with fail
  rw [← HU.out.2]
  refine c1.mono ?_
  rintro r w2 ⟨rfl, rfl⟩
  go_wp2_with fail
  refine c2.mono ?_
  rintro r w3 ⟨rfl, hb3⟩
  clear c1 c2
  have z3 : ∀ o, w3.cell? ⟨w.heap.size, o, none⟩ = (#[.int .i64 1, .int .i64 2, .string ⟨#[42]⟩, .slice none 0 0, .slice (some ⟨b, 0, none⟩) 2 2] : Array Value)[o]? := fun o => (hb3.cell (p := ⟨w.heap.size, o, none⟩) hsU).trans (zU o)
  have c3 := allTimes28 b 3 0 w3 (by decide) (by decide) ((hb3.cell (p := ⟨b, 0, none⟩) (by show b < _; omega)).trans ((oU b 0 hb0).trans h0)) ((hb3.cell (p := ⟨b, 1, none⟩) (by show b < _; omega)).trans ((oU b 1 hb0).trans h1))
  have HB3 : Hid (Below w.heap.size w w3) := HU.out.1.trans (hb3.mono HU.out.1.size)
  clear zU oU hb3 HU z1
  go_wp2_with fail
  refine c3.mono ?_
  rintro r w4 ⟨rfl, rfl⟩
  clear c3
  go_wp2
  go_ret
  exact ⟨rfl, HB3.out⟩

set_option maxHeartbeats 1000000 in
theorem may_no (w : World) : Calls Tryz.prog 12 #[.agg #[.int .i64 0, .int .i64 0, .string ⟨#[]⟩, .slice none 0 0, .slice none 0 0], .int .i64 2] w fun r w' => r = .returned (.bool false) ∧ Below w.heap.size w w' := by
  go_enter Tryz.func12, Tryz.ntmps12
  go_wp2
  go_ret
  exact ⟨rfl, (Below.refl _ _).alloc (Nat.le_refl _) _⟩

end Go.Proofs.YtdeojcodbojmoaaGreatDoor
