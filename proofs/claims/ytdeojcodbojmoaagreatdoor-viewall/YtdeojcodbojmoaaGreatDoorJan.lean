/- Choices counted; a stamp out of numbers; one head in a row. -/
import Derived.Test.YtdeojcodbojmoaaGreatDoorJaf
import Derived.Test.YtdeojcodbojmoaaGreatDoorJai
namespace Go.Proofs.YtdeojcodbojmoaaGreatDoor
open Go.RowKit
set_option maxRecDepth 100000
set_option linter.unusedVariables false

/-- Block pb holds len numbers, of which n are read. -/
def PickAt (w : World) (pb n len : Nat) : Prop :=
  w.frozen? ⟨pb, 1, none⟩ = false ∧ ∃ (ao : Option Addr) (cap b off : Nat) (zs : Nat → Nat),
    w.cell? ⟨pb, 0, none⟩ = some (.slice ao len cap) ∧ w.cell? ⟨pb, 1, none⟩ = some (.int .i64 n) ∧ n ≤ len ∧ len ≤ 1000 ∧
    (0 < len → ao = some ⟨b, off, none⟩ ∧ b < pb) ∧ ∀ j, j < len → w.cell? ⟨b, off + j, none⟩ = some (.int .u8 (zs j)) ∧ zs j ≤ 255

theorem PickAt.lt {w : World} {pb n len : Nat} (h : PickAt w pb n len) : pb < w.heap.size := by
  obtain ⟨_, ao, cap, b, off, zs, q0, _⟩ := h
  exact World.block_lt_of_cell? w ⟨pb, 0, none⟩ q0

theorem PickAt.below {w w' : World} {pb n len : Nat} (h : PickAt w pb n len) (hb : Below (pb + 1) w w') : PickAt w' pb n len := by
  obtain ⟨hf, ao, cap, b, off, zs, q0, q1, h1, h2, h3, h4⟩ := h
  refine ⟨(hb.frozen (by simp)).trans hf, ao, cap, b, off, zs, (hb.cell (by simp)).trans q0, (hb.cell (by simp)).trans q1, h1, h2, h3, fun j hj => ⟨?_, (h4 j hj).2⟩⟩
  obtain ⟨_, hlt⟩ := h3 (by omega)
  exact (hb.cell (by show b < pb + 1; omega)).trans (h4 j hj).1

/-- What counted choices leave behind. -/
def Wt (pb n len : Nat) (w w' : World) : Prop := PickAt w' pb n len ∧ Kept (But pb) w w'
theorem Wt.trans {pb n n' len : Nat} {a b c : World} (h : Wt pb n len a b) (k : Wt pb n' len b c) : Wt pb n' len a c := ⟨k.1, h.2.trans k.2⟩
theorem Wt.alloc {pb n len : Nat} {a w : World} (h : Wt pb n len a w) (o : Obj) : Wt pb n len a (w.alloc o) := ⟨h.1.below ((Below.refl _ w).alloc (by have := h.1.lt; omega) _), h.2.alloc o⟩
theorem Wt.setCell {pb n len : Nat} {a w : World} (h : Wt pb n len a w) {p : Addr} (hp : a.heap.size ≤ p.block) (ha : pb < a.heap.size) (u : Value) : Wt pb n len a (w.setCell p u) :=
  ⟨h.1.below ((Below.refl _ w).setCell (by omega) _), h.2.setCell (fun k hk _ => by omega) u⟩
theorem Wt.refl {pb n len : Nat} {w : World} (h : PickAt w pb n len) : Wt pb n len w w := ⟨h, Kept.refl _ w⟩
theorem Wt.cell {pb n len : Nat} {w w' : World} (h : Wt pb n len w w') {b o : Nat} (hb : b < w.heap.size) (hp : pb < b) : w'.cell? ⟨b, o, none⟩ = w.cell? ⟨b, o, none⟩ := h.2.cell hb (by unfold But; omega)
theorem Wt.frozen {pb n len : Nat} {w w' : World} (h : Wt pb n len w w') {b o : Nat} (hb : b < w.heap.size) (hp : pb < b) : w'.frozen? ⟨b, o, none⟩ = w.frozen? ⟨b, o, none⟩ := h.2.frozen hb (by unfold But; omega)

theorem num_at (pb n len : Nat) (m : Int) (w : World) (h1 : 1 ≤ m) (h2 : m ≤ 1000) (hp : PickAt w pb n len) (h : n < len) :
    Calls Tryz.prog 22 #[.pointer (some ⟨pb, 0, none⟩), .int .i64 m] w fun e w' => ∃ k : Nat, (k : Int) < m ∧ e = .returned (.int .i64 k) ∧ Wt pb (n + 1) len w w' := by
  have hlt := hp.lt
  obtain ⟨hf, ao, cap, b, off, zs, q0, q1, l1, l2, l3, l4⟩ := hp
  obtain ⟨rfl, hb⟩ := l3 (by omega)
  refine (num_more pb m w h1 h2 none len cap n b off (zs n) (l4 n h).2 (by omega) q0 q1 hf h l2 (l4 n h).1).mono ?_
  rintro e w' ⟨rfl, q, q', rfl⟩
  have e1 := Int.emod_nonneg (zs n : Int) (b := m) (by omega)
  have e2 := Int.emod_lt_of_pos (zs n : Int) (b := m) (by omega)
  refine ⟨((zs n : Int) % m).toNat, by omega, by rw [Int.toNat_of_nonneg e1], ?_, ?_⟩
  · refine ⟨?_, some ⟨b, off, none⟩, cap, b, off, zs, ?_, ?_, by omega, l2, l3, fun j hj => ⟨?_, (l4 j hj).2⟩⟩
    · simpa using hf
    · simpa [World.cell?_setCell_other] using q0
    · show ((w.drewN q).setCell ⟨pb, 1, none⟩ (.int .i64 ((n : Int) + 1))).cell? ⟨pb, 1, none⟩ = _
      exact (World.cell?_setCell_same (w.drewN q) ⟨pb, 1, none⟩ _ (u := .int .i64 n) q1).trans rfl
    · show ((w.drewN q).setCell ⟨pb, 1, none⟩ (.int .i64 ((n : Int) + 1))).cell? ⟨b, off + j, none⟩ = _
      rw [World.cell?_setCell_other _ _ _ _ (fun e => by have := congrArg Addr.block e; simp at this; omega)]
      exact (l4 j hj).1
  · exact (((Kept.refl (But pb) w).drewN q).setCell (p := ⟨pb, 1, none⟩) (fun k _ hk => hk) _).drewN q'

set_option maxHeartbeats 1000000 in
theorem over_at (pb n len : Nat) (w : World) (hp : PickAt w pb n len) :
    Calls Tryz.prog 35 #[.pointer (some ⟨pb, 0, none⟩)] w fun e w' => e = .returned (.bool (decide (len ≤ n))) ∧ ∃ q, w' = w.drewN q := by
  obtain ⟨hf, ao, cap, b, off, zs, q0, q1, l1, l2, l3, l4⟩ := hp
  clear l4
  go_enter Tryz.func35, Tryz.ntmps35
  go_wp2_with fail
  go_quiet (fail)
  go_wp2
  go_ret
  exact ⟨by simp, _, rfl⟩

set_option maxHeartbeats 1000000 in
theorem stamp_at (pb n len : Nat) (w : World) (hp : PickAt w pb n len) (h : n + 3 ≤ len) :
    Calls Tryz.prog 37 #[.pointer (some ⟨pb, 0, none⟩)] w fun e w' => ∃ L R N : Int, 1 ≤ L ∧ L ≤ 9 ∧ 1 ≤ R ∧ R ≤ 3 ∧ 1 ≤ N ∧ N ≤ L ∧ e = .returned (.agg #[.int .i64 L, .int .i64 R, .int .i64 N]) ∧ Wt pb (n + 3) len w w' := by
  have hlt := hp.lt
  go_enter Tryz.func37, Tryz.ntmps37
  go_wp2_with fail
  have hW : Wt pb n len w (w.alloc (.cells #[.int .i64 0, .int .i64 0, .int .i64 0] 43)) := (Wt.refl hp).alloc _
  refine (num_at pb n len 9 _ (by omega) (by omega) hW.1 (by omega)).mono ?_
  rintro e w1 ⟨k1, hk1, rfl, hw1⟩
  go_wp2_with fail
  refine (num_at pb (n + 1) len 3 _ (by omega) (by omega) hw1.1 (by omega)).mono ?_
  rintro e w2 ⟨k2, hk2, rfl, hw2⟩
  have hz2 : ∀ o, w2.cell? ⟨w.heap.size, o, none⟩ = (w.alloc (.cells #[.int .i64 0, .int .i64 0, .int .i64 0] 43)).cell? ⟨w.heap.size, o, none⟩ := fun o => (hw1.trans hw2).cell (by simp) hlt
  have hf2 : ∀ o, w2.frozen? ⟨w.heap.size, o, none⟩ = (w.alloc (.cells #[.int .i64 0, .int .i64 0, .int .i64 0] 43)).frozen? ⟨w.heap.size, o, none⟩ := fun o => (hw1.trans hw2).frozen (by simp) hlt
  have hs2 : w.heap.size < w2.heap.size := by have := (hw1.trans hw2).2.size; simp at this; omega
  go_wp2_with fail
  have hW2 : Wt pb (n + 2) len w2 (w2.alloc (.cells #[.int .i64 (1 + k1), .int .i64 (1 + k2), .int .i64 0] 43)) := (Wt.refl hw2.1).alloc _
  refine (num_at pb (n + 2) len (1 + k1) _ (by omega) (by omega) hW2.1 (by omega)).mono ?_
  rintro e w3 ⟨k3, hk3, rfl, hw3⟩
  have c0 : ∀ o, w3.cell? ⟨w2.heap.size, o, none⟩ = (w2.alloc (.cells #[.int .i64 (1 + k1), .int .i64 (1 + k2), .int .i64 0] 43)).cell? ⟨w2.heap.size, o, none⟩ := fun o => hw3.cell (by simp) (by omega)
  have f0 : ∀ o, w3.frozen? ⟨w2.heap.size, o, none⟩ = (w2.alloc (.cells #[.int .i64 (1 + k1), .int .i64 (1 + k2), .int .i64 0] 43)).frozen? ⟨w2.heap.size, o, none⟩ := fun o => hw3.frozen (by simp) (by omega)
  have c1 : ∀ o, w3.cell? ⟨w.heap.size, o, none⟩ = w2.cell? ⟨w.heap.size, o, none⟩ := fun o => (hW2.trans hw3).cell hs2 hlt
  have f1 : ∀ o, w3.frozen? ⟨w.heap.size, o, none⟩ = w2.frozen? ⟨w.heap.size, o, none⟩ := fun o => (hW2.trans hw3).frozen hs2 hlt
  have hne : w2.heap.size ≠ w.heap.size := by omega
  have hne' : w.heap.size ≠ w2.heap.size := by omega
  have R : Wt pb (n + 3) len w w3 := hW.trans ((hw1.trans hw2).trans (hW2.trans hw3))
  clear hW hw1 hw2 hW2 hw3
  go_wp2
  refine bodyPost_ret (v := .agg #[.int .i64 (1 + k1), .int .i64 (1 + k2), .int .i64 (1 + k3)]) (by simp [results, Tryz.results37, go_sem, c1, hz2]) rfl ⟨_, _, _, by omega, by omega, by omega, by omega, by omega, by omega, rfl, ?_⟩
  exact (((R.setCell (by show w.heap.size ≤ w2.heap.size; omega) hlt _).setCell (Nat.le_refl _) hlt _).setCell (Nat.le_refl _) hlt _).setCell (Nat.le_refl _) hlt _

set_option maxHeartbeats 400000 in
theorem at49 (it : Int) (w : World) : Calls Tryz.prog 49 #[.slice none 0 0, .int .i64 it] w fun e w' => e = .returned (.agg #[.int .i64 0, .int .i64 0, .int .i64 0]) ∧ Below w.heap.size w w' := by
  go_enter Tryz.func49, Tryz.ntmps49
  go_wp2_with fail
  refine wp_loop_rounds 1 ?_
  rw [rounds_succ]
  go_wp2
  refine bodyPost_ret (v := .agg #[.int .i64 0, .int .i64 0, .int .i64 0]) (by simp [results, Tryz.results49, go_sem]) rfl ⟨rfl, ?_⟩
  exact (Below.refl _ _).alloc (Nat.le_refl _) _

end Go.Proofs.YtdeojcodbojmoaaGreatDoor
