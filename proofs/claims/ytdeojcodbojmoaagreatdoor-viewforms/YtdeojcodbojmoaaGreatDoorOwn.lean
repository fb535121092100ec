/- pars.checkOwn of what the reader reads. -/
import Derived.Test.YtdeojcodbojmoaaGreatDoorRwa
import Derived.Test.YtdeojcodbojmoaaGreatDoorErt
import Derived.BigQuiet
import Derived.Deep.QuietTactic
namespace Go.Proofs.YtdeojcodbojmoaaGreatDoor
open Go.RowKit
set_option maxRecDepth 100000
set_option linter.unusedVariables false

set_option maxHeartbeats 1000000 in
theorem number101 (n a b : Int) (w : World) (h1 : a ≤ n) (h2 : n ≤ b) : Calls Tryz.prog 101 #[.int .i64 n, .int .i64 a, .int .i64 b] w fun r w' => r = .returned .nilIface ∧ w' = w := by
  have d1 : decide (n < a) = false := decide_eq_false (by omega)
  have d2 : decide (b < n) = false := decide_eq_false (by omega)
  clear h1 h2
  go_enter Tryz.func101, Tryz.ntmps101
  go_wp2
  go_ret
  exact ⟨rfl, rfl⟩

set_option maxHeartbeats 2000000 in
theorem numbers93 (o k a b : Int) (w : World) (hk0 : 0 ≤ k) (hk : k < 4) (ha : 0 ≤ a) (hab : a ≤ b) (hb : b ≤ 99) : Calls Tryz.prog 93 #[.agg #[.int .i64 o, .int .i64 k, .int .i64 a, .int .i64 b, .string ⟨#[]⟩, .slice none 0 0]] w fun r w' => r = .returned .nilIface ∧ Below w.heap.size w w' := by
  have c1 := fun w => number101 k 0 3 w hk0 (by omega)
  have c2 := fun w => number101 a 0 99 w ha (by omega)
  have c3 := fun w => number101 b a 99 w hab hb
  clear hk0 hk ha hab hb
  go_enter Tryz.func93, Tryz.ntmps93
  go_wp2_with fail
  refine (c1 _).mono ?_
  rintro r w1 ⟨rfl, rfl⟩
  go_wp2_with fail
  refine (c2 _).mono ?_
  rintro r w1 ⟨rfl, rfl⟩
  go_wp2_with fail
  refine (c3 _).mono ?_
  rintro r w1 ⟨rfl, rfl⟩
  go_wp2_with fail
  refine (within_none _ _).mono ?_
  rintro r w1 ⟨rfl, rfl⟩
  go_wp2
  go_ret
  exact ⟨rfl, (Below.refl _ w).alloc (Nat.le_refl _) _⟩

set_option maxHeartbeats 4000000 in
theorem own_zero (o : Int) (x : Option Addr) (n : Nat) (w : World) (ho : o = 1 ∨ o = 5 ∨ o = 6 ∨ o = 7) : Calls Tryz.prog 84 #[.agg #[.int .i64 o, .int .i64 0, .int .i64 0, .int .i64 0, .string ⟨#[]⟩, .slice x n n]] w fun r w' => r = .returned .nilIface ∧ Below w.heap.size w w' := by
  rcases ho with rfl | rfl | rfl | rfl
  all_goals (
    go_enter Tryz.func84, Tryz.ntmps84
    go_wp2
    go_ret
    exact ⟨rfl, (Below.refl _ _).alloc (Nat.le_refl _) _⟩)

set_option maxHeartbeats 4000000 in
theorem own_eq (k a : Int) (w : World) (hk0 : 0 ≤ k) (hk : k < 4) (ha : 0 ≤ a) (hb : a ≤ 99) : Calls Tryz.prog 84 #[.agg #[.int .i64 2, .int .i64 k, .int .i64 a, .int .i64 a, .string ⟨#[]⟩, .slice none 0 0]] w fun r w' => r = .returned .nilIface ∧ Below w.heap.size w w' := by
  have c := numbers93 2 k a a (w.alloc (.cells #[.int .i64 2, .int .i64 k, .int .i64 a, .int .i64 a, .string ⟨#[]⟩, .slice none 0 0] 53)) hk0 hk ha (Int.le_refl _) hb
  clear hk0 hk ha hb
  go_enter Tryz.func84, Tryz.ntmps84
  go_wp2_with fail
  refine c.mono ?_
  rintro r w1 ⟨rfl, hb1⟩
  clear c
  have z : ∀ i, w1.cell? ⟨w.heap.size, i, none⟩ = (#[.int .i64 2, .int .i64 k, .int .i64 a, .int .i64 a, .string ⟨#[]⟩, .slice none 0 0] : Array Value)[i]? := fun i => by rw [hb1.cell (p := ⟨w.heap.size, i, none⟩) (by simp)]; simp
  have f : ∀ i, w1.frozen? ⟨w.heap.size, i, none⟩ = false := fun i => by rw [hb1.frozen (p := ⟨w.heap.size, i, none⟩) (by simp)]; simp
  have HB : Hid (Below w.heap.size w w1) := ((Below.refl _ w).alloc (Nat.le_refl _) _).trans (hb1.mono (by simp))
  clear hb1
  go_wp2
  go_ret
  exact ⟨rfl, ((HB.out.setCell (Nat.le_refl _) _).setCell (Nat.le_refl _) _).setCell (Nat.le_refl _) _⟩

set_option maxHeartbeats 4000000 in
theorem own_range (k a b : Int) (w : World) (hk0 : 0 ≤ k) (hk : k < 4) (ha : 0 ≤ a) (hab : a ≤ b) (hb : b ≤ 99) : Calls Tryz.prog 84 #[.agg #[.int .i64 3, .int .i64 k, .int .i64 a, .int .i64 b, .string ⟨#[]⟩, .slice none 0 0]] w fun r w' => r = .returned .nilIface ∧ Below w.heap.size w w' := by
  have c := numbers93 3 k a b (w.alloc (.cells #[.int .i64 3, .int .i64 k, .int .i64 a, .int .i64 b, .string ⟨#[]⟩, .slice none 0 0] 53)) hk0 hk ha hab hb
  clear hk0 hk ha hb hab
  go_enter Tryz.func84, Tryz.ntmps84
  go_wp2_with fail
  refine c.mono ?_
  rintro r w1 ⟨rfl, hb1⟩
  clear c
  have z : ∀ i, w1.cell? ⟨w.heap.size, i, none⟩ = (#[.int .i64 3, .int .i64 k, .int .i64 a, .int .i64 b, .string ⟨#[]⟩, .slice none 0 0] : Array Value)[i]? := fun i => by rw [hb1.cell (p := ⟨w.heap.size, i, none⟩) (by simp)]; simp
  have f : ∀ i, w1.frozen? ⟨w.heap.size, i, none⟩ = false := fun i => by rw [hb1.frozen (p := ⟨w.heap.size, i, none⟩) (by simp)]; simp
  have HB : Hid (Below w.heap.size w w1) := ((Below.refl _ w).alloc (Nat.le_refl _) _).trans (hb1.mono (by simp))
  clear hb1
  go_wp2
  go_ret
  exact ⟨rfl, ((HB.out.setCell (Nat.le_refl _) _).setCell (Nat.le_refl _) _).setCell (Nat.le_refl _) _⟩

set_option maxHeartbeats 4000000 in
theorem tag94 (l : List UInt8) (w : World) (ht : Ps.Tag l) : Calls Tryz.prog 94 #[.string ⟨l.toArray⟩] w fun r w' => r = .returned .nilIface ∧ w' = w := by
  obtain ⟨h1, h6, hl⟩ := ht
  have e1 : (⟨l.toArray⟩ : ByteArray).toList.isEmpty = false := by
    rw [ByteArray.toList_eq]
    cases l with
    | nil => simp at h1
    | cons c r => rfl
  have hs : (⟨l.toArray⟩ : ByteArray).size = l.length := by simp [ByteArray.size]
  have hget : ∀ (i : Nat) (h : i < (⟨l.toArray⟩ : ByteArray).size), 97 ≤ ((⟨l.toArray⟩ : ByteArray)[i].toNat : Int) ∧ ((⟨l.toArray⟩ : ByteArray)[i].toNat : Int) ≤ 122 := fun i h => by
    have := hl i (by omega)
    simpa [ByteArray.getElem_eq_getElem_data] using this
  have hs6 : (⟨l.toArray⟩ : ByteArray).size ≤ 6 := by omega
  clear hl hs h1 h6
  generalize (⟨l.toArray⟩ : ByteArray) = s at *
  have d6 : decide ((6 : Int) < (s.size : Int)) = false := decide_eq_false (by omega)
  have d7 : decide (6 < s.size) = false := decide_eq_false (by omega)
  go_enter Tryz.func94, Tryz.ntmps94
  go_wp2_with fail
  go_loopw [15] (fun i wr => ∃ k : Nat, k ≤ s.size ∧ i = .int .i64 k ∧ wr = w) (fun i _ => s.size - (intOf i).toNat)
  case atStart => exact ⟨0, Nat.zero_le _, rfl, rfl⟩
  case round =>
    obtain ⟨k, hk, rfl, rfl⟩ := hrel
    by_cases hlt : k < s.size
    · obtain ⟨g1, g2⟩ := hget k hlt
      clear hget
      go_wp2
      go_roundw
      case rel => exact ⟨k + 1, by omega, by go_num, by trivial⟩
      case measure => simp [intOf]; omega
    · clear hget
      go_wp2
      go_ret
      exact ⟨rfl, rfl⟩

set_option maxHeartbeats 4000000 in
theorem own_tag (l : List UInt8) (w : World) (ht : Ps.Tag l) : Calls Tryz.prog 84 #[.agg #[.int .i64 4, .int .i64 0, .int .i64 0, .int .i64 0, .string ⟨l.toArray⟩, .slice none 0 0]] w fun r w' => r = .returned .nilIface ∧ Below w.heap.size w w' := by
  have c := tag94 l (w.alloc (.cells #[.int .i64 4, .int .i64 0, .int .i64 0, .int .i64 0, .string ⟨l.toArray⟩, .slice none 0 0] 53)) ht
  clear ht
  go_enter Tryz.func84, Tryz.ntmps84
  go_wp2_with fail
  refine c.mono ?_
  rintro r w1 ⟨rfl, rfl⟩
  clear c
  go_wp2
  go_ret
  exact ⟨rfl, (Below.refl _ w).alloc (Nat.le_refl _) _⟩

end Go.Proofs.YtdeojcodbojmoaaGreatDoor
