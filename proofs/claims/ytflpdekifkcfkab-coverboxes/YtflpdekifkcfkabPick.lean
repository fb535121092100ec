/- Numbers from which choices are read. -/
import Derived.Test.YtflpdekifkcfkabLeaves
import Derived.Deep.RegionHeld3
import Derived.BigQuiet
import Derived.Deep.QuietTactic
namespace Go.Proofs.Ytflpdekifkcfkab
open Go.RowKit
set_option linter.unusedVariables false

/-- Block pb holds numbers from which choices are read. -/
def Pick (w : World) (pb : Nat) : Prop :=
  w.frozen? ⟨pb, 1, none⟩ = false ∧ ∃ (ao : Option Addr) (len cap n b off : Nat) (zs : Nat → Nat),
    w.cell? ⟨pb, 0, none⟩ = some (.slice ao len cap) ∧ w.cell? ⟨pb, 1, none⟩ = some (.int .i64 n) ∧ n ≤ len ∧ len ≤ 1000 ∧
    (0 < len → ao = some ⟨b, off, none⟩ ∧ b < pb) ∧ ∀ j, j < len → w.cell? ⟨b, off + j, none⟩ = some (.int .u8 (zs j)) ∧ zs j ≤ 255

/-- All blocks but one. -/
def But (pb : Nat) : Nat → Prop := fun k => k ≠ pb

set_option maxHeartbeats 1000000 in
theorem num_over (pb : Nat) (m : Int) (w : World) (h1 : 1 ≤ m) (h2 : m ≤ 1000) (ao : Option Addr) (len cap n : Nat) (q0 : w.cell? ⟨pb, 0, none⟩ = some (.slice ao len cap)) (q1 : w.cell? ⟨pb, 1, none⟩ = some (.int .i64 n)) (hn : len ≤ n) (hn' : n ≤ 1000) (hl : len ≤ 1000) :
    Calls Try.prog 21 #[.pointer (some ⟨pb, 0, none⟩), .int .i64 m] w fun e w' => e = .returned (.int .i64 0) ∧ ∃ q, w' = w.drewN q := by
  have hg : decide ((len : Int) ≤ (n : Int)) = true := decide_eq_true (by omega)
  go_enter Try.func21, Try.ntmps21
  go_wp2_with fail
  go_quiet (fail)
  go_wp2
  go_ret
  exact ⟨rfl, _, rfl⟩

set_option maxHeartbeats 1000000 in
theorem num_more (pb : Nat) (m : Int) (w : World) (h1 : 1 ≤ m) (h2 : m ≤ 1000) (ao : Option Addr) (len cap n b off : Nat) (z : Nat) (hz : z ≤ 255) (hne : b ≠ pb) (q0 : w.cell? ⟨pb, 0, none⟩ = some (.slice (some ⟨b, off, none⟩) len cap)) (q1 : w.cell? ⟨pb, 1, none⟩ = some (.int .i64 n)) (hf : w.frozen? ⟨pb, 1, none⟩ = false) (hn : n < len) (hl : len ≤ 1000)
    (hc : w.cell? ⟨b, off + n, none⟩ = some (.int .u8 z)) :
    Calls Try.prog 21 #[.pointer (some ⟨pb, 0, none⟩), .int .i64 m] w fun e w' => e = .returned (.int .i64 ((z : Int) % m)) ∧ ∃ q q', w' = ((w.drewN q).setCell ⟨pb, 1, none⟩ (.int .i64 (n + 1))).drewN q' := by
  have hg : decide ((len : Int) ≤ (n : Int)) = false := decide_eq_false (by omega)
  have hg2 : decide (m < 1) = false := decide_eq_false (by omega)
  go_enter Try.func21, Try.ntmps21
  go_wp2_with fail
  go_quiet (fail)
  go_wp2_with fail
  obtain ⟨V, hV⟩ : ∃ V, V = ((w.drewN nq).setCell ⟨pb, 1, none⟩ (.int .i64 ((n : Int) + 1))) := ⟨_, rfl⟩
  rw [← hV]
  have r0 : V.cell? ⟨pb, 0, none⟩ = some (.slice (some ⟨b, off, none⟩) len cap) := by rw [hV, World.cell?_setCell_other _ _ _ _ (by simp)]; exact q0
  have r1 : V.cell? ⟨pb, 1, none⟩ = some (.int .i64 ((n : Int) + 1)) := by rw [hV]; exact World.cell?_setCell_same _ _ _ (u := .int .i64 n) q1
  have r2 : V.cell? ⟨b, off + n, none⟩ = some (.int .u8 z) := by rw [hV, World.cell?_setCell_other _ _ _ _ (fun e => hne (congrArg Addr.block e).symm)]; exact hc
  have HV : Hid (V = ((w.drewN nq).setCell ⟨pb, 1, none⟩ (.int .i64 ((n : Int) + 1)))) := hV
  clear hV q0 q1 hc hf
  have hwr : IntKind.i64.wrap ((n : Int) + 1 - 1) = (n : Int) := by simp only [IntKind.wrap, IntKind.signed, IntKind.bits]; simp; omega
  have htm : (z : Int).tmod m = (z : Int) % m := Int.tmod_eq_emod_of_nonneg (by omega)
  have hm0 : (m == 0) = false := beq_eq_false_iff_ne.2 (by omega)
  have hn0 : (0 : Int) ≤ (n : Int) := by omega
  have hn1 : (n : Int) < (len : Int) := by omega
  go_quiet (fail)
  go_wp2
  go_ret
  exact ⟨rfl, _, _, by rw [HV.out]⟩

theorem Pick.lt {w : World} {pb : Nat} (h : Pick w pb) : pb < w.heap.size := by
  obtain ⟨_, ao, len, cap, n, b, off, zs, q0, _⟩ := h
  exact World.block_lt_of_cell? w ⟨pb, 0, none⟩ q0

/-- What is changed lies behind. -/
theorem Pick.below {w w' : World} {pb : Nat} (h : Pick w pb) (hb : Below (pb + 1) w w') : Pick w' pb := by
  obtain ⟨hf, ao, len, cap, n, b, off, zs, q0, q1, h1, h2, h3, h4⟩ := h
  refine ⟨(hb.frozen (by simp)).trans hf, ao, len, cap, n, b, off, zs, (hb.cell (by simp)).trans q0, (hb.cell (by simp)).trans q1, h1, h2, h3, fun j hj => ⟨?_, (h4 j hj).2⟩⟩
  obtain ⟨_, hlt⟩ := h3 (by omega)
  exact (hb.cell (by show b < pb + 1; omega)).trans (h4 j hj).1

theorem Kept.drewN {P : Nat → Prop} {a w : World} (h : Kept P a w) (q : Nat) : Kept P a (w.drewN q) := ⟨h.os, h.tape, h.output, h.size, h.block⟩

/-- A choice below m. -/
theorem num16 (pb : Nat) (m : Int) (w : World) (h1 : 1 ≤ m) (h2 : m ≤ 1000) (hp : Pick w pb) :
    Calls Try.prog 21 #[.pointer (some ⟨pb, 0, none⟩), .int .i64 m] w fun e w' => ∃ k : Nat, (k : Int) < m ∧ e = .returned (.int .i64 k) ∧ Pick w' pb ∧ Kept (But pb) w w' := by
  have hlt := hp.lt
  have hp' := hp
  obtain ⟨hf, ao, len, cap, n, b, off, zs, q0, q1, l1, l2, l3, l4⟩ := hp
  by_cases h : n < len
  · obtain ⟨rfl, hb⟩ := l3 (by omega)
    refine (num_more pb m w h1 h2 none len cap n b off (zs n) (l4 n h).2 (by omega) q0 q1 hf h l2 (l4 n h).1).mono ?_
    rintro e w' ⟨rfl, q, q', rfl⟩
    have e1 := Int.emod_nonneg (zs n : Int) (b := m) (by omega)
    have e2 := Int.emod_lt_of_pos (zs n : Int) (b := m) (by omega)
    refine ⟨((zs n : Int) % m).toNat, by omega, by rw [Int.toNat_of_nonneg e1], ?_, ?_⟩
    · refine ⟨?_, some ⟨b, off, none⟩, len, cap, n + 1, b, off, zs, ?_, ?_, by omega, l2, l3, fun j hj => ⟨?_, (l4 j hj).2⟩⟩
      · simpa using hf
      · simpa [World.cell?_setCell_other] using q0
      · show ((w.drewN q).setCell ⟨pb, 1, none⟩ (.int .i64 ((n : Int) + 1))).cell? ⟨pb, 1, none⟩ = _
        exact (World.cell?_setCell_same (w.drewN q) ⟨pb, 1, none⟩ _ (u := .int .i64 n) q1).trans rfl
      · show ((w.drewN q).setCell ⟨pb, 1, none⟩ (.int .i64 ((n : Int) + 1))).cell? ⟨b, off + j, none⟩ = _
        rw [World.cell?_setCell_other _ _ _ _ (fun e => by have := congrArg Addr.block e; simp at this; omega)]
        exact (l4 j hj).1
    · exact (((Kept.refl (But pb) w).drewN q).setCell (p := ⟨pb, 1, none⟩) (fun k _ hk => hk) _).drewN q'
  · refine (num_over pb m w h1 h2 ao len cap n q0 q1 (by omega) (by omega) l2).mono ?_
    rintro e w' ⟨rfl, q, rfl⟩
    exact ⟨0, by omega, rfl, hp'.below ⟨rfl, rfl, rfl, Nat.le_refl _, fun _ _ => rfl⟩, (Kept.refl _ w).drewN q⟩

end Go.Proofs.Ytflpdekifkcfkab
