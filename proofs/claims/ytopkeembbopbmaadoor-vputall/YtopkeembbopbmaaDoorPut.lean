/- cardamomref16.PutNum, bits.PutNum. -/
import Derived.Test.YtopkeembbopbmaaDoorApd
import Derived.BigQuiet
import Derived.Laws.ShiftsVar
namespace Go.Proofs.YtopkeembbopbmaaDoor
open Go.RowKit
set_option maxRecDepth 100000
set_option linter.unusedVariables false

set_option maxHeartbeats 1000000 in
/-- cardamomref16.PutNum. -/
theorem rput9 (ao : Option Addr) (n cap : Nat) (l : List Nat) (v : Nat) (w : World) (hr : Rb w ao n cap l) (hn : n ≤ 100000) (hv : v < 9223372036854775808) :
    Calls Tryd.prog 27 #[.slice ao n cap, .int .i64 v] w fun r w' => ∃ x, r = .returned x ∧ w'.ownsRow w.heap.size 5 1 x (n + (put v).length) (cells (l ++ put v)) ∧ Below w.heap.size w w' := by
  have HR : Hid (Rb w ao n cap l) := hr
  have hpl : (put v).length ≤ 9 := put_len 8 v (by omega)
  clear hr
  go_enter Tryd.func27, Tryd.ntmps27
  go_wp2_with (at_builtin; refine append_rb _ rfl _ _ rfl w.heap.size _ 0 [] rfl (World.ownsRow_made w #[] 0 (Nat.le_refl _) (Nat.zero_le _) rfl) ao n cap l rfl (HR.out.kept ((Below.refl _ w).alloc (Nat.le_refl _) _)) (by omega) (by simp) ?_)
  intro v1 w1 hown hgrow
  have hb1 : Below w.heap.size w w1 := ((Below.refl _ w).alloc (Nat.le_refl _) _).grown hgrow (by simp) (fun k hk => by simp [Value.ownBlock] at hk; omega)
  have HO : Hid (w1.ownsRow w.heap.size 5 1 v1 (n + 0) (cells (l ++ [])) ∧ Below w.heap.size w w1) := by
    refine ⟨?_, hb1⟩
    simpa using hown
  clear hown hgrow hb1
  go_wp2_with fail
  go_loopw [5, 1] (fun to y wr => ∃ (d : List Nat) (m : Nat), y = .int .i64 m ∧ d ++ put m = put v ∧ m < 9223372036854775808 ∧ wr.ownsRow w.heap.size 5 1 to (n + d.length) (cells (l ++ d)) ∧ Below w.heap.size w wr) (fun _ y _ => (intOf y).toNat)
  case atStart => exact ⟨[], v, rfl, rfl, hv, HO.out.1, HO.out.2⟩
  case round =>
    obtain ⟨d, m, rfl, hd, hm, hown, hb⟩ := hrel
    obtain ⟨to, tc, rfl⟩ := own_slice hown
    have HD : Hid (d ++ put m = put v) := hd
    have HW : Hid (wr.ownsRow w.heap.size 5 1 (.slice to (n + d.length) tc) (n + d.length) (cells (l ++ d)) ∧ Below w.heap.size w wr) := ⟨hown, hb⟩
    have hdl : d.length ≤ 9 := by have := congrArg List.length hd; simp at this; omega
    clear hd hown hb HO
    by_cases h128 : m < 128
    · have h1 : ¬ (128 : Int) ≤ m := by omega
      have h2 : decide ((128 : Int) ≤ (m : Int)) = false := decide_eq_false h1
      have h3 : decide (128 ≤ m) = false := decide_eq_false (by omega)
      have hle := HW.out.2.size
      go_wp2_with (at_builtin; refine append_one _ rfl _ _ rfl w.heap.size _ _ _ rfl (HW.out.1.alloc _) wr.heap.size (m : Int) rfl (by simp) m rfl (by omega) (by simp; omega) ?_)
      intro v2 w2 hown hgrow
      have HR2 : Hid (w2.ownsRow w.heap.size 5 1 v2 (n + (put v).length) (cells (l ++ put v)) ∧ Below w.heap.size w w2) := by
        have e : put v = d ++ [m] := by rw [← HD.out, put_small m h128]
        refine ⟨?_, (HW.out.2.alloc hle _).grown hgrow (by simp; omega) (fun k hk => (HW.out.1.lt k hk).1)⟩
        rw [e, ← List.append_assoc, cells_append, List.length_append]
        simpa [Nat.add_assoc] using hown
      clear hown hgrow
      go_wp2_with fail
      go_ret
      exact ⟨_, rfl, HR2.out.1, HR2.out.2⟩
    · have h1 : (128 : Int) ≤ m := by omega
      have h2 : decide ((128 : Int) ≤ (m : Int)) = true := decide_eq_true h1
      have h3 : decide (128 ≤ m) = true := decide_eq_true (by omega)
      have hle := HW.out.2.size
      go_wp2_with (at_builtin; refine append_one _ rfl _ _ rfl w.heap.size _ _ _ rfl (HW.out.1.alloc _) wr.heap.size ((m : Int) % 128 + 128) rfl (by simp) (m % 128 + 128) (by omega) (by omega) (by simp; omega) ?_)
      intro v2 w2 hown hgrow
      have HR2 : Hid (w2.ownsRow w.heap.size 5 1 v2 (n + (d ++ [m % 128 + 128]).length) (cells (l ++ (d ++ [m % 128 + 128]))) ∧ Below w.heap.size w w2) := by
        refine ⟨?_, (HW.out.2.alloc hle _).grown hgrow (by simp; omega) (fun k hk => (HW.out.1.lt k hk).1)⟩
        rw [← List.append_assoc, cells_append, List.length_append]
        simpa [Nat.add_assoc] using hown
      clear hown hgrow
      go_wp2_with fail
      refine ⟨⟨d ++ [m % 128 + 128], m / 128, by simp, ?_, by omega, HR2.out.1, HR2.out.2⟩, by simp [intOf]; omega⟩
      rw [← HD.out, put_great m h128, List.append_assoc]; rfl

end Go.Proofs.YtopkeembbopbmaaDoor
