/- errors.Is of the errors of bits. -/
import Derived.Test.YthlgfejdmigifaaDoorProg
import Derived.ProofKit
import Derived.WalkKit
import Derived.Below
import Derived.LaidEql
import Derived.Stop.Asserts
import Derived.RowKitTokens
namespace Go.Proofs.YthlgfejdmigifaaDoor
open Go.RowKit Go.Extern.Stop Go.Stop Go.Extern
set_option maxRecDepth 100000
set_option linter.unusedVariables false

theorem i_typeOf (v : Value) (w : World) : (Extern.ReflectliteType.typeOf #[.iface 62 v]).run Tryd.prog w = .ok (.iface 52 (.agg #[.pointer (some ⟨1, 62, none⟩)])) w := by kernel_rfl
/-- What the library's Comparable is in the model. -/
def cmpE : Array Value → Sem Value := Extern.ReflectliteType.method fun t => do Extern.Rtype.noPackHeld "Comparable" t; pure (.bool (← typeInfo t).comparable)
theorem i_comparable (w : World) : (cmpE #[.agg #[.pointer (some ⟨1, 62, none⟩)]]).run Tryd.prog w = .ok (.bool true) w := by kernel_rfl
theorem i_mComp (v : Value) (w : World) : (Go.method 199 52 v "Comparable").run Tryd.prog w = .ok (41, v) w := by kernel_rfl
theorem i_comp : (Tryd.prog.info? 62).map (·.comparable) = some true := by kernel_rfl
theorem i_size : (Tryd.prog.info? 87).map (·.size) = some 1 := by kernel_rfl
theorem i_noIs (v : Value) (xT : TypeId) (w : World) : (Instr.typeAssert (.iface 46 v) xT 54 true).run Tryd.prog w = .ok (.tuple #[.nilIface, .bool false]) w := run_typeAssert_lacksB Tryd.underlying54 (by kernel_rfl) (by kernel_rfl) v xT w
theorem i_un (v : Value) (xT : TypeId) (w : World) : (Instr.typeAssert (.iface 46 v) xT 57 true).run Tryd.prog w = .ok (.tuple #[.iface 46 v, .bool true]) w := run_typeAssert_hasB Tryd.underlying57 (by kernel_rfl) v xT w
theorem i_m (v : Value) (w : World) : (Go.method 199 46 v "Unwrap").run Tryd.prog w = .ok (37, v) w := by kernel_rfl

set_option maxHeartbeats 2000000 in
/-- errors.Is of no error. -/
theorem is_nil (a : Addr) (w : World) :
    Calls Tryd.prog 17 #[.nilIface, .iface 62 (.pointer (some a))] w fun r w' => r = .returned (.bool false) ∧ Below w.heap.size w w' := by
  go_enter Tryd.func17, Tryd.ntmps17
  go_wp2
  rw [run_eql_iface_nil_left w 62 _ Tryd.underlying39]
  go_wp2
  go_ret
  exact ⟨rfl, Below.refl _ _⟩

set_option maxHeartbeats 2000000 in
/-- errors.Is of a fault. -/
theorem is_one (a : Addr) (p : ByteArray) (w : World) :
    Calls Tryd.prog 17 #[.iface 46 (.agg #[.string p, .iface 62 (.pointer (some a))]), .iface 62 (.pointer (some a))] w fun r w' => r = .returned (.bool true) ∧ Below w.heap.size w w' := by
  obtain ⟨i, hi, hcmp⟩ := Option.map_eq_some_iff.1 i_comp
  obtain ⟨j, hj, hjs⟩ := Option.map_eq_some_iff.1 i_size
  have h19 := @run_callFunc_extern Tryd.prog 19 _ Extern.ReflectliteType.typeOf Tryd.func19 (by kernel_rfl) (by kernel_rfl) (by kernel_rfl) (by kernel_rfl)
  have h41 := @run_callFunc_extern Tryd.prog 41 _ cmpE Tryd.func41 (by kernel_rfl) (by kernel_rfl) (by kernel_rfl) (by kernel_rfl)
  have tT := i_typeOf
  have cT := i_comparable
  have mR := i_mComp
  have n1 := i_noIs
  have u1 := i_un
  have m1 := i_m
  have heq := fun w => run_eql_iface_ptr_same (P := Tryd.prog) w a Tryd.underlying39 Tryd.underlying62 hi hcmp hj
  have hty := fun w => run_eql_iface_types (P := Tryd.prog) 46 62 (.agg #[.string p, .iface 62 (.pointer (some a))]) (.pointer (some a)) Tryd.underlying39 (by decide) w
  go_enter Tryd.func17, Tryd.ntmps17
  go_wp2
  refine wp_loop_rounds 2 ?_
  rw [rounds_succ]
  go_wp2
  rw [rounds_succ]
  go_wp2
  go_ret
  exact ⟨rfl, by first | exact Below.refl _ _ | exact (Below.refl _ w).alloc (Nat.le_refl _) _⟩

set_option maxHeartbeats 4000000 in
/-- errors.Is of a fault in a fault. -/
theorem is_two (a : Addr) (q p : ByteArray) (w : World) :
    Calls Tryd.prog 17 #[.iface 46 (.agg #[.string q, .iface 46 (.agg #[.string p, .iface 62 (.pointer (some a))])]), .iface 62 (.pointer (some a))] w fun r w' => r = .returned (.bool true) ∧ Below w.heap.size w w' := by
  obtain ⟨i, hi, hcmp⟩ := Option.map_eq_some_iff.1 i_comp
  obtain ⟨j, hj, hjs⟩ := Option.map_eq_some_iff.1 i_size
  have h19 := @run_callFunc_extern Tryd.prog 19 _ Extern.ReflectliteType.typeOf Tryd.func19 (by kernel_rfl) (by kernel_rfl) (by kernel_rfl) (by kernel_rfl)
  have h41 := @run_callFunc_extern Tryd.prog 41 _ cmpE Tryd.func41 (by kernel_rfl) (by kernel_rfl) (by kernel_rfl) (by kernel_rfl)
  have tT := i_typeOf
  have cT := i_comparable
  have mR := i_mComp
  have n1 := i_noIs
  have u1 := i_un
  have m1 := i_m
  have heq := fun w => run_eql_iface_ptr_same (P := Tryd.prog) w a Tryd.underlying39 Tryd.underlying62 hi hcmp hj
  have hty := fun w => run_eql_iface_types (P := Tryd.prog) 46 62 (.agg #[.string p, .iface 62 (.pointer (some a))]) (.pointer (some a)) Tryd.underlying39 (by decide) w
  have hty2 := fun w => run_eql_iface_types (P := Tryd.prog) 46 62 (.agg #[.string q, .iface 46 (.agg #[.string p, .iface 62 (.pointer (some a))])]) (.pointer (some a)) Tryd.underlying39 (by decide) w
  go_enter Tryd.func17, Tryd.ntmps17
  go_wp2
  refine wp_loop_rounds 3 ?_
  rw [rounds_succ]
  go_wp2
  rw [rounds_succ]
  go_wp2
  rw [rounds_succ]
  go_wp2
  go_ret
  exact ⟨rfl, by first | exact Below.refl _ _ | exact (Below.refl _ w).alloc (Nat.le_refl _) _ | exact ((Below.refl _ w).alloc (Nat.le_refl _) _).alloc (by simp) _⟩

end Go.Proofs.YthlgfejdmigifaaDoor
