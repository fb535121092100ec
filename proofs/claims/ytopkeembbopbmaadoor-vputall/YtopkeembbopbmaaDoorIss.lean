/- errors.Is of the errors of bits. -/
import Derived.Test.YtopkeembbopbmaaDoorProg
import Derived.ProofKit
import Derived.WalkKit
import Derived.Below
import Derived.LaidEql
import Derived.Stop.Asserts
import Derived.RowKitTokens
namespace Go.Proofs.YtopkeembbopbmaaDoor
open Go.RowKit Go.Extern.Stop Go.Stop Go.Extern
set_option maxRecDepth 100000
set_option linter.unusedVariables false

theorem i_typeOf (v : Value) (w : World) : (Extern.ReflectliteType.typeOf #[.iface 135 v]).run Tryd.prog w = .ok (.iface 99 (.agg #[.pointer (some ⟨3, 135, none⟩)])) w := by kernel_rfl
/-- What the library's Comparable is in the model. -/
def cmpE : Array Value → Sem Value := Extern.ReflectliteType.method fun t => do Extern.Rtype.noPackHeld "Comparable" t; pure (.bool (← typeInfo t).comparable)
theorem i_comparable (w : World) : (cmpE #[.agg #[.pointer (some ⟨3, 135, none⟩)]]).run Tryd.prog w = .ok (.bool true) w := by kernel_rfl
theorem i_mComp (v : Value) (w : World) : (Go.method 266 99 v "Comparable").run Tryd.prog w = .ok (90, v) w := by kernel_rfl
theorem i_comp : (Tryd.prog.info? 135).map (·.comparable) = some true := by kernel_rfl
theorem i_size : (Tryd.prog.info? 155).map (·.size) = some 1 := by kernel_rfl
theorem i_noIs (v : Value) (xT : TypeId) (w : World) : (Instr.typeAssert (.iface 127 v) xT 132 true).run Tryd.prog w = .ok (.tuple #[.nilIface, .bool false]) w := run_typeAssert_lacksB Tryd.underlying132 (by kernel_rfl) (by kernel_rfl) v xT w
theorem i_un (v : Value) (xT : TypeId) (w : World) : (Instr.typeAssert (.iface 127 v) xT 107 true).run Tryd.prog w = .ok (.tuple #[.iface 127 v, .bool true]) w := run_typeAssert_hasB Tryd.underlying107 (by kernel_rfl) v xT w
theorem i_m (v : Value) (w : World) : (Go.method 266 127 v "Unwrap").run Tryd.prog w = .ok (102, v) w := by kernel_rfl

set_option maxHeartbeats 2000000 in
/-- errors.Is of no error. -/
theorem is_nil (a : Addr) (w : World) :
    Calls Tryd.prog 58 #[.nilIface, .iface 135 (.pointer (some a))] w fun r w' => r = .returned (.bool false) ∧ Below w.heap.size w w' := by
  go_enter Tryd.func58, Tryd.ntmps58
  go_wp2
  rw [run_eql_iface_nil_left w 135 _ Tryd.underlying50]
  go_wp2
  go_ret
  exact ⟨rfl, Below.refl _ _⟩

set_option maxHeartbeats 2000000 in
/-- errors.Is of a fault. -/
theorem is_one (a : Addr) (p : ByteArray) (w : World) :
    Calls Tryd.prog 58 #[.iface 127 (.agg #[.string p, .iface 135 (.pointer (some a))]), .iface 135 (.pointer (some a))] w fun r w' => r = .returned (.bool true) ∧ Below w.heap.size w w' := by
  obtain ⟨i, hi, hcmp⟩ := Option.map_eq_some_iff.1 i_comp
  obtain ⟨j, hj, hjs⟩ := Option.map_eq_some_iff.1 i_size
  have h19 := @run_callFunc_extern Tryd.prog 49 _ Extern.ReflectliteType.typeOf Tryd.func49 (by kernel_rfl) (by kernel_rfl) (by kernel_rfl) (by kernel_rfl)
  have h41 := @run_callFunc_extern Tryd.prog 90 _ cmpE Tryd.func90 (by kernel_rfl) (by kernel_rfl) (by kernel_rfl) (by kernel_rfl)
  have tT := i_typeOf
  have cT := i_comparable
  have mR := i_mComp
  have n1 := i_noIs
  have u1 := i_un
  have m1 := i_m
  have heq := fun w => run_eql_iface_ptr_same (P := Tryd.prog) w a Tryd.underlying50 Tryd.underlying135 hi hcmp hj
  have hty := fun w => run_eql_iface_types (P := Tryd.prog) 127 135 (.agg #[.string p, .iface 135 (.pointer (some a))]) (.pointer (some a)) Tryd.underlying50 (by decide) w
  go_enter Tryd.func58, Tryd.ntmps58
  go_wp2
  refine wp_loop_rounds 2 ?_
  rw [rounds_succ]
  go_wp2
  rw [rounds_succ]
  go_wp2
  go_ret
  exact ⟨rfl, by first | exact Below.refl _ _ | exact (Below.refl _ w).alloc (Nat.le_refl _) _⟩

set_option maxHeartbeats 4000000 in
/-- errors.Is of a fault in a fault. -/
theorem is_two (a : Addr) (q p : ByteArray) (w : World) :
    Calls Tryd.prog 58 #[.iface 127 (.agg #[.string q, .iface 127 (.agg #[.string p, .iface 135 (.pointer (some a))])]), .iface 135 (.pointer (some a))] w fun r w' => r = .returned (.bool true) ∧ Below w.heap.size w w' := by
  obtain ⟨i, hi, hcmp⟩ := Option.map_eq_some_iff.1 i_comp
  obtain ⟨j, hj, hjs⟩ := Option.map_eq_some_iff.1 i_size
  have h19 := @run_callFunc_extern Tryd.prog 49 _ Extern.ReflectliteType.typeOf Tryd.func49 (by kernel_rfl) (by kernel_rfl) (by kernel_rfl) (by kernel_rfl)
  have h41 := @run_callFunc_extern Tryd.prog 90 _ cmpE Tryd.func90 (by kernel_rfl) (by kernel_rfl) (by kernel_rfl) (by kernel_rfl)
  have tT := i_typeOf
  have cT := i_comparable
  have mR := i_mComp
  have n1 := i_noIs
  have u1 := i_un
  have m1 := i_m
  have heq := fun w => run_eql_iface_ptr_same (P := Tryd.prog) w a Tryd.underlying50 Tryd.underlying135 hi hcmp hj
  have hty := fun w => run_eql_iface_types (P := Tryd.prog) 127 135 (.agg #[.string p, .iface 135 (.pointer (some a))]) (.pointer (some a)) Tryd.underlying50 (by decide) w
  have hty2 := fun w => run_eql_iface_types (P := Tryd.prog) 127 135 (.agg #[.string q, .iface 127 (.agg #[.string p, .iface 135 (.pointer (some a))])]) (.pointer (some a)) Tryd.underlying50 (by decide) w
  go_enter Tryd.func58, Tryd.ntmps58
  go_wp2
  refine wp_loop_rounds 3 ?_
  rw [rounds_succ]
  go_wp2
  rw [rounds_succ]
  go_wp2
  rw [rounds_succ]
  go_wp2
  go_ret
  exact ⟨rfl, by first | exact Below.refl _ _ | exact (Below.refl _ w).alloc (Nat.le_refl _) _ | exact ((Below.refl _ w).alloc (Nat.le_refl _) _).alloc (by simp) _⟩

end Go.Proofs.YtopkeembbopbmaaDoor
