/- errors.Is of the errors of stamp and seen. -/
import Derived.Test.YtdeojcodbojmoaaGreatDoorErs
import Derived.LaidEql
import Derived.Stop.Asserts
import Derived.RowKitTokens
namespace Go.Proofs.YtdeojcodbojmoaaGreatDoor
open Go.RowKit Go.Extern.Stop Go.Stop Go.Extern
set_option maxRecDepth 100000
set_option linter.unusedVariables false

theorem i_typeOf (v : Value) (w : World) : (Extern.ReflectliteType.typeOf #[.iface 185 v]).run Tryz.prog w = .ok (.iface 133 (.agg #[.pointer (some ⟨7, 185, none⟩)])) w := by kernel_rfl
/-- What the library's Comparable is in the model. -/
def cmpE : Array Value → Sem Value := Extern.ReflectliteType.method fun t => do Extern.Rtype.noPackHeld "Comparable" t; pure (.bool (← typeInfo t).comparable)
theorem i_comparable (w : World) : (cmpE #[.agg #[.pointer (some ⟨7, 185, none⟩)]]).run Tryz.prog w = .ok (.bool true) w := by kernel_rfl
theorem i_mComp (v : Value) (w : World) : (Go.method 315 133 v "Comparable").run Tryz.prog w = .ok (142, v) w := by kernel_rfl
theorem i_comp : (Tryz.prog.info? 185).map (·.comparable) = some true := by kernel_rfl
theorem i_size : (Tryz.prog.info? 204).map (·.size) = some 1 := by kernel_rfl
theorem i_noIs163 (v : Value) (xT : TypeId) (w : World) : (Instr.typeAssert (.iface 163 v) xT 144 true).run Tryz.prog w = .ok (.tuple #[.nilIface, .bool false]) w := run_typeAssert_lacksB Tryz.underlying144 (by kernel_rfl) (by kernel_rfl) v xT w
theorem i_noIs148 (v : Value) (xT : TypeId) (w : World) : (Instr.typeAssert (.iface 148 v) xT 144 true).run Tryz.prog w = .ok (.tuple #[.nilIface, .bool false]) w := run_typeAssert_lacksB Tryz.underlying144 (by kernel_rfl) (by kernel_rfl) v xT w
theorem i_noIs112 (v : Value) (xT : TypeId) (w : World) : (Instr.typeAssert (.iface 112 v) xT 144 true).run Tryz.prog w = .ok (.tuple #[.nilIface, .bool false]) w := run_typeAssert_lacksB Tryz.underlying144 (by kernel_rfl) (by kernel_rfl) v xT w
theorem i_un163 (v : Value) (xT : TypeId) (w : World) : (Instr.typeAssert (.iface 163 v) xT 140 true).run Tryz.prog w = .ok (.tuple #[.iface 163 v, .bool true]) w := run_typeAssert_hasB Tryz.underlying140 (by kernel_rfl) v xT w
theorem i_un148 (v : Value) (xT : TypeId) (w : World) : (Instr.typeAssert (.iface 148 v) xT 140 true).run Tryz.prog w = .ok (.tuple #[.iface 148 v, .bool true]) w := run_typeAssert_hasB Tryz.underlying140 (by kernel_rfl) v xT w
theorem i_un112 (v : Value) (xT : TypeId) (w : World) : (Instr.typeAssert (.iface 112 v) xT 140 true).run Tryz.prog w = .ok (.tuple #[.iface 112 v, .bool true]) w := run_typeAssert_hasB Tryz.underlying140 (by kernel_rfl) v xT w
theorem i_m163 (v : Value) (w : World) : (Go.method 315 163 v "Unwrap").run Tryz.prog w = .ok (154, v) w := by kernel_rfl
theorem i_m148 (v : Value) (w : World) : (Go.method 315 148 v "Unwrap").run Tryz.prog w = .ok (152, v) w := by kernel_rfl
theorem i_m112 (v : Value) (w : World) : (Go.method 315 112 v "Unwrap").run Tryz.prog w = .ok (136, v) w := by kernel_rfl

set_option maxHeartbeats 2000000 in
/-- errors.Is of a fault of a stamp. -/
theorem is_stamp (a : Addr) (p : ByteArray) (w : World) (hg : w.cell? ⟨2, 0, none⟩ = some (.iface 185 (.pointer (some a)))) :
    Calls Tryz.prog 40 #[.iface 163 (.agg #[.string p]), .iface 185 (.pointer (some a))] w fun r w' => r = .returned (.bool true) ∧ Below w.heap.size w w' := by
  have hlt : 2 < w.heap.size := World.block_lt_of_cell? w ⟨2, 0, none⟩ hg
  obtain ⟨i, hi, hcmp⟩ := Option.map_eq_some_iff.1 i_comp
  obtain ⟨j, hj, hjs⟩ := Option.map_eq_some_iff.1 i_size
  have h59 := @run_callFunc_extern Tryz.prog 59 _ Extern.ReflectliteType.typeOf Tryz.func59 (by kernel_rfl) (by kernel_rfl) (by kernel_rfl) (by kernel_rfl)
  have h142 := @run_callFunc_extern Tryz.prog 142 _ cmpE Tryz.func142 (by kernel_rfl) (by kernel_rfl) (by kernel_rfl) (by kernel_rfl)
  have tT := i_typeOf
  have cT := i_comparable
  have mR := i_mComp
  have n1 := i_noIs163
  have u1 := i_un163
  have m1 := i_m163
  have heq := fun w => run_eql_iface_ptr_same (P := Tryz.prog) w a Tryz.underlying65 Tryz.underlying185 hi hcmp hj
  have hty := fun w => run_eql_iface_types (P := Tryz.prog) 163 185 (.agg #[.string p]) (.pointer (some a)) Tryz.underlying65 (by decide) w
  go_enter Tryz.func40, Tryz.ntmps40
  go_wp2
  refine wp_loop_rounds 2 ?_
  rw [rounds_succ]
  go_wp2
  rw [rounds_succ]
  go_wp2
  go_ret
  exact ⟨rfl, by first | exact Below.refl _ _ | exact (Below.refl _ w).alloc (Nat.le_refl _) _⟩

set_option maxHeartbeats 4000000 in
/-- errors.Is of a fault of a head in a row. -/
theorem is_seen (a : Addr) (k : Int) (p : ByteArray) (w : World) (hg : w.cell? ⟨0, 0, none⟩ = some (.iface 185 (.pointer (some a)))) :
    Calls Tryz.prog 40 #[.iface 112 (.agg #[.int .i64 k, .iface 148 (.agg #[.string p])]), .iface 185 (.pointer (some a))] w fun r w' => r = .returned (.bool true) ∧ Below w.heap.size w w' := by
  have hlt : 0 < w.heap.size := World.block_lt_of_cell? w ⟨0, 0, none⟩ hg
  obtain ⟨i, hi, hcmp⟩ := Option.map_eq_some_iff.1 i_comp
  obtain ⟨j, hj, hjs⟩ := Option.map_eq_some_iff.1 i_size
  have h59 := @run_callFunc_extern Tryz.prog 59 _ Extern.ReflectliteType.typeOf Tryz.func59 (by kernel_rfl) (by kernel_rfl) (by kernel_rfl) (by kernel_rfl)
  have h142 := @run_callFunc_extern Tryz.prog 142 _ cmpE Tryz.func142 (by kernel_rfl) (by kernel_rfl) (by kernel_rfl) (by kernel_rfl)
  have tT := i_typeOf
  have cT := i_comparable
  have mR := i_mComp
  have n1 := i_noIs148
  have u1 := i_un148
  have m1 := i_m148
  have n2 := i_noIs112
  have u2 := i_un112
  have m2 := i_m112
  have heq := fun w => run_eql_iface_ptr_same (P := Tryz.prog) w a Tryz.underlying65 Tryz.underlying185 hi hcmp hj
  have hty := fun w => run_eql_iface_types (P := Tryz.prog) 148 185 (.agg #[.string p]) (.pointer (some a)) Tryz.underlying65 (by decide) w
  have hty2 := fun w => run_eql_iface_types (P := Tryz.prog) 112 185 (.agg #[.int .i64 k, .iface 148 (.agg #[.string p])]) (.pointer (some a)) Tryz.underlying65 (by decide) w
  go_enter Tryz.func40, Tryz.ntmps40
  go_wp2
  refine wp_loop_rounds 3 ?_
  rw [rounds_succ]
  go_wp2
  rw [rounds_succ]
  go_wp2
  rw [rounds_succ]
  go_wp2
  go_ret
  exact ⟨rfl, by first | exact Below.refl _ _ | exact (Below.refl _ w).alloc (Nat.le_refl _) _ | exact ((Below.refl _ w).alloc (Nat.le_refl _) _).alloc (by simp) _⟩

end Go.Proofs.YtdeojcodbojmoaaGreatDoor
