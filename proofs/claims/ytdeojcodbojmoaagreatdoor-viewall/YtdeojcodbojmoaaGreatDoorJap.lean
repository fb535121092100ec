/- errors.As over errors in parts. -/
/- errors.As over errors in parts: what it finds. -/
/- errors.Is of the errors of stamp and seen. -/
/- stamp.May and seen.checkHead of any stamp and head. -/
import Derived.Test.YtdeojcodbojmoaaGreatDoorJak
import Derived.Test.YtdeojcodbojmoaaGreatDoorJal
import Derived.Test.YtdeojcodbojmoaaGreatDoorJad
import Derived.LaidEql
import Derived.Stop.Asserts
import Derived.RowKitTokens
import Derived.Deep.RegionHeld3
namespace Go.Proofs.YtdeojcodbojmoaaGreatDoor
open Go.RowKit Go.Extern.Stop Go.Stop Go.Extern
set_option maxRecDepth 100000
set_option linter.unusedVariables false

/-- The package errors' own type stands in its variable. -/
def ErrT (w : World) : Prop := w.cell? ⟨1, 0, none⟩ = some (.iface 133 (.agg #[.pointer (some ⟨7, 65, none⟩)]))

theorem t_valueOf71 (t : Addr) (w : World) : (ReflectliteValue.unpack (.iface 71 (.pointer (some t)))).run Tryz.prog w = .ok (.agg #[.pointer (some ⟨7, 71, none⟩), .pointer (some ⟨w.heap.size, 0, none⟩), .int .u64 150]) (w.alloc (.cells #[.pointer (some t)] 71)) := by kernel_rfl
theorem t_type71 (a : Addr) (w : World) : (ReflectliteValue.methodAny (ReflectliteValue.valueError "reflectlite.Value.Type" 0) (fun t _ _ _ => ReflectliteType.toType t) #[.agg #[.pointer (some ⟨7, 71, none⟩), .pointer (some a), .int .u64 150]]).run Tryz.prog w = .ok (.iface 133 (.agg #[.pointer (some ⟨7, 71, none⟩)])) w := by kernel_rfl
theorem t_valueOf131 (t : Addr) (w : World) : (ReflectliteValue.unpack (.iface 131 (.pointer (some t)))).run Tryz.prog w = .ok (.agg #[.pointer (some ⟨7, 131, none⟩), .pointer (some ⟨w.heap.size, 0, none⟩), .int .u64 150]) (w.alloc (.cells #[.pointer (some t)] 131)) := by kernel_rfl
theorem t_type131 (a : Addr) (w : World) : (ReflectliteValue.methodAny (ReflectliteValue.valueError "reflectlite.Value.Type" 0) (fun t _ _ _ => ReflectliteType.toType t) #[.agg #[.pointer (some ⟨7, 131, none⟩), .pointer (some a), .int .u64 150]]).run Tryz.prog w = .ok (.iface 133 (.agg #[.pointer (some ⟨7, 131, none⟩)])) w := by kernel_rfl
theorem t_mKind (h : Value) (w : World) : (Go.method 315 133 (.agg #[h]) "Kind").run Tryz.prog w = .ok (128, h) w := by kernel_rfl
theorem t_mElem (h : Value) (w : World) : (Go.method 315 133 (.agg #[h]) "Elem").run Tryz.prog w = .ok (143, .agg #[h]) w := by kernel_rfl
theorem t_mImpl (h : Value) (w : World) : (Go.method 315 133 (.agg #[h]) "Implements").run Tryz.prog w = .ok (144, .agg #[h]) w := by kernel_rfl
theorem t_mAssi (h : Value) (w : World) : (Go.method 315 133 (.agg #[h]) "AssignableTo").run Tryz.prog w = .ok (141, .agg #[h]) w := by kernel_rfl
theorem t_kind71 (w : World) : ((ReflectliteType.abiMethod fun t => (fun a : Nat => Value.int IntKind.u8 (a : Int)) <$> Rtype.kind t) #[.pointer (some ⟨7, 71, none⟩)]).run Tryz.prog w = .ok (.int .u8 22) w := by kernel_rfl
theorem t_kind131 (w : World) : ((ReflectliteType.abiMethod fun t => (fun a : Nat => Value.int IntKind.u8 (a : Int)) <$> Rtype.kind t) #[.pointer (some ⟨7, 131, none⟩)]).run Tryz.prog w = .ok (.int .u8 22) w := by kernel_rfl
theorem t_kind69 (w : World) : ((ReflectliteType.abiMethod fun t => (fun a : Nat => Value.int IntKind.u8 (a : Int)) <$> Rtype.kind t) #[.pointer (some ⟨7, 69, none⟩)]).run Tryz.prog w = .ok (.int .u8 25) w := by kernel_rfl
theorem t_kind129 (w : World) : ((ReflectliteType.abiMethod fun t => (fun a : Nat => Value.int IntKind.u8 (a : Int)) <$> Rtype.kind t) #[.pointer (some ⟨7, 129, none⟩)]).run Tryz.prog w = .ok (.int .u8 25) w := by kernel_rfl
theorem t_elem71 (w : World) : (ReflectliteType.method ReflectliteType.elem #[.agg #[.pointer (some ⟨7, 71, none⟩)]]).run Tryz.prog w = .ok (.iface 133 (.agg #[.pointer (some ⟨7, 69, none⟩)])) w := by kernel_rfl
theorem t_elem131 (w : World) : (ReflectliteType.method ReflectliteType.elem #[.agg #[.pointer (some ⟨7, 131, none⟩)]]).run Tryz.prog w = .ok (.iface 133 (.agg #[.pointer (some ⟨7, 129, none⟩)])) w := by kernel_rfl
theorem t_impl69 (w : World) : (ReflectliteType.relation "Implements" ReflectliteType.implements_ #[.agg #[.pointer (some ⟨7, 69, none⟩)], .iface 133 (.agg #[.pointer (some ⟨7, 65, none⟩)])]).run Tryz.prog w = .ok (.bool true) w := by kernel_rfl
theorem t_impl129 (w : World) : (ReflectliteType.relation "Implements" ReflectliteType.implements_ #[.agg #[.pointer (some ⟨7, 129, none⟩)], .iface 133 (.agg #[.pointer (some ⟨7, 65, none⟩)])]).run Tryz.prog w = .ok (.bool true) w := by kernel_rfl
theorem t_typeOf69 (v : Value) (w : World) : (ReflectliteType.typeOf #[.iface 69 v]).run Tryz.prog w = .ok (.iface 133 (.agg #[.pointer (some ⟨7, 69, none⟩)])) w := by kernel_rfl
theorem t_typeOf129 (v : Value) (w : World) : (ReflectliteType.typeOf #[.iface 129 v]).run Tryz.prog w = .ok (.iface 133 (.agg #[.pointer (some ⟨7, 129, none⟩)])) w := by kernel_rfl
theorem t_typeOf124 (v : Value) (w : World) : (ReflectliteType.typeOf #[.iface 124 v]).run Tryz.prog w = .ok (.iface 133 (.agg #[.pointer (some ⟨7, 124, none⟩)])) w := by kernel_rfl
theorem t_ass69 (w : World) : (ReflectliteType.relation "AssignableTo" ReflectliteType.assignableTo #[.agg #[.pointer (some ⟨7, 69, none⟩)], .iface 133 (.agg #[.pointer (some ⟨7, 69, none⟩)])]).run Tryz.prog w = .ok (.bool true) w := by kernel_rfl
theorem t_ass129 (w : World) : (ReflectliteType.relation "AssignableTo" ReflectliteType.assignableTo #[.agg #[.pointer (some ⟨7, 129, none⟩)], .iface 133 (.agg #[.pointer (some ⟨7, 129, none⟩)])]).run Tryz.prog w = .ok (.bool true) w := by kernel_rfl
theorem t_ass124_69 (w : World) : (ReflectliteType.relation "AssignableTo" ReflectliteType.assignableTo #[.agg #[.pointer (some ⟨7, 124, none⟩)], .iface 133 (.agg #[.pointer (some ⟨7, 69, none⟩)])]).run Tryz.prog w = .ok (.bool false) w := by kernel_rfl
theorem t_ass124_129 (w : World) : (ReflectliteType.relation "AssignableTo" ReflectliteType.assignableTo #[.agg #[.pointer (some ⟨7, 124, none⟩)], .iface 133 (.agg #[.pointer (some ⟨7, 129, none⟩)])]).run Tryz.prog w = .ok (.bool false) w := by kernel_rfl
theorem t_valueOf69 (x : Value) (w : World) : (ReflectliteValue.unpack (.iface 69 (.agg #[x]))).run Tryz.prog w = .ok (.agg #[.pointer (some ⟨7, 69, none⟩), .pointer (some ⟨w.heap.size, 0, none⟩), .int .u64 153]) (w.alloc (.cells #[x] 69)) := by kernel_rfl
theorem t_valueOf129 (x : Value) (w : World) : (ReflectliteValue.unpack (.iface 129 (.agg #[x]))).run Tryz.prog w = .ok (.agg #[.pointer (some ⟨7, 129, none⟩), .pointer (some ⟨w.heap.size, 0, none⟩), .int .u64 153]) (w.alloc (.cells #[x] 129)) := by kernel_rfl
theorem t_elemOf71 (w : World) : (Rtype.elem? 71).run Tryz.prog w = .ok (some 69) w := by kernel_rfl
theorem t_elemOf131 (w : World) : (Rtype.elem? 131).run Tryz.prog w = .ok (some 129) w := by kernel_rfl
theorem t_mk69 (p : Addr) (w : World) : (ReflectliteValue.mk 69 p ReflectliteValue.flagAddr).run Tryz.prog w = .ok (.agg #[.pointer (some ⟨7, 69, none⟩), .pointer (some p), .int .u64 409]) w := by kernel_rfl
theorem t_mk129 (p : Addr) (w : World) : (ReflectliteValue.mk 129 p ReflectliteValue.flagAddr).run Tryz.prog w = .ok (.agg #[.pointer (some ⟨7, 129, none⟩), .pointer (some p), .int .u64 409]) w := by kernel_rfl
theorem t_parts71 (a : Addr) (w : World) : (ReflectliteValue.parts (.agg #[.pointer (some ⟨7, 71, none⟩), .pointer (some a), .int .u64 150])).run Tryz.prog w = .ok (some (71, a, 150)) w := by kernel_rfl
theorem t_parts131 (a : Addr) (w : World) : (ReflectliteValue.parts (.agg #[.pointer (some ⟨7, 131, none⟩), .pointer (some a), .int .u64 150])).run Tryz.prog w = .ok (some (131, a, 150)) w := by kernel_rfl
theorem t_parts69a (a : Addr) (w : World) : (ReflectliteValue.parts (.agg #[.pointer (some ⟨7, 69, none⟩), .pointer (some a), .int .u64 409])).run Tryz.prog w = .ok (some (69, a, 409)) w := by kernel_rfl
theorem t_parts69 (a : Addr) (w : World) : (ReflectliteValue.parts (.agg #[.pointer (some ⟨7, 69, none⟩), .pointer (some a), .int .u64 153])).run Tryz.prog w = .ok (some (69, a, 153)) w := by kernel_rfl
theorem t_parts129a (a : Addr) (w : World) : (ReflectliteValue.parts (.agg #[.pointer (some ⟨7, 129, none⟩), .pointer (some a), .int .u64 409])).run Tryz.prog w = .ok (some (129, a, 409)) w := by kernel_rfl
theorem t_parts129 (a : Addr) (w : World) : (ReflectliteValue.parts (.agg #[.pointer (some ⟨7, 129, none⟩), .pointer (some a), .int .u64 153])).run Tryz.prog w = .ok (some (129, a, 153)) w := by kernel_rfl
theorem t_direct69 (w : World) : (Rtype.directlyAssignable 69 69).run Tryz.prog w = .ok true w := by kernel_rfl
theorem t_direct129 (w : World) : (Rtype.directlyAssignable 129 129).run Tryz.prog w = .ok true w := by kernel_rfl
theorem t_noAs124 (v : Value) (xT : TypeId) (w : World) : (Instr.typeAssert (.iface 124 v) xT 137 true).run Tryz.prog w = .ok (.tuple #[.nilIface, .bool false]) w := run_typeAssert_lacksB Tryz.underlying137 (by kernel_rfl) (by kernel_rfl) v xT w
theorem t_unwrap124 (v : Value) (xT : TypeId) (w : World) : (Instr.typeAssert (.iface 124 v) xT 140 true).run Tryz.prog w = .ok (.tuple #[.iface 124 v, .bool true]) w := run_typeAssert_hasB Tryz.underlying140 (by kernel_rfl) v xT w
theorem t_mUnwrap124 (v : Value) (w : World) : (Go.method 315 124 v "Unwrap").run Tryz.prog w = .ok (138, v) w := by kernel_rfl

theorem t_rlm (z : Sem Value) (f : TypeId → Addr → Nat → Nat → Sem Value) (v : Value) :
    ReflectliteValue.method z f #[v] = (do match ← ReflectliteValue.parts v with | none => z | some (t, a, fl) => f t a fl (fl % 32)) := rfl

theorem t_isNil71 (a p : Addr) (W : World) (ha : W.cell? a = some (.pointer (some p))) :
    (ReflectliteValue.method (ReflectliteValue.valueError "reflectlite.Value.IsNil" 0) ReflectliteValue.isNil #[.agg #[.pointer (some ⟨7, 71, none⟩), .pointer (some a), .int .u64 150]]).run Tryz.prog W = .ok (.bool false) W := by
  rw [t_rlm]
  simp only [Sem.run_bind, t_parts71, Result.andThen]
  simp [ReflectliteValue.isNil, loadVar, isAgg, underlying, Tryz.underlying71, ha, Result.andThen]
theorem t_isNil131 (a p : Addr) (W : World) (ha : W.cell? a = some (.pointer (some p))) :
    (ReflectliteValue.method (ReflectliteValue.valueError "reflectlite.Value.IsNil" 0) ReflectliteValue.isNil #[.agg #[.pointer (some ⟨7, 131, none⟩), .pointer (some a), .int .u64 150]]).run Tryz.prog W = .ok (.bool false) W := by
  rw [t_rlm]
  simp only [Sem.run_bind, t_parts131, Result.andThen]
  simp [ReflectliteValue.isNil, loadVar, isAgg, underlying, Tryz.underlying131, ha, Result.andThen]
theorem t_elemV71 (a p : Addr) (W : World) (ha : W.cell? a = some (.pointer (some p))) :
    (ReflectliteValue.method (ReflectliteValue.valueError "reflectlite.Value.Elem" 0) ReflectliteValue.elem #[.agg #[.pointer (some ⟨7, 71, none⟩), .pointer (some a), .int .u64 150]]).run Tryz.prog W
      = .ok (.agg #[.pointer (some ⟨7, 69, none⟩), .pointer (some p), .int .u64 409]) W := by
  rw [t_rlm]
  simp only [Sem.run_bind, t_parts71, Result.andThen]
  simp [ReflectliteValue.elem, loadVar, isAgg, underlying, Tryz.underlying71, ha, Result.andThen, t_elemOf71, t_mk69]
theorem t_elemV131 (a p : Addr) (W : World) (ha : W.cell? a = some (.pointer (some p))) :
    (ReflectliteValue.method (ReflectliteValue.valueError "reflectlite.Value.Elem" 0) ReflectliteValue.elem #[.agg #[.pointer (some ⟨7, 131, none⟩), .pointer (some a), .int .u64 150]]).run Tryz.prog W
      = .ok (.agg #[.pointer (some ⟨7, 129, none⟩), .pointer (some p), .int .u64 409]) W := by
  rw [t_rlm]
  simp only [Sem.run_bind, t_parts131, Result.andThen]
  simp [ReflectliteValue.elem, loadVar, isAgg, underlying, Tryz.underlying131, ha, Result.andThen, t_elemOf131, t_mk129]

end Go.Proofs.YtdeojcodbojmoaaGreatDoor
namespace Go.Proofs.YtdeojcodbojmoaaGreatDoor
open Go.RowKit Go.Extern.Stop Go.Stop Go.Extern
set_option maxRecDepth 100000
set_option linter.unusedVariables false

theorem t_rls (v x : Value) : ReflectliteValue.set #[v, x] = (do
    let (some (dst, a, fl), some (src, b, _)) := (← ReflectliteValue.parts v, ← ReflectliteValue.parts x)
      | unsupported (.noEntry "extern/(internal/reflectlite.Value).Set.zeroValue")
    if fl / ReflectliteValue.flagAddr % 2 == 0 then unsupported (.noEntry "extern/(internal/reflectlite.Value).Set.unaddressable")
    let val ← loadVar src b
    if ← Rtype.directlyAssignable dst src then storeVar dst a val
    else if ← Rtype.implements dst src then
      if (← Rtype.kind src) == 20 then
        match val with
        | .nilIface => unsupported (.noEntry "extern/reflectlite: a nil value of one interface type handed on as a value of another")
        | _ => storeVar dst a val
      else storeVar dst a (.iface src val)
    else panicString ("reflectlite.Set: value of type " ++ (← Rtype.spelt src) ++ " is not assignable to type " ++ (← Rtype.spelt dst))
    pure (.tuple #[])) := rfl

theorem t_size69 (w : World) : (sizeOf 69).run Tryz.prog w = .ok 1 w := by kernel_rfl
theorem t_size129 (w : World) : (sizeOf 129).run Tryz.prog w = .ok 1 w := by kernel_rfl
theorem t_load69 (bb : Nat) (x : Int) (W : World) (hb : W.cell? ⟨bb, 0, none⟩ = some (.int .i64 x)) : (loadVar 69 ⟨bb, 0, none⟩).run Tryz.prog W = .ok (.agg #[.int .i64 x]) W := by
  simp [loadVar, isAgg, underlying, Tryz.underlying69, loadCells, loadCellsFrom, Addr.add, hb]
theorem t_store69 (tb : Nat) (x : Int) (old : Value) (W : World) (ht : W.cell? ⟨tb, 0, none⟩ = some old) (hf : W.frozen? ⟨tb, 0, none⟩ = false) : (storeVar 69 ⟨tb, 0, none⟩ (.agg #[.int .i64 x])).run Tryz.prog W = .ok () (W.setCell ⟨tb, 0, none⟩ (.int .i64 x)) := by
  simp [storeVar, Value.cells, storeCells, Addr.add]
  rw [run_store Tryz.prog W ⟨tb, 0, none⟩ _ _ (by rfl)]
  simp [ht, hf]
theorem t_set69 (tb bb : Nat) (x : Int) (old : Value) (W : World) (hb : W.cell? ⟨bb, 0, none⟩ = some (.int .i64 x)) (ht : W.cell? ⟨tb, 0, none⟩ = some old) (hf : W.frozen? ⟨tb, 0, none⟩ = false) :
    (ReflectliteValue.set #[.agg #[.pointer (some ⟨7, 69, none⟩), .pointer (some ⟨tb, 0, none⟩), .int .u64 409], .agg #[.pointer (some ⟨7, 69, none⟩), .pointer (some ⟨bb, 0, none⟩), .int .u64 153]]).run Tryz.prog W
      = .ok (.tuple #[]) (W.setCell ⟨tb, 0, none⟩ (.int .i64 x)) := by
  rw [t_rls]
  simp only [Sem.run_bind, t_parts69a, t_parts69, Result.andThen]
  simp [ReflectliteValue.flagAddr, t_direct69, t_load69 bb x W hb, t_store69 tb x old W ht hf]

theorem t_load129 (bb : Nat) (x : ByteArray) (W : World) (hb : W.cell? ⟨bb, 0, none⟩ = some (.string x)) : (loadVar 129 ⟨bb, 0, none⟩).run Tryz.prog W = .ok (.agg #[.string x]) W := by
  simp [loadVar, isAgg, underlying, Tryz.underlying129, loadCells, loadCellsFrom, Addr.add, hb]
theorem t_store129 (tb : Nat) (x : ByteArray) (old : Value) (W : World) (ht : W.cell? ⟨tb, 0, none⟩ = some old) (hf : W.frozen? ⟨tb, 0, none⟩ = false) : (storeVar 129 ⟨tb, 0, none⟩ (.agg #[.string x])).run Tryz.prog W = .ok () (W.setCell ⟨tb, 0, none⟩ (.string x)) := by
  simp [storeVar, Value.cells, storeCells, Addr.add]
  rw [run_store Tryz.prog W ⟨tb, 0, none⟩ _ _ (by rfl)]
  simp [ht, hf]
theorem t_set129 (tb bb : Nat) (x : ByteArray) (old : Value) (W : World) (hb : W.cell? ⟨bb, 0, none⟩ = some (.string x)) (ht : W.cell? ⟨tb, 0, none⟩ = some old) (hf : W.frozen? ⟨tb, 0, none⟩ = false) :
    (ReflectliteValue.set #[.agg #[.pointer (some ⟨7, 129, none⟩), .pointer (some ⟨tb, 0, none⟩), .int .u64 409], .agg #[.pointer (some ⟨7, 129, none⟩), .pointer (some ⟨bb, 0, none⟩), .int .u64 153]]).run Tryz.prog W
      = .ok (.tuple #[]) (W.setCell ⟨tb, 0, none⟩ (.string x)) := by
  rw [t_rls]
  simp only [Sem.run_bind, t_parts129a, t_parts129, Result.andThen]
  simp [ReflectliteValue.flagAddr, t_direct129, t_load129 bb x W hb, t_store129 tb x old W ht hf]


theorem mis_one {n : Nat} : ∀ {m : Nat} {v : Value}, Mis n v → Mis m v → n = m := by
  induction n with
  | zero =>
    rintro m v ⟨x, rfl⟩ h
    cases m with
    | zero => rfl
    | succ m => obtain ⟨p, v', e, _⟩ := h; cases e
  | succ n ih =>
    rintro m v ⟨p, v', rfl, h1⟩ h
    cases m with
    | zero => obtain ⟨x, e⟩ := h; cases e
    | succ m =>
      obtain ⟨p', v'', e, h2⟩ := h
      cases e
      rw [ih h1 h2]

theorem fau_one {n : Nat} : ∀ {m : Nat} {v : Value}, Fau n v → Fau m v → n = m := by
  induction n with
  | zero =>
    rintro m v ⟨x, rfl⟩ h
    cases m with
    | zero => rfl
    | succ m => obtain ⟨p, v', e, _⟩ := h; cases e
  | succ n ih =>
    rintro m v ⟨p, v', rfl, h1⟩ h
    cases m with
    | zero => obtain ⟨x, e⟩ := h; cases e
    | succ m =>
      obtain ⟨p', v'', e, h2⟩ := h
      cases e
      rw [ih h1 h2]

open Classical in
/-- In how many parts it lies. -/
noncomputable def dep (M : Nat → Value → Prop) (v : Value) : Nat := if h : ∃ k, M k v then h.choose else 0
theorem dep_mis {n : Nat} {v : Value} (h : Mis n v) : dep Mis v = n := by
  unfold dep
  rw [dif_pos ⟨n, h⟩]
  exact mis_one (Exists.choose_spec (⟨n, h⟩ : ∃ k, Mis k v)) h
theorem dep_fau {n : Nat} {v : Value} (h : Fau n v) : dep Fau v = n := by
  unfold dep
  rw [dif_pos ⟨n, h⟩]
  exact fau_one (Exists.choose_spec (⟨n, h⟩ : ∃ k, Fau k v)) h

set_option maxHeartbeats 4000000 in
/-- errors.as of an error in parts: the one that lies in them is told. -/
theorem as58_69 (n : Nat) (ev : Value) (tb vb : Nat) (old : Value) (w : World) (hm : Mis n ev) (ht : w.cell? ⟨tb, 0, none⟩ = some old) (hf : w.frozen? ⟨tb, 0, none⟩ = false) (hv : w.cell? ⟨vb, 0, none⟩ = some (.pointer (some ⟨tb, 0, none⟩))) :
    Calls Tryz.prog 58 #[ev, .iface 71 (.pointer (some ⟨tb, 0, none⟩)), .agg #[.pointer (some ⟨7, 71, none⟩), .pointer (some ⟨vb, 0, none⟩), .int .u64 150], .iface 133 (.agg #[.pointer (some ⟨7, 69, none⟩)])] w fun r w' => r = .returned (.bool true) ∧ (∃ x : Int, w'.cell? ⟨tb, 0, none⟩ = some (.int .i64 x)) ∧ Kept (But tb) w w' := by
  have htl : tb < w.heap.size := World.block_lt_of_cell? w ⟨tb, 0, none⟩ ht
  have hvl : vb < w.heap.size := World.block_lt_of_cell? w ⟨vb, 0, none⟩ hv
  have h59 := @run_callFunc_extern Tryz.prog 59 _ ReflectliteType.typeOf Tryz.func59 (by kernel_rfl) (by kernel_rfl) (by kernel_rfl) (by kernel_rfl)
  have h141 := @run_callFunc_extern Tryz.prog 141 _ (ReflectliteType.relation "AssignableTo" ReflectliteType.assignableTo) Tryz.func141 (by kernel_rfl) (by kernel_rfl) (by kernel_rfl) (by kernel_rfl)
  have h71 := @run_callFunc_extern Tryz.prog 71 _ (ReflectliteValue.method (ReflectliteValue.valueError "reflectlite.Value.Elem" 0) ReflectliteValue.elem) Tryz.func71 (by kernel_rfl) (by kernel_rfl) (by kernel_rfl) (by kernel_rfl)
  have h72 := @run_callFunc_extern Tryz.prog 72 _ ReflectliteValue.set Tryz.func72 (by kernel_rfl) (by kernel_rfl) (by kernel_rfl) (by kernel_rfl)
  have h55 := @run_callFunc_extern Tryz.prog 55 _ (fun args => ReflectliteValue.unpack (args.getD 0 (.tuple #[]))) Tryz.func55 (by kernel_rfl) (by kernel_rfl) (by kernel_rfl) (by kernel_rfl)
  have tO := t_typeOf69
  have tP := t_typeOf124
  have mA := t_mAssi
  have aT := t_ass69
  have aP := t_ass124_69
  have vT := t_valueOf69
  have nA := t_noAs124
  have uP := t_unwrap124
  have mU := t_mUnwrap124
  go_enter Tryz.func58, Tryz.ntmps58
  go_wp2_with fail
  obtain ⟨W, hW⟩ : ∃ W, W = w.alloc (.cells #[.pointer (some ⟨7, 71, none⟩), .pointer (some ⟨vb, 0, none⟩), .int .u64 150] 99) := ⟨_, rfl⟩
  rw [← hW]
  have htW : W.cell? ⟨tb, 0, none⟩ = some old := by rw [hW, World.cell?_alloc_past _ _ _ (hn := htl)]; exact ht
  have hfW : W.frozen? ⟨tb, 0, none⟩ = false := by rw [hW, World.frozen?_alloc_past _ _ _ (hn := htl)]; exact hf
  have hvW : W.cell? ⟨vb, 0, none⟩ = some (.pointer (some ⟨tb, 0, none⟩)) := by rw [hW, World.cell?_alloc_past _ _ _ (hn := hvl)]; exact hv
  have b0 : W.cell? ⟨w.heap.size, 0, none⟩ = some (.pointer (some ⟨7, 71, none⟩)) := by rw [hW]; simp
  have b1 : W.cell? ⟨w.heap.size, 1, none⟩ = some (.pointer (some ⟨vb, 0, none⟩)) := by rw [hW]; simp
  have b2 : W.cell? ⟨w.heap.size, 2, none⟩ = some (.int .u64 150) := by rw [hW]; simp
  have hsW : w.heap.size < W.heap.size := by rw [hW]; simp
  have HW : Hid (Below w.heap.size w W) := by rw [hW]; exact (Below.refl _ w).alloc (Nat.le_refl _) _
  clear hW hv ht hf
  go_loopw [0] (fun e wr => ∃ k, Mis k e ∧ Below W.heap.size W wr) (fun e _ => dep Mis e)
  case atStart => exact ⟨n, hm, Below.refl _ _⟩
  case round =>
    obtain ⟨k, hk, hbel⟩ := hrel
    have c0 := (hbel.cell (p := ⟨w.heap.size, 0, none⟩) hsW).trans b0
    have c1 := (hbel.cell (p := ⟨w.heap.size, 1, none⟩) hsW).trans b1
    have c2 := (hbel.cell (p := ⟨w.heap.size, 2, none⟩) hsW).trans b2
    have hsr : W.heap.size ≤ wr.heap.size := hbel.size
    have HB : Hid (Below w.heap.size w wr) := HW.out.trans (hbel.mono (by omega))
    have HB2 : Hid (Below W.heap.size W wr) := hbel
    cases k with
    | zero =>
      obtain ⟨x, rfl⟩ := hk
      have eV := t_elemV71 ⟨vb, 0, none⟩ ⟨tb, 0, none⟩ wr ((hbel.cell (p := ⟨vb, 0, none⟩) (by show vb < _; omega)).trans hvW)
      have sT := t_set69 tb wr.heap.size x old (wr.alloc (.cells #[.int .i64 x] 69)) (by simp) (by rw [World.cell?_alloc_past _ _ _ (hn := by omega)]; exact (hbel.cell (p := ⟨tb, 0, none⟩) (by show tb < _; omega)).trans htW) (by rw [World.frozen?_alloc_past _ _ _ (hn := by omega)]; exact (hbel.frozen (p := ⟨tb, 0, none⟩) (by show tb < _; omega)).trans hfW)
      have htr : (wr.alloc (.cells #[.int .i64 x] 69)).cell? ⟨tb, 0, none⟩ = some old := by rw [World.cell?_alloc_past _ _ _ (hn := by omega)]; exact (hbel.cell (p := ⟨tb, 0, none⟩) (by show tb < _; omega)).trans htW
      clear b0 b1 b2 htW hfW hvW hbel
      go_wp2
      go_ret
      refine ⟨rfl, ⟨x, World.cell?_setCell_same _ _ _ htr⟩, ?_⟩
      exact Kept.setCell (P := But tb) (p := ⟨tb, 0, none⟩) ((Kept.of_below HB.out).alloc _) (fun k _ hk => hk) _
    | succ k =>
      obtain ⟨p, v', rfl, hk'⟩ := id hk
      obtain ⟨T', x', rfl⟩ := hk'.iface
      have hd := dep_mis hk
      have hd' := dep_mis hk'
      have HD : Hid (dep Mis (.iface 124 (.agg #[.string p, .iface T' x'])) = k + 1 ∧ dep Mis (.iface T' x') = k) := ⟨hd, hd'⟩
      clear b0 b1 b2 htW hfW hvW hbel hd hd'
      go_wp2
      go_roundw
      case rel => exact ⟨k, hk', HB2.out.alloc HB2.out.size _⟩
      case measure =>
        show dep Mis (.iface T' x') < dep Mis (.iface 124 (.agg #[.string p, .iface T' x']))
        rw [HD.out.1, HD.out.2]; omega

set_option maxHeartbeats 4000000 in
/-- errors.as of an error in parts: the one that lies in them is told. -/
theorem as58_129 (n : Nat) (ev : Value) (tb vb : Nat) (old : Value) (w : World) (hm : Fau n ev) (ht : w.cell? ⟨tb, 0, none⟩ = some old) (hf : w.frozen? ⟨tb, 0, none⟩ = false) (hv : w.cell? ⟨vb, 0, none⟩ = some (.pointer (some ⟨tb, 0, none⟩))) :
    Calls Tryz.prog 58 #[ev, .iface 131 (.pointer (some ⟨tb, 0, none⟩)), .agg #[.pointer (some ⟨7, 131, none⟩), .pointer (some ⟨vb, 0, none⟩), .int .u64 150], .iface 133 (.agg #[.pointer (some ⟨7, 129, none⟩)])] w fun r w' => r = .returned (.bool true) ∧ (∃ x : ByteArray, w'.cell? ⟨tb, 0, none⟩ = some (.string x)) ∧ Kept (But tb) w w' := by
  have htl : tb < w.heap.size := World.block_lt_of_cell? w ⟨tb, 0, none⟩ ht
  have hvl : vb < w.heap.size := World.block_lt_of_cell? w ⟨vb, 0, none⟩ hv
  have h59 := @run_callFunc_extern Tryz.prog 59 _ ReflectliteType.typeOf Tryz.func59 (by kernel_rfl) (by kernel_rfl) (by kernel_rfl) (by kernel_rfl)
  have h141 := @run_callFunc_extern Tryz.prog 141 _ (ReflectliteType.relation "AssignableTo" ReflectliteType.assignableTo) Tryz.func141 (by kernel_rfl) (by kernel_rfl) (by kernel_rfl) (by kernel_rfl)
  have h71 := @run_callFunc_extern Tryz.prog 71 _ (ReflectliteValue.method (ReflectliteValue.valueError "reflectlite.Value.Elem" 0) ReflectliteValue.elem) Tryz.func71 (by kernel_rfl) (by kernel_rfl) (by kernel_rfl) (by kernel_rfl)
  have h72 := @run_callFunc_extern Tryz.prog 72 _ ReflectliteValue.set Tryz.func72 (by kernel_rfl) (by kernel_rfl) (by kernel_rfl) (by kernel_rfl)
  have h55 := @run_callFunc_extern Tryz.prog 55 _ (fun args => ReflectliteValue.unpack (args.getD 0 (.tuple #[]))) Tryz.func55 (by kernel_rfl) (by kernel_rfl) (by kernel_rfl) (by kernel_rfl)
  have tO := t_typeOf129
  have tP := t_typeOf124
  have mA := t_mAssi
  have aT := t_ass129
  have aP := t_ass124_129
  have vT := t_valueOf129
  have nA := t_noAs124
  have uP := t_unwrap124
  have mU := t_mUnwrap124
  go_enter Tryz.func58, Tryz.ntmps58
  go_wp2_with fail
  obtain ⟨W, hW⟩ : ∃ W, W = w.alloc (.cells #[.pointer (some ⟨7, 131, none⟩), .pointer (some ⟨vb, 0, none⟩), .int .u64 150] 99) := ⟨_, rfl⟩
  rw [← hW]
  have htW : W.cell? ⟨tb, 0, none⟩ = some old := by rw [hW, World.cell?_alloc_past _ _ _ (hn := htl)]; exact ht
  have hfW : W.frozen? ⟨tb, 0, none⟩ = false := by rw [hW, World.frozen?_alloc_past _ _ _ (hn := htl)]; exact hf
  have hvW : W.cell? ⟨vb, 0, none⟩ = some (.pointer (some ⟨tb, 0, none⟩)) := by rw [hW, World.cell?_alloc_past _ _ _ (hn := hvl)]; exact hv
  have b0 : W.cell? ⟨w.heap.size, 0, none⟩ = some (.pointer (some ⟨7, 131, none⟩)) := by rw [hW]; simp
  have b1 : W.cell? ⟨w.heap.size, 1, none⟩ = some (.pointer (some ⟨vb, 0, none⟩)) := by rw [hW]; simp
  have b2 : W.cell? ⟨w.heap.size, 2, none⟩ = some (.int .u64 150) := by rw [hW]; simp
  have hsW : w.heap.size < W.heap.size := by rw [hW]; simp
  have HW : Hid (Below w.heap.size w W) := by rw [hW]; exact (Below.refl _ w).alloc (Nat.le_refl _) _
  clear hW hv ht hf
  go_loopw [0] (fun e wr => ∃ k, Fau k e ∧ Below W.heap.size W wr) (fun e _ => dep Fau e)
  case atStart => exact ⟨n, hm, Below.refl _ _⟩
  case round =>
    obtain ⟨k, hk, hbel⟩ := hrel
    have c0 := (hbel.cell (p := ⟨w.heap.size, 0, none⟩) hsW).trans b0
    have c1 := (hbel.cell (p := ⟨w.heap.size, 1, none⟩) hsW).trans b1
    have c2 := (hbel.cell (p := ⟨w.heap.size, 2, none⟩) hsW).trans b2
    have hsr : W.heap.size ≤ wr.heap.size := hbel.size
    have HB : Hid (Below w.heap.size w wr) := HW.out.trans (hbel.mono (by omega))
    have HB2 : Hid (Below W.heap.size W wr) := hbel
    cases k with
    | zero =>
      obtain ⟨x, rfl⟩ := hk
      have eV := t_elemV131 ⟨vb, 0, none⟩ ⟨tb, 0, none⟩ wr ((hbel.cell (p := ⟨vb, 0, none⟩) (by show vb < _; omega)).trans hvW)
      have sT := t_set129 tb wr.heap.size x old (wr.alloc (.cells #[.string x] 129)) (by simp) (by rw [World.cell?_alloc_past _ _ _ (hn := by omega)]; exact (hbel.cell (p := ⟨tb, 0, none⟩) (by show tb < _; omega)).trans htW) (by rw [World.frozen?_alloc_past _ _ _ (hn := by omega)]; exact (hbel.frozen (p := ⟨tb, 0, none⟩) (by show tb < _; omega)).trans hfW)
      have htr : (wr.alloc (.cells #[.string x] 129)).cell? ⟨tb, 0, none⟩ = some old := by rw [World.cell?_alloc_past _ _ _ (hn := by omega)]; exact (hbel.cell (p := ⟨tb, 0, none⟩) (by show tb < _; omega)).trans htW
      clear b0 b1 b2 htW hfW hvW hbel
      go_wp2
      go_ret
      refine ⟨rfl, ⟨x, World.cell?_setCell_same _ _ _ htr⟩, ?_⟩
      exact Kept.setCell (P := But tb) (p := ⟨tb, 0, none⟩) ((Kept.of_below HB.out).alloc _) (fun k _ hk => hk) _
    | succ k =>
      obtain ⟨p, v', rfl, hk'⟩ := id hk
      obtain ⟨T', x', rfl⟩ := hk'.iface
      have hd := dep_fau hk
      have hd' := dep_fau hk'
      have HD : Hid (dep Fau (.iface 124 (.agg #[.string p, .iface T' x'])) = k + 1 ∧ dep Fau (.iface T' x') = k) := ⟨hd, hd'⟩
      clear b0 b1 b2 htW hfW hvW hbel hd hd'
      go_wp2
      go_roundw
      case rel => exact ⟨k, hk', HB2.out.alloc HB2.out.size _⟩
      case measure =>
        show dep Fau (.iface T' x') < dep Fau (.iface 124 (.agg #[.string p, .iface T' x']))
        rw [HD.out.1, HD.out.2]; omega

set_option maxHeartbeats 4000000 in
/-- errors.As of an error in parts, at a variable of the type that lies in them. -/
theorem as39_69 (n : Nat) (ev : Value) (tb : Nat) (old : Value) (w : World) (hg : ErrT w) (hm : Mis n ev) (ht : w.cell? ⟨tb, 0, none⟩ = some old) (hf : w.frozen? ⟨tb, 0, none⟩ = false) :
    Calls Tryz.prog 39 #[ev, .iface 71 (.pointer (some ⟨tb, 0, none⟩))] w fun r w' => r = .returned (.bool true) ∧ (∃ x : Int, w'.cell? ⟨tb, 0, none⟩ = some (.int .i64 x)) ∧ Kept (But tb) w w' := by
  unfold ErrT at hg
  obtain ⟨T', x', rfl⟩ := hm.iface
  have htl : tb < w.heap.size := World.block_lt_of_cell? w ⟨tb, 0, none⟩ ht
  have hlt : 1 < w.heap.size := World.block_lt_of_cell? w ⟨1, 0, none⟩ hg
  have h55 := @run_callFunc_extern Tryz.prog 55 _ (fun args => ReflectliteValue.unpack (args.getD 0 (.tuple #[]))) Tryz.func55 (by kernel_rfl) (by kernel_rfl) (by kernel_rfl) (by kernel_rfl)
  have h56 := @run_callFunc_extern Tryz.prog 56 _ (ReflectliteValue.methodAny (ReflectliteValue.valueError "reflectlite.Value.Type" 0) (fun t _ _ _ => ReflectliteType.toType t)) Tryz.func56 (by kernel_rfl) (by kernel_rfl) (by kernel_rfl) (by kernel_rfl)
  have h57 := @run_callFunc_extern Tryz.prog 57 _ (ReflectliteValue.method (ReflectliteValue.valueError "reflectlite.Value.IsNil" 0) ReflectliteValue.isNil) Tryz.func57 (by kernel_rfl) (by kernel_rfl) (by kernel_rfl) (by kernel_rfl)
  have h128 := @run_callFunc_extern Tryz.prog 128 _ (ReflectliteType.abiMethod fun t => do pure (.int .u8 (← Rtype.kind t))) Tryz.func128 (by kernel_rfl) (by kernel_rfl) (by kernel_rfl) (by kernel_rfl)
  have h143 := @run_callFunc_extern Tryz.prog 143 _ (ReflectliteType.method ReflectliteType.elem) Tryz.func143 (by kernel_rfl) (by kernel_rfl) (by kernel_rfl) (by kernel_rfl)
  have h144 := @run_callFunc_extern Tryz.prog 144 _ (ReflectliteType.relation "Implements" ReflectliteType.implements_) Tryz.func144 (by kernel_rfl) (by kernel_rfl) (by kernel_rfl) (by kernel_rfl)
  have f6 := t_valueOf71
  have f7 := t_type71
  have mK := t_mKind
  have mE := t_mElem
  have mI := t_mImpl
  have k71 := t_kind71
  have k69 := t_kind69
  have e71 := t_elem71
  have i69 := t_impl69
  obtain ⟨W, hW⟩ : ∃ W, W = (w.alloc (.cells #[.pointer (some ⟨tb, 0, none⟩)] 71)).alloc (.cells #[.pointer (some ⟨7, 71, none⟩), .pointer (some ⟨w.heap.size, 0, none⟩), .int .u64 150] 99) := ⟨_, rfl⟩
  have n8 := t_isNil71 ⟨w.heap.size, 0, none⟩ ⟨tb, 0, none⟩ W (by rw [hW, World.cell?_alloc_past _ _ _ (hn := by simp)]; simp)
  have hgW : W.cell? ⟨1, 0, none⟩ = some (.iface 133 (.agg #[.pointer (some ⟨7, 65, none⟩)])) := by
    rw [hW, World.cell?_alloc_past _ _ _ (hn := by simp; omega), World.cell?_alloc_past _ _ _ (hn := hlt)]; exact hg
  have htW : W.cell? ⟨tb, 0, none⟩ = some old := by rw [hW, World.cell?_alloc_past _ _ _ (hn := by simp; omega), World.cell?_alloc_past _ _ _ (hn := htl)]; exact ht
  have hfW : W.frozen? ⟨tb, 0, none⟩ = false := by rw [hW, World.frozen?_alloc_past _ _ _ (hn := by simp; omega), World.frozen?_alloc_past _ _ _ (hn := htl)]; exact hf
  have hvW : W.cell? ⟨w.heap.size, 0, none⟩ = some (.pointer (some ⟨tb, 0, none⟩)) := by rw [hW, World.cell?_alloc_past _ _ _ (hn := by simp)]; simp
  have HB : Hid (Below w.heap.size w W) := by rw [hW]; exact ((Below.refl _ w).alloc (Nat.le_refl _) _).alloc (by simp) _
  have c := as58_69 n (.iface T' x') tb w.heap.size old W hm htW hfW hvW
  rw [hW] at n8 hgW c
  clear hW htW hfW hvW ht hf hg hm
  go_enter Tryz.func39, Tryz.ntmps39
  go_wp2_with (first | (go_at_call 58; refine c.mono ?_; rintro r w1 ⟨rfl, hx, hk⟩))
  go_ret
  exact ⟨rfl, hx, (Kept.of_below (((Below.refl _ w).alloc (Nat.le_refl _) _).alloc (by simp) _)).trans hk⟩

set_option maxHeartbeats 4000000 in
/-- errors.As of an error in parts, at a variable of the type that lies in them. -/
theorem as39_129 (n : Nat) (ev : Value) (tb : Nat) (old : Value) (w : World) (hg : ErrT w) (hm : Fau n ev) (ht : w.cell? ⟨tb, 0, none⟩ = some old) (hf : w.frozen? ⟨tb, 0, none⟩ = false) :
    Calls Tryz.prog 39 #[ev, .iface 131 (.pointer (some ⟨tb, 0, none⟩))] w fun r w' => r = .returned (.bool true) ∧ (∃ x : ByteArray, w'.cell? ⟨tb, 0, none⟩ = some (.string x)) ∧ Kept (But tb) w w' := by
  unfold ErrT at hg
  obtain ⟨T', x', rfl⟩ := hm.iface
  have htl : tb < w.heap.size := World.block_lt_of_cell? w ⟨tb, 0, none⟩ ht
  have hlt : 1 < w.heap.size := World.block_lt_of_cell? w ⟨1, 0, none⟩ hg
  have h55 := @run_callFunc_extern Tryz.prog 55 _ (fun args => ReflectliteValue.unpack (args.getD 0 (.tuple #[]))) Tryz.func55 (by kernel_rfl) (by kernel_rfl) (by kernel_rfl) (by kernel_rfl)
  have h56 := @run_callFunc_extern Tryz.prog 56 _ (ReflectliteValue.methodAny (ReflectliteValue.valueError "reflectlite.Value.Type" 0) (fun t _ _ _ => ReflectliteType.toType t)) Tryz.func56 (by kernel_rfl) (by kernel_rfl) (by kernel_rfl) (by kernel_rfl)
  have h57 := @run_callFunc_extern Tryz.prog 57 _ (ReflectliteValue.method (ReflectliteValue.valueError "reflectlite.Value.IsNil" 0) ReflectliteValue.isNil) Tryz.func57 (by kernel_rfl) (by kernel_rfl) (by kernel_rfl) (by kernel_rfl)
  have h128 := @run_callFunc_extern Tryz.prog 128 _ (ReflectliteType.abiMethod fun t => do pure (.int .u8 (← Rtype.kind t))) Tryz.func128 (by kernel_rfl) (by kernel_rfl) (by kernel_rfl) (by kernel_rfl)
  have h143 := @run_callFunc_extern Tryz.prog 143 _ (ReflectliteType.method ReflectliteType.elem) Tryz.func143 (by kernel_rfl) (by kernel_rfl) (by kernel_rfl) (by kernel_rfl)
  have h144 := @run_callFunc_extern Tryz.prog 144 _ (ReflectliteType.relation "Implements" ReflectliteType.implements_) Tryz.func144 (by kernel_rfl) (by kernel_rfl) (by kernel_rfl) (by kernel_rfl)
  have f6 := t_valueOf131
  have f7 := t_type131
  have mK := t_mKind
  have mE := t_mElem
  have mI := t_mImpl
  have k71 := t_kind131
  have k69 := t_kind129
  have e71 := t_elem131
  have i69 := t_impl129
  obtain ⟨W, hW⟩ : ∃ W, W = (w.alloc (.cells #[.pointer (some ⟨tb, 0, none⟩)] 131)).alloc (.cells #[.pointer (some ⟨7, 131, none⟩), .pointer (some ⟨w.heap.size, 0, none⟩), .int .u64 150] 99) := ⟨_, rfl⟩
  have n8 := t_isNil131 ⟨w.heap.size, 0, none⟩ ⟨tb, 0, none⟩ W (by rw [hW, World.cell?_alloc_past _ _ _ (hn := by simp)]; simp)
  have hgW : W.cell? ⟨1, 0, none⟩ = some (.iface 133 (.agg #[.pointer (some ⟨7, 65, none⟩)])) := by
    rw [hW, World.cell?_alloc_past _ _ _ (hn := by simp; omega), World.cell?_alloc_past _ _ _ (hn := hlt)]; exact hg
  have htW : W.cell? ⟨tb, 0, none⟩ = some old := by rw [hW, World.cell?_alloc_past _ _ _ (hn := by simp; omega), World.cell?_alloc_past _ _ _ (hn := htl)]; exact ht
  have hfW : W.frozen? ⟨tb, 0, none⟩ = false := by rw [hW, World.frozen?_alloc_past _ _ _ (hn := by simp; omega), World.frozen?_alloc_past _ _ _ (hn := htl)]; exact hf
  have hvW : W.cell? ⟨w.heap.size, 0, none⟩ = some (.pointer (some ⟨tb, 0, none⟩)) := by rw [hW, World.cell?_alloc_past _ _ _ (hn := by simp)]; simp
  have HB : Hid (Below w.heap.size w W) := by rw [hW]; exact ((Below.refl _ w).alloc (Nat.le_refl _) _).alloc (by simp) _
  have c := as58_129 n (.iface T' x') tb w.heap.size old W hm htW hfW hvW
  rw [hW] at n8 hgW c
  clear hW htW hfW hvW ht hf hg hm
  go_enter Tryz.func39, Tryz.ntmps39
  go_wp2_with (first | (go_at_call 58; refine c.mono ?_; rintro r w1 ⟨rfl, hx, hk⟩))
  go_ret
  exact ⟨rfl, hx, (Kept.of_below (((Below.refl _ w).alloc (Nat.le_refl _) _).alloc (by simp) _)).trans hk⟩

end Go.Proofs.YtdeojcodbojmoaaGreatDoor
namespace Go.Proofs.YtdeojcodbojmoaaGreatDoor
open Go.RowKit Go.Extern.Stop Go.Stop Go.Extern
set_option maxRecDepth 100000
set_option linter.unusedVariables false

theorem i_typeOf (v : Value) (w : World) : (Extern.ReflectliteType.typeOf #[.iface 185 v]).run Tryz.prog w = .ok (.iface 133 (.agg #[.pointer (some ⟨7, 185, none⟩)])) w := by kernel_rfl
/-- What the library's Comparable is in the model. -/
def cmpE : Array Value → Sem Value := Extern.ReflectliteType.method fun t => do Extern.Rtype.noPackHeld "Comparable" t; pure (.bool (← typeInfo t).comparable)
theorem i_comparable (w : World) : (cmpE #[.agg #[.pointer (some ⟨7, 185, none⟩)]]).run Tryz.prog w = .ok (.bool true) w := by kernel_rfl
theorem i_mComp (v : Value) (w : World) : (Go.method 315 133 v "Comparable").run Tryz.prog w = .ok (142, v) w := by kernel_rfl
theorem i_comp : (Tryz.prog.info? 185).map (·.comparable) = some true := by kernel_rfl
theorem i_size : (Tryz.prog.info? 204).map (·.size) = some 1 := by kernel_rfl
theorem i_noIs163 (v : Value) (xT : TypeId) (w : World) : (Instr.typeAssert (.iface 163 v) xT 144 true).run Tryz.prog w = .ok (.tuple #[.nilIface, .bool false]) w := run_typeAssert_lacksB Tryz.underlying144 (by kernel_rfl) (by kernel_rfl) v xT w
theorem i_noIs148 (v : Value) (xT : TypeId) (w : World) : (Instr.typeAssert (.iface 148 v) xT 144 true).run Tryz.prog w = .ok (.tuple #[.nilIface, .bool false]) w := run_typeAssert_lacksB Tryz.underlying144 (by kernel_rfl) (by kernel_rfl) v xT w
theorem i_noIs112 (v : Value) (xT : TypeId) (w : World) : (Instr.typeAssert (.iface 112 v) xT 144 true).run Tryz.prog w = .ok (.tuple #[.nilIface, .bool false]) w := run_typeAssert_lacksB Tryz.underlying144 (by kernel_rfl) (by kernel_rfl) v xT w
theorem i_un163 (v : Value) (xT : TypeId) (w : World) : (Instr.typeAssert (.iface 163 v) xT 140 true).run Tryz.prog w = .ok (.tuple #[.iface 163 v, .bool true]) w := run_typeAssert_hasB Tryz.underlying140 (by kernel_rfl) v xT w
theorem i_un148 (v : Value) (xT : TypeId) (w : World) : (Instr.typeAssert (.iface 148 v) xT 140 true).run Tryz.prog w = .ok (.tuple #[.iface 148 v, .bool true]) w := run_typeAssert_hasB Tryz.underlying140 (by kernel_rfl) v xT w
theorem i_un112 (v : Value) (xT : TypeId) (w : World) : (Instr.typeAssert (.iface 112 v) xT 140 true).run Tryz.prog w = .ok (.tuple #[.iface 112 v, .bool true]) w := run_typeAssert_hasB Tryz.underlying140 (by kernel_rfl) v xT w
theorem i_m163 (v : Value) (w : World) : (Go.method 315 163 v "Unwrap").run Tryz.prog w = .ok (154, v) w := by kernel_rfl
theorem i_m148 (v : Value) (w : World) : (Go.method 315 148 v "Unwrap").run Tryz.prog w = .ok (152, v) w := by kernel_rfl
theorem i_m112 (v : Value) (w : World) : (Go.method 315 112 v "Unwrap").run Tryz.prog w = .ok (136, v) w := by kernel_rfl

set_option maxHeartbeats 2000000 in
/-- errors.Is of a fault of a stamp. -/
theorem is_stamp (a : Addr) (p : ByteArray) (w : World) (hg : w.cell? ⟨2, 0, none⟩ = some (.iface 185 (.pointer (some a)))) :
    Calls Tryz.prog 40 #[.iface 163 (.agg #[.string p]), .iface 185 (.pointer (some a))] w fun r w' => r = .returned (.bool true) ∧ Below w.heap.size w w' := by
  have hlt : 2 < w.heap.size := World.block_lt_of_cell? w ⟨2, 0, none⟩ hg
  obtain ⟨i, hi, hcmp⟩ := Option.map_eq_some_iff.1 i_comp
  obtain ⟨j, hj, hjs⟩ := Option.map_eq_some_iff.1 i_size
  have h59 := @run_callFunc_extern Tryz.prog 59 _ Extern.ReflectliteType.typeOf Tryz.func59 (by kernel_rfl) (by kernel_rfl) (by kernel_rfl) (by kernel_rfl)
  have h142 := @run_callFunc_extern Tryz.prog 142 _ cmpE Tryz.func142 (by kernel_rfl) (by kernel_rfl) (by kernel_rfl) (by kernel_rfl)
  have tT := i_typeOf
  have cT := i_comparable
  have mR := i_mComp
  have n1 := i_noIs163
  have u1 := i_un163
  have m1 := i_m163
  have heq := fun w => run_eql_iface_ptr_same (P := Tryz.prog) w a Tryz.underlying65 Tryz.underlying185 hi hcmp hj
  have hty := fun w => run_eql_iface_types (P := Tryz.prog) 163 185 (.agg #[.string p]) (.pointer (some a)) Tryz.underlying65 (by decide) w
  go_enter Tryz.func40, Tryz.ntmps40
  go_wp2
  refine wp_loop_rounds 2 ?_
  rw [rounds_succ]
  go_wp2
  rw [rounds_succ]
  go_wp2
  go_ret
  exact ⟨rfl, by first | exact Below.refl _ _ | exact (Below.refl _ w).alloc (Nat.le_refl _) _⟩

set_option maxHeartbeats 4000000 in
/-- errors.Is of a fault of a head in a row. -/
theorem is_seen (a : Addr) (k : Int) (p : ByteArray) (w : World) (hg : w.cell? ⟨0, 0, none⟩ = some (.iface 185 (.pointer (some a)))) :
    Calls Tryz.prog 40 #[.iface 112 (.agg #[.int .i64 k, .iface 148 (.agg #[.string p])]), .iface 185 (.pointer (some a))] w fun r w' => r = .returned (.bool true) ∧ Below w.heap.size w w' := by
  have hlt : 0 < w.heap.size := World.block_lt_of_cell? w ⟨0, 0, none⟩ hg
  obtain ⟨i, hi, hcmp⟩ := Option.map_eq_some_iff.1 i_comp
  obtain ⟨j, hj, hjs⟩ := Option.map_eq_some_iff.1 i_size
  have h59 := @run_callFunc_extern Tryz.prog 59 _ Extern.ReflectliteType.typeOf Tryz.func59 (by kernel_rfl) (by kernel_rfl) (by kernel_rfl) (by kernel_rfl)
  have h142 := @run_callFunc_extern Tryz.prog 142 _ cmpE Tryz.func142 (by kernel_rfl) (by kernel_rfl) (by kernel_rfl) (by kernel_rfl)
  have tT := i_typeOf
  have cT := i_comparable
  have mR := i_mComp
  have n1 := i_noIs148
  have u1 := i_un148
  have m1 := i_m148
  have n2 := i_noIs112
  have u2 := i_un112
  have m2 := i_m112
  have heq := fun w => run_eql_iface_ptr_same (P := Tryz.prog) w a Tryz.underlying65 Tryz.underlying185 hi hcmp hj
  have hty := fun w => run_eql_iface_types (P := Tryz.prog) 148 185 (.agg #[.string p]) (.pointer (some a)) Tryz.underlying65 (by decide) w
  have hty2 := fun w => run_eql_iface_types (P := Tryz.prog) 112 185 (.agg #[.int .i64 k, .iface 148 (.agg #[.string p])]) (.pointer (some a)) Tryz.underlying65 (by decide) w
  go_enter Tryz.func40, Tryz.ntmps40
  go_wp2
  refine wp_loop_rounds 3 ?_
  rw [rounds_succ]
  go_wp2
  rw [rounds_succ]
  go_wp2
  rw [rounds_succ]
  go_wp2
  go_ret
  exact ⟨rfl, by first | exact Below.refl _ _ | exact (Below.refl _ w).alloc (Nat.le_refl _) _ | exact ((Below.refl _ w).alloc (Nat.le_refl _) _).alloc (by simp) _⟩

end Go.Proofs.YtdeojcodbojmoaaGreatDoor
namespace Go.Proofs.YtdeojcodbojmoaaGreatDoor
open Go.RowKit
set_option maxRecDepth 100000
set_option linter.unusedVariables false

def f1 (n most : Int) : Bool := decide (1 ≤ n) && decide (n ≤ most)
/-- Which stamps may be. -/
def stOk (L R N : Int) : Bool := f1 L 5000 && (f1 R 5 && f1 N (min 1000 L))

set_option maxHeartbeats 1000000 in
theorem from96 (n m : Int) (w : World) : Calls Tryz.prog 96 #[.int .i64 n, .int .i64 m] w fun r w' => r = .returned (.bool (f1 n m)) ∧ w' = w := by
  unfold f1
  by_cases h1 : 1 ≤ n
  · have d1 : decide (1 ≤ n) = true := decide_eq_true h1
    rw [d1]
    go_enter Tryz.func96, Tryz.ntmps96
    go_wp2
    go_ret
    exact ⟨rfl, rfl⟩
  · have d1 : decide (1 ≤ n) = false := decide_eq_false h1
    rw [d1]
    go_enter Tryz.func96, Tryz.ntmps96
    go_wp2
    go_ret
    exact ⟨rfl, rfl⟩

/-- What check tells of a stamp. -/
def SkV (ok : Bool) (ev : Value) : Prop := (ok = true ∧ ev = .nilIface) ∨ (ok = false ∧ ∃ p, ev = .iface 163 (.agg #[.string p]))

set_option maxHeartbeats 2000000 in
theorem check87 (L R N : Int) (w : World) : Calls Tryz.prog 87 #[.agg #[.int .i64 L, .int .i64 R, .int .i64 N]] w fun r w' => (∃ ev, r = .returned ev ∧ SkV (stOk L R N) ev) ∧ Below w.heap.size w w' := by
  unfold stOk
  have c1 := from96 L 5000
  have c2 := from96 R 5
  have c3 := from96 N (min 1000 L)
  cases e1 : f1 L 5000 with
  | false =>
    rw [e1] at c1
    go_enter Tryz.func87, Tryz.ntmps87
    go_wp2_with fail
    refine (c1 _).mono ?_
    rintro r w1 ⟨rfl, rfl⟩
    go_wp2
    go_ret
    exact ⟨⟨_, rfl, .inr ⟨rfl, _, rfl⟩⟩, (Below.refl _ w).alloc (Nat.le_refl _) _⟩
  | true =>
    rw [e1] at c1
    cases e2 : f1 R 5 with
    | false =>
      rw [e2] at c2
      go_enter Tryz.func87, Tryz.ntmps87
      go_wp2_with fail
      refine (c1 _).mono ?_
      rintro r w1 ⟨rfl, rfl⟩
      go_wp2_with fail
      refine (c2 _).mono ?_
      rintro r w1 ⟨rfl, rfl⟩
      go_wp2
      go_ret
      exact ⟨⟨_, rfl, .inr ⟨rfl, _, rfl⟩⟩, (Below.refl _ w).alloc (Nat.le_refl _) _⟩
    | true =>
      rw [e2] at c2
      cases e3 : f1 N (min 1000 L) with
      | false =>
        rw [e3] at c3
        go_enter Tryz.func87, Tryz.ntmps87
        go_wp2_with fail
        refine (c1 _).mono ?_
        rintro r w1 ⟨rfl, rfl⟩
        go_wp2_with fail
        refine (c2 _).mono ?_
        rintro r w1 ⟨rfl, rfl⟩
        go_wp2_with fail
        refine (c3 _).mono ?_
        rintro r w1 ⟨rfl, rfl⟩
        go_wp2
        go_ret
        exact ⟨⟨_, rfl, .inr ⟨rfl, _, rfl⟩⟩, (Below.refl _ w).alloc (Nat.le_refl _) _⟩
      | true =>
        rw [e3] at c3
        go_enter Tryz.func87, Tryz.ntmps87
        go_wp2_with fail
        refine (c1 _).mono ?_
        rintro r w1 ⟨rfl, rfl⟩
        go_wp2_with fail
        refine (c2 _).mono ?_
        rintro r w1 ⟨rfl, rfl⟩
        go_wp2_with fail
        refine (c3 _).mono ?_
        rintro r w1 ⟨rfl, rfl⟩
        go_wp2
        go_ret
        exact ⟨⟨_, rfl, .inl ⟨rfl, rfl⟩⟩, (Below.refl _ w).alloc (Nat.le_refl _) _⟩

end Go.Proofs.YtdeojcodbojmoaaGreatDoor
