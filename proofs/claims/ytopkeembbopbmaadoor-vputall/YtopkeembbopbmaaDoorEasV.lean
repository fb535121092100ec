/- errors.As over errors in parts: vers. -/
import Derived.Test.YtopkeembbopbmaaDoorEas
import Derived.ProofKit
import Derived.LaidEql
import Derived.Stop.Asserts
import Derived.RowKitTokens
namespace Go.Proofs.YtopkeembbopbmaaDoor
open Go.RowKit Go.Extern.Stop Go.Stop Go.Extern
set_option maxRecDepth 100000
set_option linter.unusedVariables false

/-- An error that a filter may not be. -/
def FauV : Nat → Value → Prop
  | 0, v => ∃ x : ByteArray, v = .iface 93 (.agg #[.string x])
  | n + 1, v => ∃ p v', v = .iface 114 (.agg #[.string p, v']) ∧ FauV n v'

theorem FauV.iface {n : Nat} {v : Value} (h : FauV n v) : ∃ T x, v = .iface T x := by
  cases n with
  | zero => obtain ⟨x, rfl⟩ := h; exact ⟨_, _, rfl⟩
  | succ n => obtain ⟨p, v', rfl, _⟩ := h; exact ⟨_, _, rfl⟩


theorem t_valueOf131_V (t : Addr) (w : World) : (ReflectliteValue.unpack (.iface 95 (.pointer (some t)))).run Tryd.prog w = .ok (.agg #[.pointer (some ⟨3, 95, none⟩), .pointer (some ⟨w.heap.size, 0, none⟩), .int .u64 150]) (w.alloc (.cells #[.pointer (some t)] 95)) := by kernel_rfl
theorem t_type131_V (a : Addr) (w : World) : (ReflectliteValue.methodAny (ReflectliteValue.valueError "reflectlite.Value.Type" 0) (fun t _ _ _ => ReflectliteType.toType t) #[.agg #[.pointer (some ⟨3, 95, none⟩), .pointer (some a), .int .u64 150]]).run Tryd.prog w = .ok (.iface 99 (.agg #[.pointer (some ⟨3, 95, none⟩)])) w := by kernel_rfl
theorem t_kind131_V (w : World) : ((ReflectliteType.abiMethod fun t => (fun a : Nat => Value.int IntKind.u8 (a : Int)) <$> Rtype.kind t) #[.pointer (some ⟨3, 95, none⟩)]).run Tryd.prog w = .ok (.int .u8 22) w := by kernel_rfl
theorem t_kind129_V (w : World) : ((ReflectliteType.abiMethod fun t => (fun a : Nat => Value.int IntKind.u8 (a : Int)) <$> Rtype.kind t) #[.pointer (some ⟨3, 93, none⟩)]).run Tryd.prog w = .ok (.int .u8 25) w := by kernel_rfl
theorem t_elem131_V (w : World) : (ReflectliteType.method ReflectliteType.elem #[.agg #[.pointer (some ⟨3, 95, none⟩)]]).run Tryd.prog w = .ok (.iface 99 (.agg #[.pointer (some ⟨3, 93, none⟩)])) w := by kernel_rfl
theorem t_impl129_V (w : World) : (ReflectliteType.relation "Implements" ReflectliteType.implements_ #[.agg #[.pointer (some ⟨3, 93, none⟩)], .iface 99 (.agg #[.pointer (some ⟨3, 50, none⟩)])]).run Tryd.prog w = .ok (.bool true) w := by kernel_rfl
theorem t_typeOf129_V (v : Value) (w : World) : (ReflectliteType.typeOf #[.iface 93 v]).run Tryd.prog w = .ok (.iface 99 (.agg #[.pointer (some ⟨3, 93, none⟩)])) w := by kernel_rfl
theorem t_typeOf124_V (v : Value) (w : World) : (ReflectliteType.typeOf #[.iface 114 v]).run Tryd.prog w = .ok (.iface 99 (.agg #[.pointer (some ⟨3, 114, none⟩)])) w := by kernel_rfl
theorem t_ass129_V (w : World) : (ReflectliteType.relation "AssignableTo" ReflectliteType.assignableTo #[.agg #[.pointer (some ⟨3, 93, none⟩)], .iface 99 (.agg #[.pointer (some ⟨3, 93, none⟩)])]).run Tryd.prog w = .ok (.bool true) w := by kernel_rfl
theorem t_ass124_129_V (w : World) : (ReflectliteType.relation "AssignableTo" ReflectliteType.assignableTo #[.agg #[.pointer (some ⟨3, 114, none⟩)], .iface 99 (.agg #[.pointer (some ⟨3, 93, none⟩)])]).run Tryd.prog w = .ok (.bool false) w := by kernel_rfl
theorem t_valueOf129_V (x : Value) (w : World) : (ReflectliteValue.unpack (.iface 93 (.agg #[x]))).run Tryd.prog w = .ok (.agg #[.pointer (some ⟨3, 93, none⟩), .pointer (some ⟨w.heap.size, 0, none⟩), .int .u64 153]) (w.alloc (.cells #[x] 93)) := by kernel_rfl
theorem t_elemOf131_V (w : World) : (Rtype.elem? 95).run Tryd.prog w = .ok (some 93) w := by kernel_rfl
theorem t_mk129_V (p : Addr) (w : World) : (ReflectliteValue.mk 93 p ReflectliteValue.flagAddr).run Tryd.prog w = .ok (.agg #[.pointer (some ⟨3, 93, none⟩), .pointer (some p), .int .u64 409]) w := by kernel_rfl
theorem t_parts131_V (a : Addr) (w : World) : (ReflectliteValue.parts (.agg #[.pointer (some ⟨3, 95, none⟩), .pointer (some a), .int .u64 150])).run Tryd.prog w = .ok (some (95, a, 150)) w := by kernel_rfl
theorem t_parts129a_V (a : Addr) (w : World) : (ReflectliteValue.parts (.agg #[.pointer (some ⟨3, 93, none⟩), .pointer (some a), .int .u64 409])).run Tryd.prog w = .ok (some (93, a, 409)) w := by kernel_rfl
theorem t_parts129_V (a : Addr) (w : World) : (ReflectliteValue.parts (.agg #[.pointer (some ⟨3, 93, none⟩), .pointer (some a), .int .u64 153])).run Tryd.prog w = .ok (some (93, a, 153)) w := by kernel_rfl
theorem t_direct129_V (w : World) : (Rtype.directlyAssignable 93 93).run Tryd.prog w = .ok true w := by kernel_rfl
theorem t_noAs124_V (v : Value) (xT : TypeId) (w : World) : (Instr.typeAssert (.iface 114 v) xT 104 true).run Tryd.prog w = .ok (.tuple #[.nilIface, .bool false]) w := run_typeAssert_lacksB Tryd.underlying104 (by kernel_rfl) (by kernel_rfl) v xT w
theorem t_unwrap124_V (v : Value) (xT : TypeId) (w : World) : (Instr.typeAssert (.iface 114 v) xT 107 true).run Tryd.prog w = .ok (.tuple #[.iface 114 v, .bool true]) w := run_typeAssert_hasB Tryd.underlying107 (by kernel_rfl) v xT w
theorem t_mUnwrap124_V (v : Value) (w : World) : (Go.method 266 114 v "Unwrap").run Tryd.prog w = .ok (100, v) w := by kernel_rfl

theorem t_isNil131_V (a p : Addr) (W : World) (ha : W.cell? a = some (.pointer (some p))) :
    (ReflectliteValue.method (ReflectliteValue.valueError "reflectlite.Value.IsNil" 0) ReflectliteValue.isNil #[.agg #[.pointer (some ⟨3, 95, none⟩), .pointer (some a), .int .u64 150]]).run Tryd.prog W = .ok (.bool false) W := by
  rw [t_rlm]
  simp only [Sem.run_bind, t_parts131_V, Result.andThen]
  simp [ReflectliteValue.isNil, loadVar, isAgg, underlying, Tryd.underlying95, ha, Result.andThen]
theorem t_elemV131_V (a p : Addr) (W : World) (ha : W.cell? a = some (.pointer (some p))) :
    (ReflectliteValue.method (ReflectliteValue.valueError "reflectlite.Value.Elem" 0) ReflectliteValue.elem #[.agg #[.pointer (some ⟨3, 95, none⟩), .pointer (some a), .int .u64 150]]).run Tryd.prog W
      = .ok (.agg #[.pointer (some ⟨3, 93, none⟩), .pointer (some p), .int .u64 409]) W := by
  rw [t_rlm]
  simp only [Sem.run_bind, t_parts131_V, Result.andThen]
  simp [ReflectliteValue.elem, loadVar, isAgg, underlying, Tryd.underlying95, ha, Result.andThen, t_elemOf131_V, t_mk129_V]


theorem t_size129_V (w : World) : (sizeOf 93).run Tryd.prog w = .ok 1 w := by kernel_rfl
theorem t_load129_V (bb : Nat) (x : ByteArray) (W : World) (hb : W.cell? ⟨bb, 0, none⟩ = some (.string x)) : (loadVar 93 ⟨bb, 0, none⟩).run Tryd.prog W = .ok (.agg #[.string x]) W := by
  simp [loadVar, isAgg, underlying, Tryd.underlying93, loadCells, loadCellsFrom, Addr.add, hb]
theorem t_store129_V (tb : Nat) (x : ByteArray) (old : Value) (W : World) (ht : W.cell? ⟨tb, 0, none⟩ = some old) (hf : W.frozen? ⟨tb, 0, none⟩ = false) : (storeVar 93 ⟨tb, 0, none⟩ (.agg #[.string x])).run Tryd.prog W = .ok () (W.setCell ⟨tb, 0, none⟩ (.string x)) := by
  simp [storeVar, Value.cells, storeCells, Addr.add]
  rw [run_store Tryd.prog W ⟨tb, 0, none⟩ _ _ (by rfl)]
  simp [ht, hf]
theorem t_set129_V (tb bb : Nat) (x : ByteArray) (old : Value) (W : World) (hb : W.cell? ⟨bb, 0, none⟩ = some (.string x)) (ht : W.cell? ⟨tb, 0, none⟩ = some old) (hf : W.frozen? ⟨tb, 0, none⟩ = false) :
    (ReflectliteValue.set #[.agg #[.pointer (some ⟨3, 93, none⟩), .pointer (some ⟨tb, 0, none⟩), .int .u64 409], .agg #[.pointer (some ⟨3, 93, none⟩), .pointer (some ⟨bb, 0, none⟩), .int .u64 153]]).run Tryd.prog W
      = .ok (.tuple #[]) (W.setCell ⟨tb, 0, none⟩ (.string x)) := by
  rw [t_rls]
  simp only [Sem.run_bind, t_parts129a_V, t_parts129_V, Result.andThen]
  simp [ReflectliteValue.flagAddr, t_direct129_V, t_load129_V bb x W hb, t_store129_V tb x old W ht hf]


theorem fau_oneV {n : Nat} : ∀ {m : Nat} {v : Value}, FauV n v → FauV m v → n = m := by
  induction n with
  | zero =>
    rintro m v ⟨x, rfl⟩ h
    cases m with
    | zero => rfl
    | succ m => obtain ⟨p, v', e, _⟩ := h; cases e
  | succ n ih =>
    rintro m v ⟨p, v', rfl, h1⟩ h
    cases m with
    | zero => obtain ⟨x, e⟩ := h; cases e
    | succ m =>
      obtain ⟨p', v'', e, h2⟩ := h
      cases e
      rw [ih h1 h2]

theorem dep_fauV {n : Nat} {v : Value} (h : FauV n v) : dep FauV v = n := by
  unfold dep
  rw [dif_pos ⟨n, h⟩]
  exact fau_oneV (Exists.choose_spec (⟨n, h⟩ : ∃ k, FauV k v)) h

set_option maxHeartbeats 4000000 in
/-- errors.as of an error in parts: the one that lies in them is told. -/
theorem as38V (n : Nat) (ev : Value) (tb vb : Nat) (old : Value) (w : World) (hm : FauV n ev) (ht : w.cell? ⟨tb, 0, none⟩ = some old) (hf : w.frozen? ⟨tb, 0, none⟩ = false) (hv : w.cell? ⟨vb, 0, none⟩ = some (.pointer (some ⟨tb, 0, none⟩))) :
    Calls Tryd.prog 38 #[ev, .iface 95 (.pointer (some ⟨tb, 0, none⟩)), .agg #[.pointer (some ⟨3, 95, none⟩), .pointer (some ⟨vb, 0, none⟩), .int .u64 150], .iface 99 (.agg #[.pointer (some ⟨3, 93, none⟩)])] w fun r w' => r = .returned (.bool true) ∧ (∃ x : ByteArray, w'.cell? ⟨tb, 0, none⟩ = some (.string x)) ∧ Kept (But tb) w w' := by
  have htl : tb < w.heap.size := World.block_lt_of_cell? w ⟨tb, 0, none⟩ ht
  have hvl : vb < w.heap.size := World.block_lt_of_cell? w ⟨vb, 0, none⟩ hv
  have h59 := @run_callFunc_extern Tryd.prog 49 _ ReflectliteType.typeOf Tryd.func49 (by kernel_rfl) (by kernel_rfl) (by kernel_rfl) (by kernel_rfl)
  have h141 := @run_callFunc_extern Tryd.prog 89 _ (ReflectliteType.relation "AssignableTo" ReflectliteType.assignableTo) Tryd.func89 (by kernel_rfl) (by kernel_rfl) (by kernel_rfl) (by kernel_rfl)
  have h71 := @run_callFunc_extern Tryd.prog 50 _ (ReflectliteValue.method (ReflectliteValue.valueError "reflectlite.Value.Elem" 0) ReflectliteValue.elem) Tryd.func50 (by kernel_rfl) (by kernel_rfl) (by kernel_rfl) (by kernel_rfl)
  have h72 := @run_callFunc_extern Tryd.prog 51 _ ReflectliteValue.set Tryd.func51 (by kernel_rfl) (by kernel_rfl) (by kernel_rfl) (by kernel_rfl)
  have h55 := @run_callFunc_extern Tryd.prog 35 _ (fun args => ReflectliteValue.unpack (args.getD 0 (.tuple #[]))) Tryd.func35 (by kernel_rfl) (by kernel_rfl) (by kernel_rfl) (by kernel_rfl)
  have tO := t_typeOf129_V
  have tP := t_typeOf124_V
  have mA := t_mAssi
  have aT := t_ass129_V
  have aP := t_ass124_129_V
  have vT := t_valueOf129_V
  have nA := t_noAs124_V
  have uP := t_unwrap124_V
  have mU := t_mUnwrap124_V
  go_enter Tryd.func38, Tryd.ntmps38
  go_wp2_with fail
  obtain ⟨W, hW⟩ : ∃ W, W = w.alloc (.cells #[.pointer (some ⟨3, 95, none⟩), .pointer (some ⟨vb, 0, none⟩), .int .u64 150] 77) := ⟨_, rfl⟩
  rw [← hW]
  have htW : W.cell? ⟨tb, 0, none⟩ = some old := by rw [hW, World.cell?_alloc_past _ _ _ (hn := htl)]; exact ht
  have hfW : W.frozen? ⟨tb, 0, none⟩ = false := by rw [hW, World.frozen?_alloc_past _ _ _ (hn := htl)]; exact hf
  have hvW : W.cell? ⟨vb, 0, none⟩ = some (.pointer (some ⟨tb, 0, none⟩)) := by rw [hW, World.cell?_alloc_past _ _ _ (hn := hvl)]; exact hv
  have b0 : W.cell? ⟨w.heap.size, 0, none⟩ = some (.pointer (some ⟨3, 95, none⟩)) := by rw [hW]; simp
  have b1 : W.cell? ⟨w.heap.size, 1, none⟩ = some (.pointer (some ⟨vb, 0, none⟩)) := by rw [hW]; simp
  have b2 : W.cell? ⟨w.heap.size, 2, none⟩ = some (.int .u64 150) := by rw [hW]; simp
  have hsW : w.heap.size < W.heap.size := by rw [hW]; simp
  have HW : Hid (Below w.heap.size w W) := by rw [hW]; exact (Below.refl _ w).alloc (Nat.le_refl _) _
  clear hW hv ht hf
  go_loopw [0] (fun e wr => ∃ k, FauV k e ∧ Below W.heap.size W wr) (fun e _ => dep FauV e)
  case atStart => exact ⟨n, hm, Below.refl _ _⟩
  case round =>
    obtain ⟨k, hk, hbel⟩ := hrel
    have c0 := (hbel.cell (p := ⟨w.heap.size, 0, none⟩) hsW).trans b0
    have c1 := (hbel.cell (p := ⟨w.heap.size, 1, none⟩) hsW).trans b1
    have c2 := (hbel.cell (p := ⟨w.heap.size, 2, none⟩) hsW).trans b2
    have hsr : W.heap.size ≤ wr.heap.size := hbel.size
    have HB : Hid (Below w.heap.size w wr) := HW.out.trans (hbel.mono (by omega))
    have HB2 : Hid (Below W.heap.size W wr) := hbel
    cases k with
    | zero =>
      obtain ⟨x, rfl⟩ := hk
      have eV := t_elemV131_V ⟨vb, 0, none⟩ ⟨tb, 0, none⟩ wr ((hbel.cell (p := ⟨vb, 0, none⟩) (by show vb < _; omega)).trans hvW)
      have sT := t_set129_V tb wr.heap.size x old (wr.alloc (.cells #[.string x] 93)) (by simp) (by rw [World.cell?_alloc_past _ _ _ (hn := by omega)]; exact (hbel.cell (p := ⟨tb, 0, none⟩) (by show tb < _; omega)).trans htW) (by rw [World.frozen?_alloc_past _ _ _ (hn := by omega)]; exact (hbel.frozen (p := ⟨tb, 0, none⟩) (by show tb < _; omega)).trans hfW)
      have htr : (wr.alloc (.cells #[.string x] 93)).cell? ⟨tb, 0, none⟩ = some old := by rw [World.cell?_alloc_past _ _ _ (hn := by omega)]; exact (hbel.cell (p := ⟨tb, 0, none⟩) (by show tb < _; omega)).trans htW
      clear b0 b1 b2 htW hfW hvW hbel
      go_wp2
      go_ret
      refine ⟨rfl, ⟨x, World.cell?_setCell_same _ _ _ htr⟩, ?_⟩
      exact Kept.setCell (P := But tb) (p := ⟨tb, 0, none⟩) ((Kept.of_below HB.out).alloc _) (fun k _ hk => hk) _
    | succ k =>
      obtain ⟨p, v', rfl, hk'⟩ := id hk
      obtain ⟨T', x', rfl⟩ := hk'.iface
      have hd := dep_fauV hk
      have hd' := dep_fauV hk'
      have HD : Hid (dep FauV (.iface 114 (.agg #[.string p, .iface T' x'])) = k + 1 ∧ dep FauV (.iface T' x') = k) := ⟨hd, hd'⟩
      clear b0 b1 b2 htW hfW hvW hbel hd hd'
      go_wp2
      go_roundw
      case rel => exact ⟨k, hk', HB2.out.alloc HB2.out.size _⟩
      case measure =>
        show dep FauV (.iface T' x') < dep FauV (.iface 114 (.agg #[.string p, .iface T' x']))
        rw [HD.out.1, HD.out.2]; omega

set_option maxHeartbeats 4000000 in
/-- errors.As of an error in parts, at a variable of the type that lies in them. -/
theorem as21V (n : Nat) (ev : Value) (tb : Nat) (old : Value) (w : World) (hg : ErrT w) (hm : FauV n ev) (ht : w.cell? ⟨tb, 0, none⟩ = some old) (hf : w.frozen? ⟨tb, 0, none⟩ = false) :
    Calls Tryd.prog 21 #[ev, .iface 95 (.pointer (some ⟨tb, 0, none⟩))] w fun r w' => r = .returned (.bool true) ∧ (∃ x : ByteArray, w'.cell? ⟨tb, 0, none⟩ = some (.string x)) ∧ Kept (But tb) w w' := by
  unfold ErrT at hg
  obtain ⟨T', x', rfl⟩ := hm.iface
  have htl : tb < w.heap.size := World.block_lt_of_cell? w ⟨tb, 0, none⟩ ht
  have hlt : 0 < w.heap.size := World.block_lt_of_cell? w ⟨0, 0, none⟩ hg
  have h55 := @run_callFunc_extern Tryd.prog 35 _ (fun args => ReflectliteValue.unpack (args.getD 0 (.tuple #[]))) Tryd.func35 (by kernel_rfl) (by kernel_rfl) (by kernel_rfl) (by kernel_rfl)
  have h56 := @run_callFunc_extern Tryd.prog 36 _ (ReflectliteValue.methodAny (ReflectliteValue.valueError "reflectlite.Value.Type" 0) (fun t _ _ _ => ReflectliteType.toType t)) Tryd.func36 (by kernel_rfl) (by kernel_rfl) (by kernel_rfl) (by kernel_rfl)
  have h57 := @run_callFunc_extern Tryd.prog 37 _ (ReflectliteValue.method (ReflectliteValue.valueError "reflectlite.Value.IsNil" 0) ReflectliteValue.isNil) Tryd.func37 (by kernel_rfl) (by kernel_rfl) (by kernel_rfl) (by kernel_rfl)
  have h128 := @run_callFunc_extern Tryd.prog 77 _ (ReflectliteType.abiMethod fun t => do pure (.int .u8 (← Rtype.kind t))) Tryd.func77 (by kernel_rfl) (by kernel_rfl) (by kernel_rfl) (by kernel_rfl)
  have h143 := @run_callFunc_extern Tryd.prog 91 _ (ReflectliteType.method ReflectliteType.elem) Tryd.func91 (by kernel_rfl) (by kernel_rfl) (by kernel_rfl) (by kernel_rfl)
  have h144 := @run_callFunc_extern Tryd.prog 92 _ (ReflectliteType.relation "Implements" ReflectliteType.implements_) Tryd.func92 (by kernel_rfl) (by kernel_rfl) (by kernel_rfl) (by kernel_rfl)
  have f6 := t_valueOf131_V
  have f7 := t_type131_V
  have mK := t_mKind
  have mE := t_mElem
  have mI := t_mImpl
  have k71 := t_kind131_V
  have k69 := t_kind129_V
  have e71 := t_elem131_V
  have i69 := t_impl129_V
  obtain ⟨W, hW⟩ : ∃ W, W = (w.alloc (.cells #[.pointer (some ⟨tb, 0, none⟩)] 95)).alloc (.cells #[.pointer (some ⟨3, 95, none⟩), .pointer (some ⟨w.heap.size, 0, none⟩), .int .u64 150] 77) := ⟨_, rfl⟩
  have n8 := t_isNil131_V ⟨w.heap.size, 0, none⟩ ⟨tb, 0, none⟩ W (by rw [hW, World.cell?_alloc_past _ _ _ (hn := by simp)]; simp)
  have hgW : W.cell? ⟨0, 0, none⟩ = some (.iface 99 (.agg #[.pointer (some ⟨3, 50, none⟩)])) := by
    rw [hW, World.cell?_alloc_past _ _ _ (hn := by simp), World.cell?_alloc_past _ _ _ (hn := hlt)]; exact hg
  have htW : W.cell? ⟨tb, 0, none⟩ = some old := by rw [hW, World.cell?_alloc_past _ _ _ (hn := by simp; omega), World.cell?_alloc_past _ _ _ (hn := htl)]; exact ht
  have hfW : W.frozen? ⟨tb, 0, none⟩ = false := by rw [hW, World.frozen?_alloc_past _ _ _ (hn := by simp; omega), World.frozen?_alloc_past _ _ _ (hn := htl)]; exact hf
  have hvW : W.cell? ⟨w.heap.size, 0, none⟩ = some (.pointer (some ⟨tb, 0, none⟩)) := by rw [hW, World.cell?_alloc_past _ _ _ (hn := by simp)]; simp
  have HB : Hid (Below w.heap.size w W) := by rw [hW]; exact ((Below.refl _ w).alloc (Nat.le_refl _) _).alloc (by simp) _
  have c := as38V n (.iface T' x') tb w.heap.size old W hm htW hfW hvW
  rw [hW] at n8 hgW c
  clear hW htW hfW hvW ht hf hg hm
  go_enter Tryd.func21, Tryd.ntmps21
  go_wp2_with (first | (go_at_call 38; refine c.mono ?_; rintro r w1 ⟨rfl, hx, hk⟩))
  go_ret
  exact ⟨rfl, hx, (Kept.of_below (((Below.refl _ w).alloc (Nat.le_refl _) _).alloc (by simp) _)).trans hk⟩


end Go.Proofs.YtopkeembbopbmaaDoor
