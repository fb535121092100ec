/- errors.As over errors in parts: what it finds. -/
import Derived.Test.YtdeojcodbojmoaaGreatDoorErs
namespace Go.Proofs.YtdeojcodbojmoaaGreatDoor
open Go.RowKit Go.Extern.Stop Go.Stop Go.Extern
set_option maxRecDepth 100000
set_option linter.unusedVariables false

theorem t_rls (v x : Value) : ReflectliteValue.set #[v, x] = (do
    let (some (dst, a, fl), some (src, b, _)) := (← ReflectliteValue.parts v, ← ReflectliteValue.parts x)
      | unsupported (.noEntry "extern/(internal/reflectlite.Value).Set.zeroValue")
    if fl / ReflectliteValue.flagAddr % 2 == 0 then unsupported (.noEntry "extern/(internal/reflectlite.Value).Set.unaddressable")
    let val ← loadVar src b
    if ← Rtype.directlyAssignable dst src then storeVar dst a val
    else if ← Rtype.implements dst src then
      if (← Rtype.kind src) == 20 then
        match val with
        | .nilIface => unsupported (.noEntry "extern/reflectlite: a nil value of one interface type handed on as a value of another")
        | _ => storeVar dst a val
      else storeVar dst a (.iface src val)
    else panicString ("reflectlite.Set: value of type " ++ (← Rtype.spelt src) ++ " is not assignable to type " ++ (← Rtype.spelt dst))
    pure (.tuple #[])) := rfl

theorem t_size69 (w : World) : (sizeOf 69).run Tryz.prog w = .ok 1 w := by kernel_rfl
theorem t_size129 (w : World) : (sizeOf 129).run Tryz.prog w = .ok 1 w := by kernel_rfl
theorem t_load69 (bb : Nat) (x : Int) (W : World) (hb : W.cell? ⟨bb, 0, none⟩ = some (.int .i64 x)) : (loadVar 69 ⟨bb, 0, none⟩).run Tryz.prog W = .ok (.agg #[.int .i64 x]) W := by
  simp [loadVar, isAgg, underlying, Tryz.underlying69, loadCells, loadCellsFrom, Addr.add, hb]
theorem t_store69 (tb : Nat) (x : Int) (old : Value) (W : World) (ht : W.cell? ⟨tb, 0, none⟩ = some old) (hf : W.frozen? ⟨tb, 0, none⟩ = false) : (storeVar 69 ⟨tb, 0, none⟩ (.agg #[.int .i64 x])).run Tryz.prog W = .ok () (W.setCell ⟨tb, 0, none⟩ (.int .i64 x)) := by
  simp [storeVar, Value.cells, storeCells, Addr.add]
  rw [run_store Tryz.prog W ⟨tb, 0, none⟩ _ _ (by rfl)]
  simp [ht, hf]
theorem t_set69 (tb bb : Nat) (x : Int) (old : Value) (W : World) (hb : W.cell? ⟨bb, 0, none⟩ = some (.int .i64 x)) (ht : W.cell? ⟨tb, 0, none⟩ = some old) (hf : W.frozen? ⟨tb, 0, none⟩ = false) :
    (ReflectliteValue.set #[.agg #[.pointer (some ⟨7, 69, none⟩), .pointer (some ⟨tb, 0, none⟩), .int .u64 409], .agg #[.pointer (some ⟨7, 69, none⟩), .pointer (some ⟨bb, 0, none⟩), .int .u64 153]]).run Tryz.prog W
      = .ok (.tuple #[]) (W.setCell ⟨tb, 0, none⟩ (.int .i64 x)) := by
  rw [t_rls]
  simp only [Sem.run_bind, t_parts69a, t_parts69, Result.andThen]
  simp [ReflectliteValue.flagAddr, t_direct69, t_load69 bb x W hb, t_store69 tb x old W ht hf]

theorem t_load129 (bb : Nat) (x : ByteArray) (W : World) (hb : W.cell? ⟨bb, 0, none⟩ = some (.string x)) : (loadVar 129 ⟨bb, 0, none⟩).run Tryz.prog W = .ok (.agg #[.string x]) W := by
  simp [loadVar, isAgg, underlying, Tryz.underlying129, loadCells, loadCellsFrom, Addr.add, hb]
theorem t_store129 (tb : Nat) (x : ByteArray) (old : Value) (W : World) (ht : W.cell? ⟨tb, 0, none⟩ = some old) (hf : W.frozen? ⟨tb, 0, none⟩ = false) : (storeVar 129 ⟨tb, 0, none⟩ (.agg #[.string x])).run Tryz.prog W = .ok () (W.setCell ⟨tb, 0, none⟩ (.string x)) := by
  simp [storeVar, Value.cells, storeCells, Addr.add]
  rw [run_store Tryz.prog W ⟨tb, 0, none⟩ _ _ (by rfl)]
  simp [ht, hf]
theorem t_set129 (tb bb : Nat) (x : ByteArray) (old : Value) (W : World) (hb : W.cell? ⟨bb, 0, none⟩ = some (.string x)) (ht : W.cell? ⟨tb, 0, none⟩ = some old) (hf : W.frozen? ⟨tb, 0, none⟩ = false) :
    (ReflectliteValue.set #[.agg #[.pointer (some ⟨7, 129, none⟩), .pointer (some ⟨tb, 0, none⟩), .int .u64 409], .agg #[.pointer (some ⟨7, 129, none⟩), .pointer (some ⟨bb, 0, none⟩), .int .u64 153]]).run Tryz.prog W
      = .ok (.tuple #[]) (W.setCell ⟨tb, 0, none⟩ (.string x)) := by
  rw [t_rls]
  simp only [Sem.run_bind, t_parts129a, t_parts129, Result.andThen]
  simp [ReflectliteValue.flagAddr, t_direct129, t_load129 bb x W hb, t_store129 tb x old W ht hf]


theorem mis_one {n : Nat} : ∀ {m : Nat} {v : Value}, Mis n v → Mis m v → n = m := by
  induction n with
  | zero =>
    rintro m v ⟨x, rfl⟩ h
    cases m with
    | zero => rfl
    | succ m => obtain ⟨p, v', e, _⟩ := h; cases e
  | succ n ih =>
    rintro m v ⟨p, v', rfl, h1⟩ h
    cases m with
    | zero => obtain ⟨x, e⟩ := h; cases e
    | succ m =>
      obtain ⟨p', v'', e, h2⟩ := h
      cases e
      rw [ih h1 h2]

theorem fau_one {n : Nat} : ∀ {m : Nat} {v : Value}, Fau n v → Fau m v → n = m := by
  induction n with
  | zero =>
    rintro m v ⟨x, rfl⟩ h
    cases m with
    | zero => rfl
    | succ m => obtain ⟨p, v', e, _⟩ := h; cases e
  | succ n ih =>
    rintro m v ⟨p, v', rfl, h1⟩ h
    cases m with
    | zero => obtain ⟨x, e⟩ := h; cases e
    | succ m =>
      obtain ⟨p', v'', e, h2⟩ := h
      cases e
      rw [ih h1 h2]

open Classical in
/-- In how many parts it lies. -/
noncomputable def dep (M : Nat → Value → Prop) (v : Value) : Nat := if h : ∃ k, M k v then h.choose else 0
theorem dep_mis {n : Nat} {v : Value} (h : Mis n v) : dep Mis v = n := by
  unfold dep
  rw [dif_pos ⟨n, h⟩]
  exact mis_one (Exists.choose_spec (⟨n, h⟩ : ∃ k, Mis k v)) h
theorem dep_fau {n : Nat} {v : Value} (h : Fau n v) : dep Fau v = n := by
  unfold dep
  rw [dif_pos ⟨n, h⟩]
  exact fau_one (Exists.choose_spec (⟨n, h⟩ : ∃ k, Fau k v)) h

set_option maxHeartbeats 4000000 in
/-- errors.as of an error in parts: the one that lies in them is told. -/
theorem as58_69 (n : Nat) (ev : Value) (tb vb : Nat) (old : Value) (w : World) (hm : Mis n ev) (ht : w.cell? ⟨tb, 0, none⟩ = some old) (hf : w.frozen? ⟨tb, 0, none⟩ = false) (hv : w.cell? ⟨vb, 0, none⟩ = some (.pointer (some ⟨tb, 0, none⟩))) :
    Calls Tryz.prog 58 #[ev, .iface 71 (.pointer (some ⟨tb, 0, none⟩)), .agg #[.pointer (some ⟨7, 71, none⟩), .pointer (some ⟨vb, 0, none⟩), .int .u64 150], .iface 133 (.agg #[.pointer (some ⟨7, 69, none⟩)])] w fun r w' => r = .returned (.bool true) ∧ (∃ x : Int, w'.cell? ⟨tb, 0, none⟩ = some (.int .i64 x)) ∧ Kept (But tb) w w' := by
  have htl : tb < w.heap.size := World.block_lt_of_cell? w ⟨tb, 0, none⟩ ht
  have hvl : vb < w.heap.size := World.block_lt_of_cell? w ⟨vb, 0, none⟩ hv
  have h59 := @run_callFunc_extern Tryz.prog 59 _ ReflectliteType.typeOf Tryz.func59 (by kernel_rfl) (by kernel_rfl) (by kernel_rfl) (by kernel_rfl)
  have h141 := @run_callFunc_extern Tryz.prog 141 _ (ReflectliteType.relation "AssignableTo" ReflectliteType.assignableTo) Tryz.func141 (by kernel_rfl) (by kernel_rfl) (by kernel_rfl) (by kernel_rfl)
  have h71 := @run_callFunc_extern Tryz.prog 71 _ (ReflectliteValue.method (ReflectliteValue.valueError "reflectlite.Value.Elem" 0) ReflectliteValue.elem) Tryz.func71 (by kernel_rfl) (by kernel_rfl) (by kernel_rfl) (by kernel_rfl)
  have h72 := @run_callFunc_extern Tryz.prog 72 _ ReflectliteValue.set Tryz.func72 (by kernel_rfl) (by kernel_rfl) (by kernel_rfl) (by kernel_rfl)
  have h55 := @run_callFunc_extern Tryz.prog 55 _ (fun args => ReflectliteValue.unpack (args.getD 0 (.tuple #[]))) Tryz.func55 (by kernel_rfl) (by kernel_rfl) (by kernel_rfl) (by kernel_rfl)
  have tO := t_typeOf69
  have tP := t_typeOf124
  have mA := t_mAssi
  have aT := t_ass69
  have aP := t_ass124_69
  have vT := t_valueOf69
  have nA := t_noAs124
  have uP := t_unwrap124
  have mU := t_mUnwrap124
  go_enter Tryz.func58, Tryz.ntmps58
  go_wp2_with fail
  obtain ⟨W, hW⟩ : ∃ W, W = w.alloc (.cells #[.pointer (some ⟨7, 71, none⟩), .pointer (some ⟨vb, 0, none⟩), .int .u64 150] 99) := ⟨_, rfl⟩
  rw [← hW]
  have htW : W.cell? ⟨tb, 0, none⟩ = some old := by rw [hW, World.cell?_alloc_past _ _ _ (hn := htl)]; exact ht
  have hfW : W.frozen? ⟨tb, 0, none⟩ = false := by rw [hW, World.frozen?_alloc_past _ _ _ (hn := htl)]; exact hf
  have hvW : W.cell? ⟨vb, 0, none⟩ = some (.pointer (some ⟨tb, 0, none⟩)) := by rw [hW, World.cell?_alloc_past _ _ _ (hn := hvl)]; exact hv
  have b0 : W.cell? ⟨w.heap.size, 0, none⟩ = some (.pointer (some ⟨7, 71, none⟩)) := by rw [hW]; simp
  have b1 : W.cell? ⟨w.heap.size, 1, none⟩ = some (.pointer (some ⟨vb, 0, none⟩)) := by rw [hW]; simp
  have b2 : W.cell? ⟨w.heap.size, 2, none⟩ = some (.int .u64 150) := by rw [hW]; simp
  have hsW : w.heap.size < W.heap.size := by rw [hW]; simp
  have HW : Hid (Below w.heap.size w W) := by rw [hW]; exact (Below.refl _ w).alloc (Nat.le_refl _) _
  clear hW hv ht hf
  go_loopw [0] (fun e wr => ∃ k, Mis k e ∧ Below W.heap.size W wr) (fun e _ => dep Mis e)
  case atStart => exact ⟨n, hm, Below.refl _ _⟩
  case round =>
    obtain ⟨k, hk, hbel⟩ := hrel
    have c0 := (hbel.cell (p := ⟨w.heap.size, 0, none⟩) hsW).trans b0
    have c1 := (hbel.cell (p := ⟨w.heap.size, 1, none⟩) hsW).trans b1
    have c2 := (hbel.cell (p := ⟨w.heap.size, 2, none⟩) hsW).trans b2
    have hsr : W.heap.size ≤ wr.heap.size := hbel.size
    have HB : Hid (Below w.heap.size w wr) := HW.out.trans (hbel.mono (by omega))
    have HB2 : Hid (Below W.heap.size W wr) := hbel
    cases k with
    | zero =>
      obtain ⟨x, rfl⟩ := hk
      have eV := t_elemV71 ⟨vb, 0, none⟩ ⟨tb, 0, none⟩ wr ((hbel.cell (p := ⟨vb, 0, none⟩) (by show vb < _; omega)).trans hvW)
      have sT := t_set69 tb wr.heap.size x old (wr.alloc (.cells #[.int .i64 x] 69)) (by simp) (by rw [World.cell?_alloc_past _ _ _ (hn := by omega)]; exact (hbel.cell (p := ⟨tb, 0, none⟩) (by show tb < _; omega)).trans htW) (by rw [World.frozen?_alloc_past _ _ _ (hn := by omega)]; exact (hbel.frozen (p := ⟨tb, 0, none⟩) (by show tb < _; omega)).trans hfW)
      have htr : (wr.alloc (.cells #[.int .i64 x] 69)).cell? ⟨tb, 0, none⟩ = some old := by rw [World.cell?_alloc_past _ _ _ (hn := by omega)]; exact (hbel.cell (p := ⟨tb, 0, none⟩) (by show tb < _; omega)).trans htW
      clear b0 b1 b2 htW hfW hvW hbel
      go_wp2
      go_ret
      refine ⟨rfl, ⟨x, World.cell?_setCell_same _ _ _ htr⟩, ?_⟩
      exact Kept.setCell (P := But tb) (p := ⟨tb, 0, none⟩) ((Kept.of_below HB.out).alloc _) (fun k _ hk => hk) _
    | succ k =>
      obtain ⟨p, v', rfl, hk'⟩ := id hk
      obtain ⟨T', x', rfl⟩ := hk'.iface
      have hd := dep_mis hk
      have hd' := dep_mis hk'
      have HD : Hid (dep Mis (.iface 124 (.agg #[.string p, .iface T' x'])) = k + 1 ∧ dep Mis (.iface T' x') = k) := ⟨hd, hd'⟩
      clear b0 b1 b2 htW hfW hvW hbel hd hd'
      go_wp2
      go_roundw
      case rel => exact ⟨k, hk', HB2.out.alloc HB2.out.size _⟩
      case measure =>
        show dep Mis (.iface T' x') < dep Mis (.iface 124 (.agg #[.string p, .iface T' x']))
        rw [HD.out.1, HD.out.2]; omega

set_option maxHeartbeats 4000000 in
/-- errors.as of an error in parts: the one that lies in them is told. -/
theorem as58_129 (n : Nat) (ev : Value) (tb vb : Nat) (old : Value) (w : World) (hm : Fau n ev) (ht : w.cell? ⟨tb, 0, none⟩ = some old) (hf : w.frozen? ⟨tb, 0, none⟩ = false) (hv : w.cell? ⟨vb, 0, none⟩ = some (.pointer (some ⟨tb, 0, none⟩))) :
    Calls Tryz.prog 58 #[ev, .iface 131 (.pointer (some ⟨tb, 0, none⟩)), .agg #[.pointer (some ⟨7, 131, none⟩), .pointer (some ⟨vb, 0, none⟩), .int .u64 150], .iface 133 (.agg #[.pointer (some ⟨7, 129, none⟩)])] w fun r w' => r = .returned (.bool true) ∧ (∃ x : ByteArray, w'.cell? ⟨tb, 0, none⟩ = some (.string x)) ∧ Kept (But tb) w w' := by
  have htl : tb < w.heap.size := World.block_lt_of_cell? w ⟨tb, 0, none⟩ ht
  have hvl : vb < w.heap.size := World.block_lt_of_cell? w ⟨vb, 0, none⟩ hv
  have h59 := @run_callFunc_extern Tryz.prog 59 _ ReflectliteType.typeOf Tryz.func59 (by kernel_rfl) (by kernel_rfl) (by kernel_rfl) (by kernel_rfl)
  have h141 := @run_callFunc_extern Tryz.prog 141 _ (ReflectliteType.relation "AssignableTo" ReflectliteType.assignableTo) Tryz.func141 (by kernel_rfl) (by kernel_rfl) (by kernel_rfl) (by kernel_rfl)
  have h71 := @run_callFunc_extern Tryz.prog 71 _ (ReflectliteValue.method (ReflectliteValue.valueError "reflectlite.Value.Elem" 0) ReflectliteValue.elem) Tryz.func71 (by kernel_rfl) (by kernel_rfl) (by kernel_rfl) (by kernel_rfl)
  have h72 := @run_callFunc_extern Tryz.prog 72 _ ReflectliteValue.set Tryz.func72 (by kernel_rfl) (by kernel_rfl) (by kernel_rfl) (by kernel_rfl)
  have h55 := @run_callFunc_extern Tryz.prog 55 _ (fun args => ReflectliteValue.unpack (args.getD 0 (.tuple #[]))) Tryz.func55 (by kernel_rfl) (by kernel_rfl) (by kernel_rfl) (by kernel_rfl)
  have tO := t_typeOf129
  have tP := t_typeOf124
  have mA := t_mAssi
  have aT := t_ass129
  have aP := t_ass124_129
  have vT := t_valueOf129
  have nA := t_noAs124
  have uP := t_unwrap124
  have mU := t_mUnwrap124
  go_enter Tryz.func58, Tryz.ntmps58
  go_wp2_with fail
  obtain ⟨W, hW⟩ : ∃ W, W = w.alloc (.cells #[.pointer (some ⟨7, 131, none⟩), .pointer (some ⟨vb, 0, none⟩), .int .u64 150] 99) := ⟨_, rfl⟩
  rw [← hW]
  have htW : W.cell? ⟨tb, 0, none⟩ = some old := by rw [hW, World.cell?_alloc_past _ _ _ (hn := htl)]; exact ht
  have hfW : W.frozen? ⟨tb, 0, none⟩ = false := by rw [hW, World.frozen?_alloc_past _ _ _ (hn := htl)]; exact hf
  have hvW : W.cell? ⟨vb, 0, none⟩ = some (.pointer (some ⟨tb, 0, none⟩)) := by rw [hW, World.cell?_alloc_past _ _ _ (hn := hvl)]; exact hv
  have b0 : W.cell? ⟨w.heap.size, 0, none⟩ = some (.pointer (some ⟨7, 131, none⟩)) := by rw [hW]; simp
  have b1 : W.cell? ⟨w.heap.size, 1, none⟩ = some (.pointer (some ⟨vb, 0, none⟩)) := by rw [hW]; simp
  have b2 : W.cell? ⟨w.heap.size, 2, none⟩ = some (.int .u64 150) := by rw [hW]; simp
  have hsW : w.heap.size < W.heap.size := by rw [hW]; simp
  have HW : Hid (Below w.heap.size w W) := by rw [hW]; exact (Below.refl _ w).alloc (Nat.le_refl _) _
  clear hW hv ht hf
  go_loopw [0] (fun e wr => ∃ k, Fau k e ∧ Below W.heap.size W wr) (fun e _ => dep Fau e)
  case atStart => exact ⟨n, hm, Below.refl _ _⟩
  case round =>
    obtain ⟨k, hk, hbel⟩ := hrel
    have c0 := (hbel.cell (p := ⟨w.heap.size, 0, none⟩) hsW).trans b0
    have c1 := (hbel.cell (p := ⟨w.heap.size, 1, none⟩) hsW).trans b1
    have c2 := (hbel.cell (p := ⟨w.heap.size, 2, none⟩) hsW).trans b2
    have hsr : W.heap.size ≤ wr.heap.size := hbel.size
    have HB : Hid (Below w.heap.size w wr) := HW.out.trans (hbel.mono (by omega))
    have HB2 : Hid (Below W.heap.size W wr) := hbel
    cases k with
    | zero =>
      obtain ⟨x, rfl⟩ := hk
      have eV := t_elemV131 ⟨vb, 0, none⟩ ⟨tb, 0, none⟩ wr ((hbel.cell (p := ⟨vb, 0, none⟩) (by show vb < _; omega)).trans hvW)
      have sT := t_set129 tb wr.heap.size x old (wr.alloc (.cells #[.string x] 129)) (by simp) (by rw [World.cell?_alloc_past _ _ _ (hn := by omega)]; exact (hbel.cell (p := ⟨tb, 0, none⟩) (by show tb < _; omega)).trans htW) (by rw [World.frozen?_alloc_past _ _ _ (hn := by omega)]; exact (hbel.frozen (p := ⟨tb, 0, none⟩) (by show tb < _; omega)).trans hfW)
      have htr : (wr.alloc (.cells #[.string x] 129)).cell? ⟨tb, 0, none⟩ = some old := by rw [World.cell?_alloc_past _ _ _ (hn := by omega)]; exact (hbel.cell (p := ⟨tb, 0, none⟩) (by show tb < _; omega)).trans htW
      clear b0 b1 b2 htW hfW hvW hbel
      go_wp2
      go_ret
      refine ⟨rfl, ⟨x, World.cell?_setCell_same _ _ _ htr⟩, ?_⟩
      exact Kept.setCell (P := But tb) (p := ⟨tb, 0, none⟩) ((Kept.of_below HB.out).alloc _) (fun k _ hk => hk) _
    | succ k =>
      obtain ⟨p, v', rfl, hk'⟩ := id hk
      obtain ⟨T', x', rfl⟩ := hk'.iface
      have hd := dep_fau hk
      have hd' := dep_fau hk'
      have HD : Hid (dep Fau (.iface 124 (.agg #[.string p, .iface T' x'])) = k + 1 ∧ dep Fau (.iface T' x') = k) := ⟨hd, hd'⟩
      clear b0 b1 b2 htW hfW hvW hbel hd hd'
      go_wp2
      go_roundw
      case rel => exact ⟨k, hk', HB2.out.alloc HB2.out.size _⟩
      case measure =>
        show dep Fau (.iface T' x') < dep Fau (.iface 124 (.agg #[.string p, .iface T' x']))
        rw [HD.out.1, HD.out.2]; omega

set_option maxHeartbeats 4000000 in
/-- errors.As of an error in parts, at a variable of the type that lies in them. -/
theorem as39_69 (n : Nat) (ev : Value) (tb : Nat) (old : Value) (w : World) (hg : ErrT w) (hm : Mis n ev) (ht : w.cell? ⟨tb, 0, none⟩ = some old) (hf : w.frozen? ⟨tb, 0, none⟩ = false) :
    Calls Tryz.prog 39 #[ev, .iface 71 (.pointer (some ⟨tb, 0, none⟩))] w fun r w' => r = .returned (.bool true) ∧ (∃ x : Int, w'.cell? ⟨tb, 0, none⟩ = some (.int .i64 x)) ∧ Kept (But tb) w w' := by
  unfold ErrT at hg
  obtain ⟨T', x', rfl⟩ := hm.iface
  have htl : tb < w.heap.size := World.block_lt_of_cell? w ⟨tb, 0, none⟩ ht
  have hlt : 1 < w.heap.size := World.block_lt_of_cell? w ⟨1, 0, none⟩ hg
  have h55 := @run_callFunc_extern Tryz.prog 55 _ (fun args => ReflectliteValue.unpack (args.getD 0 (.tuple #[]))) Tryz.func55 (by kernel_rfl) (by kernel_rfl) (by kernel_rfl) (by kernel_rfl)
  have h56 := @run_callFunc_extern Tryz.prog 56 _ (ReflectliteValue.methodAny (ReflectliteValue.valueError "reflectlite.Value.Type" 0) (fun t _ _ _ => ReflectliteType.toType t)) Tryz.func56 (by kernel_rfl) (by kernel_rfl) (by kernel_rfl) (by kernel_rfl)
  have h57 := @run_callFunc_extern Tryz.prog 57 _ (ReflectliteValue.method (ReflectliteValue.valueError "reflectlite.Value.IsNil" 0) ReflectliteValue.isNil) Tryz.func57 (by kernel_rfl) (by kernel_rfl) (by kernel_rfl) (by kernel_rfl)
  have h128 := @run_callFunc_extern Tryz.prog 128 _ (ReflectliteType.abiMethod fun t => do pure (.int .u8 (← Rtype.kind t))) Tryz.func128 (by kernel_rfl) (by kernel_rfl) (by kernel_rfl) (by kernel_rfl)
  have h143 := @run_callFunc_extern Tryz.prog 143 _ (ReflectliteType.method ReflectliteType.elem) Tryz.func143 (by kernel_rfl) (by kernel_rfl) (by kernel_rfl) (by kernel_rfl)
  have h144 := @run_callFunc_extern Tryz.prog 144 _ (ReflectliteType.relation "Implements" ReflectliteType.implements_) Tryz.func144 (by kernel_rfl) (by kernel_rfl) (by kernel_rfl) (by kernel_rfl)
  have f6 := t_valueOf71
  have f7 := t_type71
  have mK := t_mKind
  have mE := t_mElem
  have mI := t_mImpl
  have k71 := t_kind71
  have k69 := t_kind69
  have e71 := t_elem71
  have i69 := t_impl69
  obtain ⟨W, hW⟩ : ∃ W, W = (w.alloc (.cells #[.pointer (some ⟨tb, 0, none⟩)] 71)).alloc (.cells #[.pointer (some ⟨7, 71, none⟩), .pointer (some ⟨w.heap.size, 0, none⟩), .int .u64 150] 99) := ⟨_, rfl⟩
  have n8 := t_isNil71 ⟨w.heap.size, 0, none⟩ ⟨tb, 0, none⟩ W (by rw [hW, World.cell?_alloc_past _ _ _ (hn := by simp)]; simp)
  have hgW : W.cell? ⟨1, 0, none⟩ = some (.iface 133 (.agg #[.pointer (some ⟨7, 65, none⟩)])) := by
    rw [hW, World.cell?_alloc_past _ _ _ (hn := by simp; omega), World.cell?_alloc_past _ _ _ (hn := hlt)]; exact hg
  have htW : W.cell? ⟨tb, 0, none⟩ = some old := by rw [hW, World.cell?_alloc_past _ _ _ (hn := by simp; omega), World.cell?_alloc_past _ _ _ (hn := htl)]; exact ht
  have hfW : W.frozen? ⟨tb, 0, none⟩ = false := by rw [hW, World.frozen?_alloc_past _ _ _ (hn := by simp; omega), World.frozen?_alloc_past _ _ _ (hn := htl)]; exact hf
  have hvW : W.cell? ⟨w.heap.size, 0, none⟩ = some (.pointer (some ⟨tb, 0, none⟩)) := by rw [hW, World.cell?_alloc_past _ _ _ (hn := by simp)]; simp
  have HB : Hid (Below w.heap.size w W) := by rw [hW]; exact ((Below.refl _ w).alloc (Nat.le_refl _) _).alloc (by simp) _
  have c := as58_69 n (.iface T' x') tb w.heap.size old W hm htW hfW hvW
  rw [hW] at n8 hgW c
  clear hW htW hfW hvW ht hf hg hm
  go_enter Tryz.func39, Tryz.ntmps39
  go_wp2_with (first | (go_at_call 58; refine c.mono ?_; rintro r w1 ⟨rfl, hx, hk⟩))
  go_ret
  exact ⟨rfl, hx, (Kept.of_below (((Below.refl _ w).alloc (Nat.le_refl _) _).alloc (by simp) _)).trans hk⟩

set_option maxHeartbeats 4000000 in
/-- errors.As of an error in parts, at a variable of the type that lies in them. -/
theorem as39_129 (n : Nat) (ev : Value) (tb : Nat) (old : Value) (w : World) (hg : ErrT w) (hm : Fau n ev) (ht : w.cell? ⟨tb, 0, none⟩ = some old) (hf : w.frozen? ⟨tb, 0, none⟩ = false) :
    Calls Tryz.prog 39 #[ev, .iface 131 (.pointer (some ⟨tb, 0, none⟩))] w fun r w' => r = .returned (.bool true) ∧ (∃ x : ByteArray, w'.cell? ⟨tb, 0, none⟩ = some (.string x)) ∧ Kept (But tb) w w' := by
  unfold ErrT at hg
  obtain ⟨T', x', rfl⟩ := hm.iface
  have htl : tb < w.heap.size := World.block_lt_of_cell? w ⟨tb, 0, none⟩ ht
  have hlt : 1 < w.heap.size := World.block_lt_of_cell? w ⟨1, 0, none⟩ hg
  have h55 := @run_callFunc_extern Tryz.prog 55 _ (fun args => ReflectliteValue.unpack (args.getD 0 (.tuple #[]))) Tryz.func55 (by kernel_rfl) (by kernel_rfl) (by kernel_rfl) (by kernel_rfl)
  have h56 := @run_callFunc_extern Tryz.prog 56 _ (ReflectliteValue.methodAny (ReflectliteValue.valueError "reflectlite.Value.Type" 0) (fun t _ _ _ => ReflectliteType.toType t)) Tryz.func56 (by kernel_rfl) (by kernel_rfl) (by kernel_rfl) (by kernel_rfl)
  have h57 := @run_callFunc_extern Tryz.prog 57 _ (ReflectliteValue.method (ReflectliteValue.valueError "reflectlite.Value.IsNil" 0) ReflectliteValue.isNil) Tryz.func57 (by kernel_rfl) (by kernel_rfl) (by kernel_rfl) (by kernel_rfl)
  have h128 := @run_callFunc_extern Tryz.prog 128 _ (ReflectliteType.abiMethod fun t => do pure (.int .u8 (← Rtype.kind t))) Tryz.func128 (by kernel_rfl) (by kernel_rfl) (by kernel_rfl) (by kernel_rfl)
  have h143 := @run_callFunc_extern Tryz.prog 143 _ (ReflectliteType.method ReflectliteType.elem) Tryz.func143 (by kernel_rfl) (by kernel_rfl) (by kernel_rfl) (by kernel_rfl)
  have h144 := @run_callFunc_extern Tryz.prog 144 _ (ReflectliteType.relation "Implements" ReflectliteType.implements_) Tryz.func144 (by kernel_rfl) (by kernel_rfl) (by kernel_rfl) (by kernel_rfl)
  have f6 := t_valueOf131
  have f7 := t_type131
  have mK := t_mKind
  have mE := t_mElem
  have mI := t_mImpl
  have k71 := t_kind131
  have k69 := t_kind129
  have e71 := t_elem131
  have i69 := t_impl129
  obtain ⟨W, hW⟩ : ∃ W, W = (w.alloc (.cells #[.pointer (some ⟨tb, 0, none⟩)] 131)).alloc (.cells #[.pointer (some ⟨7, 131, none⟩), .pointer (some ⟨w.heap.size, 0, none⟩), .int .u64 150] 99) := ⟨_, rfl⟩
  have n8 := t_isNil131 ⟨w.heap.size, 0, none⟩ ⟨tb, 0, none⟩ W (by rw [hW, World.cell?_alloc_past _ _ _ (hn := by simp)]; simp)
  have hgW : W.cell? ⟨1, 0, none⟩ = some (.iface 133 (.agg #[.pointer (some ⟨7, 65, none⟩)])) := by
    rw [hW, World.cell?_alloc_past _ _ _ (hn := by simp; omega), World.cell?_alloc_past _ _ _ (hn := hlt)]; exact hg
  have htW : W.cell? ⟨tb, 0, none⟩ = some old := by rw [hW, World.cell?_alloc_past _ _ _ (hn := by simp; omega), World.cell?_alloc_past _ _ _ (hn := htl)]; exact ht
  have hfW : W.frozen? ⟨tb, 0, none⟩ = false := by rw [hW, World.frozen?_alloc_past _ _ _ (hn := by simp; omega), World.frozen?_alloc_past _ _ _ (hn := htl)]; exact hf
  have hvW : W.cell? ⟨w.heap.size, 0, none⟩ = some (.pointer (some ⟨tb, 0, none⟩)) := by rw [hW, World.cell?_alloc_past _ _ _ (hn := by simp)]; simp
  have HB : Hid (Below w.heap.size w W) := by rw [hW]; exact ((Below.refl _ w).alloc (Nat.le_refl _) _).alloc (by simp) _
  have c := as58_129 n (.iface T' x') tb w.heap.size old W hm htW hfW hvW
  rw [hW] at n8 hgW c
  clear hW htW hfW hvW ht hf hg hm
  go_enter Tryz.func39, Tryz.ntmps39
  go_wp2_with (first | (go_at_call 58; refine c.mono ?_; rintro r w1 ⟨rfl, hx, hk⟩))
  go_ret
  exact ⟨rfl, hx, (Kept.of_below (((Below.refl _ w).alloc (Nat.le_refl _) _).alloc (by simp) _)).trans hk⟩

end Go.Proofs.YtdeojcodbojmoaaGreatDoor
