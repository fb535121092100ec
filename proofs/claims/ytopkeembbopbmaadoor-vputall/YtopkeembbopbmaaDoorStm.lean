/- stamp.May. -/
import Derived.Test.YtopkeembbopbmaaDoorIss
import Derived.Test.YtopkeembbopbmaaDoorKp
import Derived.Deep.RegionHeld3
import Derived.Handy
namespace Go.Proofs.YtopkeembbopbmaaDoor
open Go.RowKit Go.Extern.Stop Go.Stop Go.Extern
set_option maxRecDepth 100000
set_option linter.unusedVariables false

def f1 (n most : Int) : Bool := decide (1 ≤ n) && decide (n ≤ most)
/-- Which stamps may be. -/
def stOk (L R N : Int) : Bool := f1 L 5000 && (f1 R 5 && f1 N (min 1000 L))

set_option maxHeartbeats 1000000 in
theorem from96 (n m : Int) (w : World) : Calls Tryd.prog 62 #[.int .i64 n, .int .i64 m] w fun r w' => r = .returned (.bool (f1 n m)) ∧ w' = w := by
  unfold f1
  by_cases h1 : 1 ≤ n
  · have d1 : decide (1 ≤ n) = true := decide_eq_true h1
    rw [d1]
    go_enter Tryd.func62, Tryd.ntmps62
    go_wp2
    go_ret
    exact ⟨rfl, rfl⟩
  · have d1 : decide (1 ≤ n) = false := decide_eq_false h1
    rw [d1]
    go_enter Tryd.func62, Tryd.ntmps62
    go_wp2
    go_ret
    exact ⟨rfl, rfl⟩

/-- What check tells of a stamp. -/
def SkV (ok : Bool) (ev : Value) : Prop := (ok = true ∧ ev = .nilIface) ∨ (ok = false ∧ ∃ p, ev = .iface 131 (.agg #[.string p]))

set_option maxHeartbeats 2000000 in
theorem check87 (L R N : Int) (w : World) : Calls Tryd.prog 60 #[.agg #[.int .i64 L, .int .i64 R, .int .i64 N]] w fun r w' => (∃ ev, r = .returned ev ∧ SkV (stOk L R N) ev) ∧ Below w.heap.size w w' := by
  unfold stOk
  have c1 := from96 L 5000
  have c2 := from96 R 5
  have c3 := from96 N (min 1000 L)
  cases e1 : f1 L 5000 with
  | false =>
    rw [e1] at c1
    go_enter Tryd.func60, Tryd.ntmps60
    go_wp2_with fail
    refine (c1 _).mono ?_
    rintro r w1 ⟨rfl, rfl⟩
    go_wp2
    go_ret
    exact ⟨⟨_, rfl, .inr ⟨rfl, _, rfl⟩⟩, (Below.refl _ w).alloc (Nat.le_refl _) _⟩
  | true =>
    rw [e1] at c1
    cases e2 : f1 R 5 with
    | false =>
      rw [e2] at c2
      go_enter Tryd.func60, Tryd.ntmps60
      go_wp2_with fail
      refine (c1 _).mono ?_
      rintro r w1 ⟨rfl, rfl⟩
      go_wp2_with fail
      refine (c2 _).mono ?_
      rintro r w1 ⟨rfl, rfl⟩
      go_wp2
      go_ret
      exact ⟨⟨_, rfl, .inr ⟨rfl, _, rfl⟩⟩, (Below.refl _ w).alloc (Nat.le_refl _) _⟩
    | true =>
      rw [e2] at c2
      by_cases hL : (1000 : Int) ≤ L
      · have hm : min 1000 L = 1000 := by omega
        rw [hm] at c3 ⊢
        cases e3 : f1 N 1000 with
        | false =>
          rw [e3] at c3
          go_enter Tryd.func60, Tryd.ntmps60
          go_wp2_with fail
          refine (c1 _).mono ?_
          rintro r w1 ⟨rfl, rfl⟩
          go_wp2_with fail
          refine (c2 _).mono ?_
          rintro r w1 ⟨rfl, rfl⟩
          go_wp2_with fail
          refine (c3 _).mono ?_
          rintro r w1 ⟨rfl, rfl⟩
          go_wp2
          go_ret
          exact ⟨⟨_, rfl, .inr ⟨rfl, _, rfl⟩⟩, (Below.refl _ w).alloc (Nat.le_refl _) _⟩
        | true =>
          rw [e3] at c3
          go_enter Tryd.func60, Tryd.ntmps60
          go_wp2_with fail
          refine (c1 _).mono ?_
          rintro r w1 ⟨rfl, rfl⟩
          go_wp2_with fail
          refine (c2 _).mono ?_
          rintro r w1 ⟨rfl, rfl⟩
          go_wp2_with fail
          refine (c3 _).mono ?_
          rintro r w1 ⟨rfl, rfl⟩
          go_wp2
          go_ret
          exact ⟨⟨_, rfl, .inl ⟨rfl, rfl⟩⟩, (Below.refl _ w).alloc (Nat.le_refl _) _⟩
      · have hm : min 1000 L = L := by omega
        rw [hm] at c3 ⊢
        cases e3 : f1 N L with
        | false =>
          rw [e3] at c3
          go_enter Tryd.func60, Tryd.ntmps60
          go_wp2_with fail
          refine (c1 _).mono ?_
          rintro r w1 ⟨rfl, rfl⟩
          go_wp2_with fail
          refine (c2 _).mono ?_
          rintro r w1 ⟨rfl, rfl⟩
          go_wp2_with fail
          refine (c3 _).mono ?_
          rintro r w1 ⟨rfl, rfl⟩
          go_wp2
          go_ret
          exact ⟨⟨_, rfl, .inr ⟨rfl, _, rfl⟩⟩, (Below.refl _ w).alloc (Nat.le_refl _) _⟩
        | true =>
          rw [e3] at c3
          go_enter Tryd.func60, Tryd.ntmps60
          go_wp2_with fail
          refine (c1 _).mono ?_
          rintro r w1 ⟨rfl, rfl⟩
          go_wp2_with fail
          refine (c2 _).mono ?_
          rintro r w1 ⟨rfl, rfl⟩
          go_wp2_with fail
          refine (c3 _).mono ?_
          rintro r w1 ⟨rfl, rfl⟩
          go_wp2
          go_ret
          exact ⟨⟨_, rfl, .inl ⟨rfl, rfl⟩⟩, (Below.refl _ w).alloc (Nat.le_refl _) _⟩


theorem s_noIs (v : Value) (xT : TypeId) (w : World) : (Instr.typeAssert (.iface 131 v) xT 132 true).run Tryd.prog w = .ok (.tuple #[.nilIface, .bool false]) w := run_typeAssert_lacksB Tryd.underlying132 (by kernel_rfl) (by kernel_rfl) v xT w
theorem s_un (v : Value) (xT : TypeId) (w : World) : (Instr.typeAssert (.iface 131 v) xT 107 true).run Tryd.prog w = .ok (.tuple #[.iface 131 v, .bool true]) w := run_typeAssert_hasB Tryd.underlying107 (by kernel_rfl) v xT w
theorem s_m (v : Value) (w : World) : (Go.method 266 131 v "Unwrap").run Tryd.prog w = .ok (104, v) w := by kernel_rfl

set_option maxHeartbeats 2000000 in
/-- errors.Is of a fault of a stamp. -/
theorem is_stamp (a : Addr) (p : ByteArray) (w : World) (hg : w.cell? ⟨2, 0, none⟩ = some (.iface 135 (.pointer (some a)))) :
    Calls Tryd.prog 58 #[.iface 131 (.agg #[.string p]), .iface 135 (.pointer (some a))] w fun r w' => r = .returned (.bool true) ∧ Below w.heap.size w w' := by
  have hlt : 2 < w.heap.size := World.block_lt_of_cell? w ⟨2, 0, none⟩ hg
  obtain ⟨i, hi, hcmp⟩ := Option.map_eq_some_iff.1 i_comp
  obtain ⟨j, hj, hjs⟩ := Option.map_eq_some_iff.1 i_size
  have h19 := @run_callFunc_extern Tryd.prog 49 _ Extern.ReflectliteType.typeOf Tryd.func49 (by kernel_rfl) (by kernel_rfl) (by kernel_rfl) (by kernel_rfl)
  have h41 := @run_callFunc_extern Tryd.prog 90 _ cmpE Tryd.func90 (by kernel_rfl) (by kernel_rfl) (by kernel_rfl) (by kernel_rfl)
  have tT := i_typeOf
  have cT := i_comparable
  have mR := i_mComp
  have n1 := s_noIs
  have u1 := s_un
  have m1 := s_m
  have heq := fun w => run_eql_iface_ptr_same (P := Tryd.prog) w a Tryd.underlying50 Tryd.underlying135 hi hcmp hj
  have hty := fun w => run_eql_iface_types (P := Tryd.prog) 131 135 (.agg #[.string p]) (.pointer (some a)) Tryd.underlying50 (by decide) w
  go_enter Tryd.func58, Tryd.ntmps58
  go_wp2
  refine wp_loop_rounds 2 ?_
  rw [rounds_succ]
  go_wp2
  rw [rounds_succ]
  go_wp2
  go_ret
  exact ⟨rfl, by first | exact Below.refl _ _ | exact (Below.refl _ w).alloc (Nat.le_refl _) _⟩

theorem callee_old {w w' : World} (h : Below w.drew.heap.size w.drew w') :
    (∀ b o, b < w.heap.size → w'.cell? ⟨b, o, none⟩ = w.cell? ⟨b, o, none⟩) ∧ (∀ b o, b < w.heap.size → w'.frozen? ⟨b, o, none⟩ = w.frozen? ⟨b, o, none⟩) ∧ w.heap.size ≤ w'.heap.size :=
  ⟨fun b o hb => h.cell (p := ⟨b, o, none⟩) hb, fun b o hb => h.frozen (p := ⟨b, o, none⟩) hb, h.size⟩

theorem is_skv (a : Addr) (ok : Bool) (ev : Value) (w : World) (hz : SkV ok ev) (hg : w.cell? ⟨2, 0, none⟩ = some (.iface 135 (.pointer (some a)))) :
    Calls Tryd.prog 58 #[ev, .iface 135 (.pointer (some a))] w fun r w' => r = .returned (.bool (!ok)) ∧ Below w.heap.size w w' := by
  rcases hz with ⟨rfl, rfl⟩ | ⟨rfl, p, rfl⟩
  · refine (is_nil a w).mono ?_
    rintro r w' ⟨rfl, hb⟩
    exact ⟨rfl, hb⟩
  · exact is_stamp a p w hg

set_option maxHeartbeats 4000000 in
/-- stamp.May. -/
theorem stMay73 (a : Addr) (L R N : Int) (w : World) (hg : w.cell? ⟨2, 0, none⟩ = some (.iface 135 (.pointer (some a)))) : Calls Tryd.prog 53 #[.agg #[.int .i64 L, .int .i64 R, .int .i64 N]] w fun r w' => r = .returned (.bool (stOk L R N)) ∧ Below w.heap.size w w' := by
  have hlt : 2 < w.heap.size := World.block_lt_of_cell? w ⟨2, 0, none⟩ hg
  go_enter Tryd.func53, Tryd.ntmps53
  go_wp2_with fail
  obtain ⟨X, hX⟩ : ∃ X, X = w.alloc (.cells #[.int .i64 L, .int .i64 R, .int .i64 N] 23) := ⟨_, rfl⟩
  rw [← hX]
  have x0 : X.cell? ⟨w.heap.size, 0, none⟩ = some (.int .i64 L) := by rw [hX]; simp
  have x1 : X.cell? ⟨w.heap.size, 1, none⟩ = some (.int .i64 R) := by rw [hX]; simp
  have x2 : X.cell? ⟨w.heap.size, 2, none⟩ = some (.int .i64 N) := by rw [hX]; simp
  have xg : X.cell? ⟨2, 0, none⟩ = some (.iface 135 (.pointer (some a))) := by rw [hX, World.cell?_alloc_past _ _ _ (hn := hlt)]; exact hg
  have sX : w.heap.size < X.heap.size := by rw [hX]; simp
  have sX2 : 2 < X.heap.size := by omega
  have HX : Hid (Below w.heap.size w X) := by rw [hX]; exact (Below.refl _ w).alloc (Nat.le_refl _) _
  have c1 := check87 L R N X.drew
  clear hX hg
  go_region_held3 (fun w' => w'.cell? ⟨w.heap.size, 0, none⟩ = some (.int .i64 L) ∧ w'.cell? ⟨w.heap.size, 1, none⟩ = some (.int .i64 R) ∧ w'.cell? ⟨w.heap.size, 2, none⟩ = some (.int .i64 N) ∧ w'.cell? ⟨2, 0, none⟩ = some (.iface 135 (.pointer (some a))))
    (go_keep)
    (first
      | (go_at_call 60; refine c1.mono ?_; rintro r w5 ⟨⟨ev, rfl, hz⟩, hb5⟩; obtain ⟨hcl, hfl, z1⟩ := callee_old hb5)
      | (go_at_call 58; refine (is_skv a _ _ _ hz (by simp [*])).mono ?_; rintro r w6 ⟨rfl, hb6⟩; have hc6 : ∀ b o, b < w5.heap.size → w6.cell? ⟨b, o, none⟩ = w5.cell? ⟨b, o, none⟩ := fun b o h => hb6.cell (p := ⟨b, o, none⟩) h; have zz1 : w.heap.size < w5.heap.size := Nat.lt_of_lt_of_le sX z1; have zz2 : 2 < w5.heap.size := Nat.lt_of_lt_of_le sX2 z1))
  have HB : Hid (Below w.heap.size w w6) := HX.out.trans (((Below.trans (b := X.drew) (Below.refl _ X).drew (hb5.trans (hb6.mono hb5.size))).mono HX.out.size))
  go_wp2
  go_ret
  exact ⟨by simp, HB.out⟩


end Go.Proofs.YtopkeembbopbmaaDoor
