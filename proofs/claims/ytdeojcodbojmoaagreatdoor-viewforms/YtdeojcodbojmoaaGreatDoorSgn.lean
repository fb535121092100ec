/- pars.reader: what binds ahead of & and |, with !. -/
import Derived.Test.YtdeojcodbojmoaaGreatDoorSgl
import Derived.Deep.RegionHeld3
namespace Go.Proofs.YtdeojcodbojmoaaGreatDoor
open Go.RowKit
set_option maxRecDepth 100000
set_option linter.unusedVariables false

theorem past_six {w W : World} {m : Nat} (hm : w.heap.size < m) {u0 u1 u2 u3 u4 u5 : Value} : Kept (Past m) W ((((((W.setCell ⟨w.heap.size, 0, none⟩ u0).setCell ⟨w.heap.size, 1, none⟩ u1).setCell ⟨w.heap.size, 2, none⟩ u2).setCell ⟨w.heap.size, 3, none⟩ u3).setCell ⟨w.heap.size, 4, none⟩ u4).setCell ⟨w.heap.size, 5, none⟩ u5) := by
  have f : ∀ o : Nat, ∀ k, k < W.heap.size → Past m k → k ≠ (⟨w.heap.size, o, none⟩ : Addr).block := fun o k _ hp => by show k ≠ w.heap.size; unfold Past at hp; omega
  exact ((((((Kept.refl (Past m) W).setCell (f 0) u0).setCell (f 1) u1).setCell (f 2) u2).setCell (f 3) u3).setCell (f 4) u4).setCell (f 5) u5

set_option maxHeartbeats 4000000 in
theorem single_not83 (rb : Nat) (ws : List Wd.Word) (p : Nat) (e : Int) (w : World) (hg : Ps.Goods ws) (h : Rdr w rb ws p e) (e42 : Ps.isMark ws p 42 = false) (e64 : Ps.isMark ws p 64 = false) (e94 : Ps.isMark ws p 94 = false) (e33 : Ps.isMark ws p 33 = true) (f : Ps.Ft) (q : Nat) (c : ∀ w, Rdr w rb ws (p + 1) e → Calls Tryz.prog 83 #[.pointer (some ⟨rb, 0, none⟩)] w (PR rb ws e (some (f, q)) w)) : Calls Tryz.prog 83 #[.pointer (some ⟨rb, 0, none⟩)] w (PR rb ws e (some (.non f, q)) w) := by
  have hlt := h.lt
  have h0 : Rdr (w.alloc (.cells #[.int .i64 0, .int .i64 0, .int .i64 0, .int .i64 0, .string ⟨#[]⟩, .slice none 0 0] 53)) rb ws p e := h.alloc _
  have HA0 : Hid (At w rb (w.alloc (.cells #[.int .i64 0, .int .i64 0, .int .i64 0, .int .i64 0, .string ⟨#[]⟩, .slice none 0 0] 53))) := At.start w rb
  have c42 := fun w' (h' : Rdr w' rb ws p e) => has82 rb ws p e 42 ⟨#[42]⟩ rfl w' h'
  rw [isM_eq, e42] at c42
  simp only [Bool.false_eq_true, if_false] at c42
  have c64 := fun w' (h' : Rdr w' rb ws p e) => has82 rb ws p e 64 ⟨#[64]⟩ rfl w' h'
  rw [isM_eq, e64] at c64
  simp only [Bool.false_eq_true, if_false] at c64
  have c94 := fun w' (h' : Rdr w' rb ws p e) => has82 rb ws p e 94 ⟨#[94]⟩ rfl w' h'
  rw [isM_eq, e94] at c94
  simp only [Bool.false_eq_true, if_false] at c94
  have c33 := fun w' (h' : Rdr w' rb ws p e) => has82 rb ws p e 33 ⟨#[33]⟩ rfl w' h'
  rw [isM_eq, e33] at c33
  simp only [if_true] at c33
  clear e42 e64 e94 e33
  unfold PR
  go_enter Tryz.func83, Tryz.ntmps83
  go_wp2_with fail
  refine (c42 _ h0).mono ?_
  rintro r w42 ⟨rfl, hr42, hk42⟩
  have HA42 : Hid (At w rb w42) := HA0.out.step hlt hk42
  clear hk42 HA0 c42 h0
  go_wp2_with fail
  refine (c64 _ hr42).mono ?_
  rintro r w64 ⟨rfl, hr64, hk64⟩
  have HA64 : Hid (At w rb w64) := HA42.out.step hlt hk64
  clear hk64 HA42 c64 hr42
  go_wp2_with fail
  refine (c94 _ hr64).mono ?_
  rintro r w94 ⟨rfl, hr94, hk94⟩
  have HA94 : Hid (At w rb w94) := HA64.out.step hlt hk94
  clear hk94 HA64 c94 hr64
  go_wp2_with fail
  refine (c33 _ hr94).mono ?_
  rintro r w33 ⟨rfl, hr33, hk33⟩
  have HA33 : Hid (At w rb w33) := HA94.out.step hlt hk33
  clear hk33 HA94 c33 hr94
  replace c := c w33 hr33
  unfold PR at c
  have HA1 := HA33
  have sW := HA33.out.s
  clear HA33 hr33
  go_wp2_with fail
  refine c.mono ?_
  rintro r w1 ⟨o1, k1, l1, h1, t1, x1, n1, rfl, hl1, hr1, hk1⟩
  clear c
  have s12 : w33.heap.size ≤ w1.heap.size := hk1.size
  replace HA1 : Hid (At w rb w1) := HA1.out.step hlt hk1
  obtain ⟨U, hU⟩ : ∃ U, U = w1.alloc (.cells #[.int .i64 o1, .int .i64 k1, .int .i64 l1, .int .i64 h1, .string t1, .slice x1 n1 n1] 53) := ⟨_, rfl⟩
  have HA : Hid (At w rb U) := by rw [hU]; exact HA1.out.alloc _
  have y0 : U.cell? ⟨w1.heap.size, 0, none⟩ = some (.int .i64 o1) := by rw [hU]; simp
  have y1 : U.cell? ⟨w1.heap.size, 1, none⟩ = some (.int .i64 k1) := by rw [hU]; simp
  have y2 : U.cell? ⟨w1.heap.size, 2, none⟩ = some (.int .i64 l1) := by rw [hU]; simp
  have y3 : U.cell? ⟨w1.heap.size, 3, none⟩ = some (.int .i64 h1) := by rw [hU]; simp
  have y4 : U.cell? ⟨w1.heap.size, 4, none⟩ = some (.string t1) := by rw [hU]; simp
  have y5 : U.cell? ⟨w1.heap.size, 5, none⟩ = some (.slice x1 n1 n1) := by rw [hU]; simp
  have HU : Hid (U = w1.alloc (.cells #[.int .i64 o1, .int .i64 k1, .int .i64 l1, .int .i64 h1, .string t1, .slice x1 n1 n1] 53)) := hU
  have s2 : w1.heap.size < U.heap.size := by rw [hU]; simp
  have s3 : w.heap.size < w1.heap.size := HA1.out.s
  have ne1 : w.heap.size ≠ w1.heap.size := by omega
  have ne2 : w1.heap.size ≠ w.heap.size := by omega
  have ne3 : w.heap.size ≠ U.heap.size := by omega
  have ne4 : U.heap.size ≠ w.heap.size := by omega
  have ne5 : w1.heap.size ≠ U.heap.size := by omega
  have ne6 : U.heap.size ≠ w1.heap.size := by omega
  have HR : Hid (Rdr U rb ws q e) := by rw [hU]; exact hr1.alloc _
  have HL : Hid (Lies (Past w33.heap.size) U f o1 k1 l1 h1 t1 x1 n1) := Lies.kept (by rw [hU]; exact (Kept.refl _ w1).alloc _) f hl1
  clear hU hk1 HA1 hr1 hl1
  go_wp2_with fail
  rw [← HU.out]
  have z1 := HA.out.z
  have f1 := HA.out.f
  have s1 := HA.out.s
  clear HU
  refine wp_region_held_drew (S := fun w' => w'.cell? ⟨w1.heap.size, 0, none⟩ = some (.int .i64 o1) ∧ w'.cell? ⟨w1.heap.size, 1, none⟩ = some (.int .i64 k1) ∧ w'.cell? ⟨w1.heap.size, 2, none⟩ = some (.int .i64 l1) ∧ w'.cell? ⟨w1.heap.size, 3, none⟩ = some (.int .i64 h1) ∧ w'.cell? ⟨w1.heap.size, 4, none⟩ = some (.string t1) ∧ w'.cell? ⟨w1.heap.size, 5, none⟩ = some (.slice x1 n1 n1)) (by kernel_rfl) ?_ (fun hHeld => ?_)
  · (try dsimp only)
    go_keep
  refine wpAnyH_take (i := 0) (oi := { dst := some 47, op := Op.load 53 (Operand.tmp 8), type := 53, pos := "read.go:80", after := #[], guard := none }) (v := ?_) rfl (by kernel_rfl) (by kernel_rfl) (by kernel_rfl) (fun _ _ _ h => h) (Or.inl ⟨by rfl, ?_⟩) (by assumption) ?_
  rotate_left
  · intro w hSw
    (try dsimp only at hSw)
    go_simp
    try with_reducible rfl
  simp only [Act.put, List.setIfInBounds_toArray, List.set_cons_zero, List.set_cons_succ]
  refine wpAnyH_take (i := 3) (oi := { dst := some 50, op := Op.move (Operand.tmp 9), type := 65, pos := "read.go:80", after := #[], guard := none }) (v := ?_) rfl (by kernel_rfl) (by kernel_rfl) (by kernel_rfl) (fun _ _ _ h => h) (Or.inl ⟨by rfl, ?_⟩) (by assumption) ?_
  rotate_left
  · intro w hSw
    (try dsimp only at hSw)
    go_simp
    try with_reducible rfl
  simp only [Act.put, List.setIfInBounds_toArray, List.set_cons_zero, List.set_cons_succ]
  obtain ⟨V, hV⟩ : ∃ V, V = (U.alloc (.cells #[.int .i64 o1, .int .i64 k1, .int .i64 l1, .int .i64 h1, .string t1, .slice x1 n1 n1] 53)).drew := ⟨_, rfl⟩
  have sV : U.heap.size < V.heap.size := by rw [hV]; simp
  have KV : Kept Any U V := by rw [hV]; exact ((Kept.refl Any U).alloc _).drew
  have six0 : Six V U.heap.size 0 o1 k1 l1 h1 t1 x1 n1 := by rw [hV]; unfold Six; simp
  have HSV : Hid (Six V U.heap.size 0 o1 k1 l1 h1 t1 x1 n1) := six0
  have HKV : Hid (Kept Any U V) := KV
  have HAV : Hid (At w rb V) := HA.out.step hlt (KV.mono (fun _ _ _ => trivial))
  have v0 : V.cell? ⟨w.heap.size, 0, none⟩ = some (.int .i64 0) := HAV.out.z 0
  have v1 : V.cell? ⟨w.heap.size, 1, none⟩ = some (.int .i64 0) := HAV.out.z 1
  have v2 : V.cell? ⟨w.heap.size, 2, none⟩ = some (.int .i64 0) := HAV.out.z 2
  have v3 : V.cell? ⟨w.heap.size, 3, none⟩ = some (.int .i64 0) := HAV.out.z 3
  have v4 : V.cell? ⟨w.heap.size, 4, none⟩ = some (.string ⟨#[]⟩) := HAV.out.z 4
  have v5 : V.cell? ⟨w.heap.size, 5, none⟩ = some (.slice none 0 0) := HAV.out.z 5
  have vf := HAV.out.f
  have vs := HAV.out.s
  have hSV : (fun w' => w'.cell? ⟨w1.heap.size, 0, none⟩ = some (.int .i64 o1) ∧ w'.cell? ⟨w1.heap.size, 1, none⟩ = some (.int .i64 k1) ∧ w'.cell? ⟨w1.heap.size, 2, none⟩ = some (.int .i64 l1) ∧ w'.cell? ⟨w1.heap.size, 3, none⟩ = some (.int .i64 h1) ∧ w'.cell? ⟨w1.heap.size, 4, none⟩ = some (.string t1) ∧ w'.cell? ⟨w1.heap.size, 5, none⟩ = some (.slice x1 n1 n1)) V := ⟨(KV.cell s2 trivial).trans y0, (KV.cell s2 trivial).trans y1, (KV.cell s2 trivial).trans y2, (KV.cell s2 trivial).trans y3, (KV.cell s2 trivial).trans y4, (KV.cell s2 trivial).trans y5⟩
  dsimp only at hSV
  have HEV : Hid (V = (U.alloc (.cells #[.int .i64 o1, .int .i64 k1, .int .i64 l1, .int .i64 h1, .string t1, .slice x1 n1 n1] 53)).drew) := hV
  clear hV KV six0
  refine wpAnyH_ready (rs := [1, 4]) (by kernel_rfl) (by simp) ?_
  refine AllReadyH.cons (o := { dst := some 48, op := Op.buildSlice 51 1 #[(0, Operand.tmp 47)], type := 51, pos := "read.go:80", after := #[{ on := 0, ground := Ground.data }], guard := none }) rfl (fun K hK => ?_) (AllReadyH.cons (o := { dst := some 51, op := Op.call { callee := Callee.value (Operand.func 51), args := #[Operand.const (Value.string { data := #[33] }), Operand.tmp 50], argTypes := #[9, 65] }, type := 65, pos := "read.go:80", after := #[{ on := 3, ground := Ground.data }], guard := none }) rfl (fun K hK => ?_) AllReadyH.nil)
  · go_simp
    rw [← HEV.out]
    refine hK.out _ _ hSV (fun hHeld => ?_)
    clear hK K
    try simp only [Act.put, List.setIfInBounds_toArray, List.set_cons_zero, List.set_cons_succ]
    refine wpAnyH_take (i := 2) (oi := { dst := some 49, op := Op.build 53 #[(0, Operand.const (Value.int IntKind.i64 7)), (5, Operand.tmp 48)], type := 53, pos := "read.go:80", after := #[{ on := 1, ground := Ground.data }], guard := none }) (v := ?_) rfl (by kernel_rfl) (by kernel_rfl) (by kernel_rfl) (fun _ _ _ h => h) (Or.inl ⟨by rfl, ?_⟩) (by assumption) ?_
    rotate_left
    · intro w hSw
      (try dsimp only at hSw)
      go_simp
      try with_reducible rfl
    simp only [Act.put, List.setIfInBounds_toArray, List.set_cons_zero, List.set_cons_succ]
    refine wpAnyH_ready (rs := [4]) (by kernel_rfl) (by simp) ?_
    refine AllReadyH.cons (o := { dst := some 51, op := Op.call { callee := Callee.value (Operand.func 51), args := #[Operand.const (Value.string { data := #[33] }), Operand.tmp 50], argTypes := #[9, 65] }, type := 65, pos := "read.go:80", after := #[{ on := 3, ground := Ground.data }], guard := none }) rfl (fun K hK => ?_) AllReadyH.nil
    go_simp
    go_at_call 51
    refine (within_none _ _).mono ?_
    rintro r w2 ⟨rfl, rfl⟩
    refine hK.out _ _ hSV (fun hHeld => ?_)
    clear hK K
    try simp only [Act.put, List.setIfInBounds_toArray, List.set_cons_zero, List.set_cons_succ]
    refine wpAnyH_ready (rs := [5]) (by kernel_rfl) (by simp) ?_
    refine AllReadyH.cons (o := { dst := none, op := Op.store 53 (Operand.tmp 2) (Operand.tmp 49), type := 0, pos := "read.go:80", after := #[{ on := 2, ground := Ground.data }, { on := 4, ground := Ground.chain }, { on := 0, ground := Ground.phase }, { on := 1, ground := Ground.phase }, { on := 2, ground := Ground.phase }, { on := 3, ground := Ground.textOnly Departure.lateStores }, { on := 4, ground := Ground.textOnly Departure.lateStoresUnsure }], guard := none }) rfl (fun K hK => ?_) AllReadyH.nil
    go_simp
    refine hK.out _ _ ?_ (fun hHeld => ?_)
    · (try dsimp only)
      go_keep
    clear hK K
    try simp only [Act.put, List.setIfInBounds_toArray, List.set_cons_zero, List.set_cons_succ]
    refine wpAnyH_take (i := 6) (oi := { dst := some 3, op := Op.assign (Operand.tmp 51), type := 65, pos := "read.go:80", after := #[{ on := 4, ground := Ground.data }, { on := 5, ground := Ground.chain }, { on := 0, ground := Ground.phase }, { on := 1, ground := Ground.phase }, { on := 2, ground := Ground.phase }, { on := 3, ground := Ground.phase }, { on := 4, ground := Ground.phase }, { on := 5, ground := Ground.phase }], guard := none }) (v := ?_) rfl (by kernel_rfl) (by kernel_rfl) (by kernel_rfl) (fun _ _ _ h => h) (Or.inl ⟨by rfl, ?_⟩) (by assumption) ?_
    rotate_left
    · intro w hSw
      (try dsimp only at hSw)
      go_simp
      try with_reducible rfl
    simp only [Act.put, List.setIfInBounds_toArray, List.set_cons_zero, List.set_cons_succ]
    refine wpAnyH_done (by kernel_rfl) ?_ _
    go_wp2
    refine bodyPost_ret (v := .tuple #[.agg #[.int .i64 7, .int .i64 0, .int .i64 0, .int .i64 0, .string ⟨#[]⟩, .slice (some ⟨U.heap.size, 0, none⟩) 1 1], .nilIface]) (by simp [results, Tryz.results83, go_sem, v0, v1, v2, v3, v4, v5]) rfl ⟨7, 0, 0, 0, ⟨#[]⟩, some ⟨U.heap.size, 0, none⟩, 1, rfl, ⟨rfl, rfl, rfl, rfl, rfl, U.heap.size, o1, k1, l1, h1, t1, x1, n1, rfl, rfl, by unfold Past; omega, HSV.out.kept (P := Past w33.heap.size) (by unfold Past; omega) (past_six sW), Lies.mono (P := Past w33.heap.size) (fun b _ hb => by unfold Past at *; omega) f (Lies.kept (past_six sW) f (Lies.kept (HKV.out.mono (fun _ _ _ => trivial)) f HL.out))⟩, (HR.out.below (HKV.out.below (by have := HR.out.lt; omega) (fun _ _ => trivial))).below (below_six hlt), kept_six HAV.out.k⟩
  · go_simp
    go_at_call 51
    refine (within_none _ _).mono ?_
    rintro r w2 ⟨rfl, rfl⟩
    refine hK.out _ _ hHeld (fun hHeld => ?_)
    clear hK K
    try simp only [Act.put, List.setIfInBounds_toArray, List.set_cons_zero, List.set_cons_succ]
    refine wpAnyH_ready (rs := [1]) (by kernel_rfl) (by simp) ?_
    refine AllReadyH.cons (o := { dst := some 48, op := Op.buildSlice 51 1 #[(0, Operand.tmp 47)], type := 51, pos := "read.go:80", after := #[{ on := 0, ground := Ground.data }], guard := none }) rfl (fun K hK => ?_) AllReadyH.nil
    go_simp
    rw [← HEV.out]
    refine hK.out _ _ hSV (fun hHeld => ?_)
    clear hK K
    try simp only [Act.put, List.setIfInBounds_toArray, List.set_cons_zero, List.set_cons_succ]
    refine wpAnyH_take (i := 2) (oi := { dst := some 49, op := Op.build 53 #[(0, Operand.const (Value.int IntKind.i64 7)), (5, Operand.tmp 48)], type := 53, pos := "read.go:80", after := #[{ on := 1, ground := Ground.data }], guard := none }) (v := ?_) rfl (by kernel_rfl) (by kernel_rfl) (by kernel_rfl) (fun _ _ _ h => h) (Or.inl ⟨by rfl, ?_⟩) (by assumption) ?_
    rotate_left
    · intro w hSw
      (try dsimp only at hSw)
      go_simp
      try with_reducible rfl
    simp only [Act.put, List.setIfInBounds_toArray, List.set_cons_zero, List.set_cons_succ]
    refine wpAnyH_ready (rs := [5]) (by kernel_rfl) (by simp) ?_
    refine AllReadyH.cons (o := { dst := none, op := Op.store 53 (Operand.tmp 2) (Operand.tmp 49), type := 0, pos := "read.go:80", after := #[{ on := 2, ground := Ground.data }, { on := 4, ground := Ground.chain }, { on := 0, ground := Ground.phase }, { on := 1, ground := Ground.phase }, { on := 2, ground := Ground.phase }, { on := 3, ground := Ground.textOnly Departure.lateStores }, { on := 4, ground := Ground.textOnly Departure.lateStoresUnsure }], guard := none }) rfl (fun K hK => ?_) AllReadyH.nil
    go_simp
    refine hK.out _ _ ?_ (fun hHeld => ?_)
    · (try dsimp only)
      go_keep
    clear hK K
    try simp only [Act.put, List.setIfInBounds_toArray, List.set_cons_zero, List.set_cons_succ]
    refine wpAnyH_take (i := 6) (oi := { dst := some 3, op := Op.assign (Operand.tmp 51), type := 65, pos := "read.go:80", after := #[{ on := 4, ground := Ground.data }, { on := 5, ground := Ground.chain }, { on := 0, ground := Ground.phase }, { on := 1, ground := Ground.phase }, { on := 2, ground := Ground.phase }, { on := 3, ground := Ground.phase }, { on := 4, ground := Ground.phase }, { on := 5, ground := Ground.phase }], guard := none }) (v := ?_) rfl (by kernel_rfl) (by kernel_rfl) (by kernel_rfl) (fun _ _ _ h => h) (Or.inl ⟨by rfl, ?_⟩) (by assumption) ?_
    rotate_left
    · intro w hSw
      (try dsimp only at hSw)
      go_simp
      try with_reducible rfl
    simp only [Act.put, List.setIfInBounds_toArray, List.set_cons_zero, List.set_cons_succ]
    refine wpAnyH_done (by kernel_rfl) ?_ _
    go_wp2
    refine bodyPost_ret (v := .tuple #[.agg #[.int .i64 7, .int .i64 0, .int .i64 0, .int .i64 0, .string ⟨#[]⟩, .slice (some ⟨U.heap.size, 0, none⟩) 1 1], .nilIface]) (by simp [results, Tryz.results83, go_sem, v0, v1, v2, v3, v4, v5]) rfl ⟨7, 0, 0, 0, ⟨#[]⟩, some ⟨U.heap.size, 0, none⟩, 1, rfl, ⟨rfl, rfl, rfl, rfl, rfl, U.heap.size, o1, k1, l1, h1, t1, x1, n1, rfl, rfl, by unfold Past; omega, HSV.out.kept (P := Past w33.heap.size) (by unfold Past; omega) (past_six sW), Lies.mono (P := Past w33.heap.size) (fun b _ hb => by unfold Past at *; omega) f (Lies.kept (past_six sW) f (Lies.kept (HKV.out.mono (fun _ _ _ => trivial)) f HL.out))⟩, (HR.out.below (HKV.out.below (by have := HR.out.lt; omega) (fun _ _ => trivial))).below (below_six hlt), kept_six HAV.out.k⟩

set_option maxHeartbeats 4000000 in
theorem single_not_no83 (rb : Nat) (ws : List Wd.Word) (p : Nat) (e : Int) (w : World) (hg : Ps.Goods ws) (h : Rdr w rb ws p e) (e42 : Ps.isMark ws p 42 = false) (e64 : Ps.isMark ws p 64 = false) (e94 : Ps.isMark ws p 94 = false) (e33 : Ps.isMark ws p 33 = true) (c : ∀ w, Rdr w rb ws (p + 1) e → Calls Tryz.prog 83 #[.pointer (some ⟨rb, 0, none⟩)] w (PR rb ws e (none) w)) : Calls Tryz.prog 83 #[.pointer (some ⟨rb, 0, none⟩)] w (PR rb ws e (none) w) := by
  have hlt := h.lt
  have h0 : Rdr (w.alloc (.cells #[.int .i64 0, .int .i64 0, .int .i64 0, .int .i64 0, .string ⟨#[]⟩, .slice none 0 0] 53)) rb ws p e := h.alloc _
  have HA0 : Hid (At w rb (w.alloc (.cells #[.int .i64 0, .int .i64 0, .int .i64 0, .int .i64 0, .string ⟨#[]⟩, .slice none 0 0] 53))) := At.start w rb
  have c42 := fun w' (h' : Rdr w' rb ws p e) => has82 rb ws p e 42 ⟨#[42]⟩ rfl w' h'
  rw [isM_eq, e42] at c42
  simp only [Bool.false_eq_true, if_false] at c42
  have c64 := fun w' (h' : Rdr w' rb ws p e) => has82 rb ws p e 64 ⟨#[64]⟩ rfl w' h'
  rw [isM_eq, e64] at c64
  simp only [Bool.false_eq_true, if_false] at c64
  have c94 := fun w' (h' : Rdr w' rb ws p e) => has82 rb ws p e 94 ⟨#[94]⟩ rfl w' h'
  rw [isM_eq, e94] at c94
  simp only [Bool.false_eq_true, if_false] at c94
  have c33 := fun w' (h' : Rdr w' rb ws p e) => has82 rb ws p e 33 ⟨#[33]⟩ rfl w' h'
  rw [isM_eq, e33] at c33
  simp only [if_true] at c33
  clear e42 e64 e94 e33
  unfold PR
  go_enter Tryz.func83, Tryz.ntmps83
  go_wp2_with fail
  refine (c42 _ h0).mono ?_
  rintro r w42 ⟨rfl, hr42, hk42⟩
  have HA42 : Hid (At w rb w42) := HA0.out.step hlt hk42
  clear hk42 HA0 c42 h0
  go_wp2_with fail
  refine (c64 _ hr42).mono ?_
  rintro r w64 ⟨rfl, hr64, hk64⟩
  have HA64 : Hid (At w rb w64) := HA42.out.step hlt hk64
  clear hk64 HA42 c64 hr42
  go_wp2_with fail
  refine (c94 _ hr64).mono ?_
  rintro r w94 ⟨rfl, hr94, hk94⟩
  have HA94 : Hid (At w rb w94) := HA64.out.step hlt hk94
  clear hk94 HA64 c94 hr64
  go_wp2_with fail
  refine (c33 _ hr94).mono ?_
  rintro r w33 ⟨rfl, hr33, hk33⟩
  have HA33 : Hid (At w rb w33) := HA94.out.step hlt hk33
  clear hk33 HA94 c33 hr94
  replace c := c w33 hr33
  unfold PR at c
  have HA1 := HA33
  have sW := HA33.out.s
  clear HA33 hr33
  go_wp2_with fail
  refine c.mono ?_
  rintro r w1 ⟨o1, k1, l1, h1, t1, x1, n1, m, T, v, rfl, hm, hk1⟩
  clear c
  have s12 : w33.heap.size ≤ w1.heap.size := hk1.size
  replace HA1 : Hid (At w rb w1) := HA1.out.step hlt hk1
  obtain ⟨U, hU⟩ : ∃ U, U = w1.alloc (.cells #[.int .i64 o1, .int .i64 k1, .int .i64 l1, .int .i64 h1, .string t1, .slice x1 n1 n1] 53) := ⟨_, rfl⟩
  have HA : Hid (At w rb U) := by rw [hU]; exact HA1.out.alloc _
  have y0 : U.cell? ⟨w1.heap.size, 0, none⟩ = some (.int .i64 o1) := by rw [hU]; simp
  have y1 : U.cell? ⟨w1.heap.size, 1, none⟩ = some (.int .i64 k1) := by rw [hU]; simp
  have y2 : U.cell? ⟨w1.heap.size, 2, none⟩ = some (.int .i64 l1) := by rw [hU]; simp
  have y3 : U.cell? ⟨w1.heap.size, 3, none⟩ = some (.int .i64 h1) := by rw [hU]; simp
  have y4 : U.cell? ⟨w1.heap.size, 4, none⟩ = some (.string t1) := by rw [hU]; simp
  have y5 : U.cell? ⟨w1.heap.size, 5, none⟩ = some (.slice x1 n1 n1) := by rw [hU]; simp
  have HU : Hid (U = w1.alloc (.cells #[.int .i64 o1, .int .i64 k1, .int .i64 l1, .int .i64 h1, .string t1, .slice x1 n1 n1] 53)) := hU
  have s2 : w1.heap.size < U.heap.size := by rw [hU]; simp
  have s3 : w.heap.size < w1.heap.size := HA1.out.s
  have ne1 : w.heap.size ≠ w1.heap.size := by omega
  have ne2 : w1.heap.size ≠ w.heap.size := by omega
  have ne3 : w.heap.size ≠ U.heap.size := by omega
  have ne4 : U.heap.size ≠ w.heap.size := by omega
  have ne5 : w1.heap.size ≠ U.heap.size := by omega
  have ne6 : U.heap.size ≠ w1.heap.size := by omega
  have HM : Hid (Mis m (.iface T v)) := hm
  clear hU hk1 HA1 hm
  go_wp2_with fail
  rw [← HU.out]
  have z1 := HA.out.z
  have f1 := HA.out.f
  have s1 := HA.out.s
  clear HU
  refine wp_region_held_drew (S := fun w' => w'.cell? ⟨w1.heap.size, 0, none⟩ = some (.int .i64 o1) ∧ w'.cell? ⟨w1.heap.size, 1, none⟩ = some (.int .i64 k1) ∧ w'.cell? ⟨w1.heap.size, 2, none⟩ = some (.int .i64 l1) ∧ w'.cell? ⟨w1.heap.size, 3, none⟩ = some (.int .i64 h1) ∧ w'.cell? ⟨w1.heap.size, 4, none⟩ = some (.string t1) ∧ w'.cell? ⟨w1.heap.size, 5, none⟩ = some (.slice x1 n1 n1)) (by kernel_rfl) ?_ (fun hHeld => ?_)
  · (try dsimp only)
    go_keep
  refine wpAnyH_take (i := 0) (oi := { dst := some 47, op := Op.load 53 (Operand.tmp 8), type := 53, pos := "read.go:80", after := #[], guard := none }) (v := ?_) rfl (by kernel_rfl) (by kernel_rfl) (by kernel_rfl) (fun _ _ _ h => h) (Or.inl ⟨by rfl, ?_⟩) (by assumption) ?_
  rotate_left
  · intro w hSw
    (try dsimp only at hSw)
    go_simp
    try with_reducible rfl
  simp only [Act.put, List.setIfInBounds_toArray, List.set_cons_zero, List.set_cons_succ]
  refine wpAnyH_take (i := 3) (oi := { dst := some 50, op := Op.move (Operand.tmp 9), type := 65, pos := "read.go:80", after := #[], guard := none }) (v := ?_) rfl (by kernel_rfl) (by kernel_rfl) (by kernel_rfl) (fun _ _ _ h => h) (Or.inl ⟨by rfl, ?_⟩) (by assumption) ?_
  rotate_left
  · intro w hSw
    (try dsimp only at hSw)
    go_simp
    try with_reducible rfl
  simp only [Act.put, List.setIfInBounds_toArray, List.set_cons_zero, List.set_cons_succ]
  obtain ⟨V, hV⟩ : ∃ V, V = (U.alloc (.cells #[.int .i64 o1, .int .i64 k1, .int .i64 l1, .int .i64 h1, .string t1, .slice x1 n1 n1] 53)).drew := ⟨_, rfl⟩
  have sV : U.heap.size < V.heap.size := by rw [hV]; simp
  have KV : Kept Any U V := by rw [hV]; exact ((Kept.refl Any U).alloc _).drew
  have six0 : Six V U.heap.size 0 o1 k1 l1 h1 t1 x1 n1 := by rw [hV]; unfold Six; simp
  have HSV : Hid (Six V U.heap.size 0 o1 k1 l1 h1 t1 x1 n1) := six0
  have HKV : Hid (Kept Any U V) := KV
  have HAV : Hid (At w rb V) := HA.out.step hlt (KV.mono (fun _ _ _ => trivial))
  have v0 : V.cell? ⟨w.heap.size, 0, none⟩ = some (.int .i64 0) := HAV.out.z 0
  have v1 : V.cell? ⟨w.heap.size, 1, none⟩ = some (.int .i64 0) := HAV.out.z 1
  have v2 : V.cell? ⟨w.heap.size, 2, none⟩ = some (.int .i64 0) := HAV.out.z 2
  have v3 : V.cell? ⟨w.heap.size, 3, none⟩ = some (.int .i64 0) := HAV.out.z 3
  have v4 : V.cell? ⟨w.heap.size, 4, none⟩ = some (.string ⟨#[]⟩) := HAV.out.z 4
  have v5 : V.cell? ⟨w.heap.size, 5, none⟩ = some (.slice none 0 0) := HAV.out.z 5
  have vf := HAV.out.f
  have vs := HAV.out.s
  have hSV : (fun w' => w'.cell? ⟨w1.heap.size, 0, none⟩ = some (.int .i64 o1) ∧ w'.cell? ⟨w1.heap.size, 1, none⟩ = some (.int .i64 k1) ∧ w'.cell? ⟨w1.heap.size, 2, none⟩ = some (.int .i64 l1) ∧ w'.cell? ⟨w1.heap.size, 3, none⟩ = some (.int .i64 h1) ∧ w'.cell? ⟨w1.heap.size, 4, none⟩ = some (.string t1) ∧ w'.cell? ⟨w1.heap.size, 5, none⟩ = some (.slice x1 n1 n1)) V := ⟨(KV.cell s2 trivial).trans y0, (KV.cell s2 trivial).trans y1, (KV.cell s2 trivial).trans y2, (KV.cell s2 trivial).trans y3, (KV.cell s2 trivial).trans y4, (KV.cell s2 trivial).trans y5⟩
  dsimp only at hSV
  have HEV : Hid (V = (U.alloc (.cells #[.int .i64 o1, .int .i64 k1, .int .i64 l1, .int .i64 h1, .string t1, .slice x1 n1 n1] 53)).drew) := hV
  clear hV KV six0
  refine wpAnyH_ready (rs := [1, 4]) (by kernel_rfl) (by simp) ?_
  refine AllReadyH.cons (o := { dst := some 48, op := Op.buildSlice 51 1 #[(0, Operand.tmp 47)], type := 51, pos := "read.go:80", after := #[{ on := 0, ground := Ground.data }], guard := none }) rfl (fun K hK => ?_) (AllReadyH.cons (o := { dst := some 51, op := Op.call { callee := Callee.value (Operand.func 51), args := #[Operand.const (Value.string { data := #[33] }), Operand.tmp 50], argTypes := #[9, 65] }, type := 65, pos := "read.go:80", after := #[{ on := 3, ground := Ground.data }], guard := none }) rfl (fun K hK => ?_) AllReadyH.nil)
  · go_simp
    rw [← HEV.out]
    refine hK.out _ _ hSV (fun hHeld => ?_)
    clear hK K
    try simp only [Act.put, List.setIfInBounds_toArray, List.set_cons_zero, List.set_cons_succ]
    refine wpAnyH_take (i := 2) (oi := { dst := some 49, op := Op.build 53 #[(0, Operand.const (Value.int IntKind.i64 7)), (5, Operand.tmp 48)], type := 53, pos := "read.go:80", after := #[{ on := 1, ground := Ground.data }], guard := none }) (v := ?_) rfl (by kernel_rfl) (by kernel_rfl) (by kernel_rfl) (fun _ _ _ h => h) (Or.inl ⟨by rfl, ?_⟩) (by assumption) ?_
    rotate_left
    · intro w hSw
      (try dsimp only at hSw)
      go_simp
      try with_reducible rfl
    simp only [Act.put, List.setIfInBounds_toArray, List.set_cons_zero, List.set_cons_succ]
    refine wpAnyH_ready (rs := [4]) (by kernel_rfl) (by simp) ?_
    refine AllReadyH.cons (o := { dst := some 51, op := Op.call { callee := Callee.value (Operand.func 51), args := #[Operand.const (Value.string { data := #[33] }), Operand.tmp 50], argTypes := #[9, 65] }, type := 65, pos := "read.go:80", after := #[{ on := 3, ground := Ground.data }], guard := none }) rfl (fun K hK => ?_) AllReadyH.nil
    go_simp
    go_at_call 51
    refine (within_one _ _ _ _).mono ?_
    rintro r w2 ⟨rfl, rfl⟩
    refine hK.out _ _ hSV (fun hHeld => ?_)
    clear hK K
    try simp only [Act.put, List.setIfInBounds_toArray, List.set_cons_zero, List.set_cons_succ]
    refine wpAnyH_ready (rs := [5]) (by kernel_rfl) (by simp) ?_
    refine AllReadyH.cons (o := { dst := none, op := Op.store 53 (Operand.tmp 2) (Operand.tmp 49), type := 0, pos := "read.go:80", after := #[{ on := 2, ground := Ground.data }, { on := 4, ground := Ground.chain }, { on := 0, ground := Ground.phase }, { on := 1, ground := Ground.phase }, { on := 2, ground := Ground.phase }, { on := 3, ground := Ground.textOnly Departure.lateStores }, { on := 4, ground := Ground.textOnly Departure.lateStoresUnsure }], guard := none }) rfl (fun K hK => ?_) AllReadyH.nil
    go_simp
    refine hK.out _ _ ?_ (fun hHeld => ?_)
    · (try dsimp only)
      go_keep
    clear hK K
    try simp only [Act.put, List.setIfInBounds_toArray, List.set_cons_zero, List.set_cons_succ]
    refine wpAnyH_take (i := 6) (oi := { dst := some 3, op := Op.assign (Operand.tmp 51), type := 65, pos := "read.go:80", after := #[{ on := 4, ground := Ground.data }, { on := 5, ground := Ground.chain }, { on := 0, ground := Ground.phase }, { on := 1, ground := Ground.phase }, { on := 2, ground := Ground.phase }, { on := 3, ground := Ground.phase }, { on := 4, ground := Ground.phase }, { on := 5, ground := Ground.phase }], guard := none }) (v := ?_) rfl (by kernel_rfl) (by kernel_rfl) (by kernel_rfl) (fun _ _ _ h => h) (Or.inl ⟨by rfl, ?_⟩) (by assumption) ?_
    rotate_left
    · intro w hSw
      (try dsimp only at hSw)
      go_simp
      try with_reducible rfl
    simp only [Act.put, List.setIfInBounds_toArray, List.set_cons_zero, List.set_cons_succ]
    refine wpAnyH_done (by kernel_rfl) ?_ _
    go_wp2
    refine bodyPost_ret (v := .tuple #[.agg #[.int .i64 7, .int .i64 0, .int .i64 0, .int .i64 0, .string ⟨#[]⟩, .slice (some ⟨U.heap.size, 0, none⟩) 1 1], _]) (by simp [results, Tryz.results83, go_sem, v0, v1, v2, v3, v4, v5] <;> rfl) rfl ⟨7, 0, 0, 0, ⟨#[]⟩, some ⟨U.heap.size, 0, none⟩, 1, _, _, _, rfl, HM.out.one _, kept_six HAV.out.k⟩
  · go_simp
    go_at_call 51
    refine (within_one _ _ _ _).mono ?_
    rintro r w2 ⟨rfl, rfl⟩
    refine hK.out _ _ hHeld (fun hHeld => ?_)
    clear hK K
    try simp only [Act.put, List.setIfInBounds_toArray, List.set_cons_zero, List.set_cons_succ]
    refine wpAnyH_ready (rs := [1]) (by kernel_rfl) (by simp) ?_
    refine AllReadyH.cons (o := { dst := some 48, op := Op.buildSlice 51 1 #[(0, Operand.tmp 47)], type := 51, pos := "read.go:80", after := #[{ on := 0, ground := Ground.data }], guard := none }) rfl (fun K hK => ?_) AllReadyH.nil
    go_simp
    rw [← HEV.out]
    refine hK.out _ _ hSV (fun hHeld => ?_)
    clear hK K
    try simp only [Act.put, List.setIfInBounds_toArray, List.set_cons_zero, List.set_cons_succ]
    refine wpAnyH_take (i := 2) (oi := { dst := some 49, op := Op.build 53 #[(0, Operand.const (Value.int IntKind.i64 7)), (5, Operand.tmp 48)], type := 53, pos := "read.go:80", after := #[{ on := 1, ground := Ground.data }], guard := none }) (v := ?_) rfl (by kernel_rfl) (by kernel_rfl) (by kernel_rfl) (fun _ _ _ h => h) (Or.inl ⟨by rfl, ?_⟩) (by assumption) ?_
    rotate_left
    · intro w hSw
      (try dsimp only at hSw)
      go_simp
      try with_reducible rfl
    simp only [Act.put, List.setIfInBounds_toArray, List.set_cons_zero, List.set_cons_succ]
    refine wpAnyH_ready (rs := [5]) (by kernel_rfl) (by simp) ?_
    refine AllReadyH.cons (o := { dst := none, op := Op.store 53 (Operand.tmp 2) (Operand.tmp 49), type := 0, pos := "read.go:80", after := #[{ on := 2, ground := Ground.data }, { on := 4, ground := Ground.chain }, { on := 0, ground := Ground.phase }, { on := 1, ground := Ground.phase }, { on := 2, ground := Ground.phase }, { on := 3, ground := Ground.textOnly Departure.lateStores }, { on := 4, ground := Ground.textOnly Departure.lateStoresUnsure }], guard := none }) rfl (fun K hK => ?_) AllReadyH.nil
    go_simp
    refine hK.out _ _ ?_ (fun hHeld => ?_)
    · (try dsimp only)
      go_keep
    clear hK K
    try simp only [Act.put, List.setIfInBounds_toArray, List.set_cons_zero, List.set_cons_succ]
    refine wpAnyH_take (i := 6) (oi := { dst := some 3, op := Op.assign (Operand.tmp 51), type := 65, pos := "read.go:80", after := #[{ on := 4, ground := Ground.data }, { on := 5, ground := Ground.chain }, { on := 0, ground := Ground.phase }, { on := 1, ground := Ground.phase }, { on := 2, ground := Ground.phase }, { on := 3, ground := Ground.phase }, { on := 4, ground := Ground.phase }, { on := 5, ground := Ground.phase }], guard := none }) (v := ?_) rfl (by kernel_rfl) (by kernel_rfl) (by kernel_rfl) (fun _ _ _ h => h) (Or.inl ⟨by rfl, ?_⟩) (by assumption) ?_
    rotate_left
    · intro w hSw
      (try dsimp only at hSw)
      go_simp
      try with_reducible rfl
    simp only [Act.put, List.setIfInBounds_toArray, List.set_cons_zero, List.set_cons_succ]
    refine wpAnyH_done (by kernel_rfl) ?_ _
    go_wp2
    refine bodyPost_ret (v := .tuple #[.agg #[.int .i64 7, .int .i64 0, .int .i64 0, .int .i64 0, .string ⟨#[]⟩, .slice (some ⟨U.heap.size, 0, none⟩) 1 1], _]) (by simp [results, Tryz.results83, go_sem, v0, v1, v2, v3, v4, v5] <;> rfl) rfl ⟨7, 0, 0, 0, ⟨#[]⟩, some ⟨U.heap.size, 0, none⟩, 1, _, _, _, rfl, HM.out.one _, kept_six HAV.out.k⟩

set_option maxHeartbeats 4000000 in
theorem single_open_no83 (rb : Nat) (ws : List Wd.Word) (p : Nat) (e : Int) (w : World) (hg : Ps.Goods ws) (h : Rdr w rb ws p e) (e42 : Ps.isMark ws p 42 = false) (e64 : Ps.isMark ws p 64 = false) (e94 : Ps.isMark ws p 94 = false) (e33 : Ps.isMark ws p 33 = false) (e40 : Ps.isMark ws p 40 = true) (c : ∀ w, Rdr w rb ws (p + 1) e → Calls Tryz.prog 52 #[.pointer (some ⟨rb, 0, none⟩)] w (PR rb ws e (none) w)) : Calls Tryz.prog 83 #[.pointer (some ⟨rb, 0, none⟩)] w (PR rb ws e (none) w) := by
  have hlt := h.lt
  have h0 : Rdr (w.alloc (.cells #[.int .i64 0, .int .i64 0, .int .i64 0, .int .i64 0, .string ⟨#[]⟩, .slice none 0 0] 53)) rb ws p e := h.alloc _
  have HA0 : Hid (At w rb (w.alloc (.cells #[.int .i64 0, .int .i64 0, .int .i64 0, .int .i64 0, .string ⟨#[]⟩, .slice none 0 0] 53))) := At.start w rb
  have c42 := fun w' (h' : Rdr w' rb ws p e) => has82 rb ws p e 42 ⟨#[42]⟩ rfl w' h'
  rw [isM_eq, e42] at c42
  simp only [Bool.false_eq_true, if_false] at c42
  have c64 := fun w' (h' : Rdr w' rb ws p e) => has82 rb ws p e 64 ⟨#[64]⟩ rfl w' h'
  rw [isM_eq, e64] at c64
  simp only [Bool.false_eq_true, if_false] at c64
  have c94 := fun w' (h' : Rdr w' rb ws p e) => has82 rb ws p e 94 ⟨#[94]⟩ rfl w' h'
  rw [isM_eq, e94] at c94
  simp only [Bool.false_eq_true, if_false] at c94
  have c33 := fun w' (h' : Rdr w' rb ws p e) => has82 rb ws p e 33 ⟨#[33]⟩ rfl w' h'
  rw [isM_eq, e33] at c33
  simp only [Bool.false_eq_true, if_false] at c33
  have c40 := fun w' (h' : Rdr w' rb ws p e) => has82 rb ws p e 40 ⟨#[40]⟩ rfl w' h'
  rw [isM_eq, e40] at c40
  simp only [if_true] at c40
  clear e42 e64 e94 e33 e40
  unfold PR
  go_enter Tryz.func83, Tryz.ntmps83
  go_wp2_with fail
  refine (c42 _ h0).mono ?_
  rintro r w42 ⟨rfl, hr42, hk42⟩
  have HA42 : Hid (At w rb w42) := HA0.out.step hlt hk42
  clear hk42 HA0 c42 h0
  go_wp2_with fail
  refine (c64 _ hr42).mono ?_
  rintro r w64 ⟨rfl, hr64, hk64⟩
  have HA64 : Hid (At w rb w64) := HA42.out.step hlt hk64
  clear hk64 HA42 c64 hr42
  go_wp2_with fail
  refine (c94 _ hr64).mono ?_
  rintro r w94 ⟨rfl, hr94, hk94⟩
  have HA94 : Hid (At w rb w94) := HA64.out.step hlt hk94
  clear hk94 HA64 c94 hr64
  go_wp2_with fail
  refine (c33 _ hr94).mono ?_
  rintro r w33 ⟨rfl, hr33, hk33⟩
  have HA33 : Hid (At w rb w33) := HA94.out.step hlt hk33
  clear hk33 HA94 c33 hr94
  go_wp2_with fail
  refine (c40 _ hr33).mono ?_
  rintro r w40 ⟨rfl, hr40, hk40⟩
  have HA40 : Hid (At w rb w40) := HA33.out.step hlt hk40
  clear hk40 HA33 c40 hr33
  replace c := c w40 hr40
  unfold PR at c
  have HA1 := HA40
  have sW := HA40.out.s
  clear HA40 hr40
  go_wp2_with fail
  refine c.mono ?_
  rintro r w1 ⟨o1, k1, l1, h1, t1, x1, n1, m, T, v, rfl, hm, hk1⟩
  clear c
  have s12 : w40.heap.size ≤ w1.heap.size := hk1.size
  replace HA1 : Hid (At w rb w1) := HA1.out.step hlt hk1
  obtain ⟨U, hU⟩ : ∃ U, U = w1.alloc (.cells #[.int .i64 o1, .int .i64 k1, .int .i64 l1, .int .i64 h1, .string t1, .slice x1 n1 n1] 53) := ⟨_, rfl⟩
  have HA : Hid (At w rb U) := by rw [hU]; exact HA1.out.alloc _
  have y0 : U.cell? ⟨w1.heap.size, 0, none⟩ = some (.int .i64 o1) := by rw [hU]; simp
  have y1 : U.cell? ⟨w1.heap.size, 1, none⟩ = some (.int .i64 k1) := by rw [hU]; simp
  have y2 : U.cell? ⟨w1.heap.size, 2, none⟩ = some (.int .i64 l1) := by rw [hU]; simp
  have y3 : U.cell? ⟨w1.heap.size, 3, none⟩ = some (.int .i64 h1) := by rw [hU]; simp
  have y4 : U.cell? ⟨w1.heap.size, 4, none⟩ = some (.string t1) := by rw [hU]; simp
  have y5 : U.cell? ⟨w1.heap.size, 5, none⟩ = some (.slice x1 n1 n1) := by rw [hU]; simp
  have HU : Hid (U = w1.alloc (.cells #[.int .i64 o1, .int .i64 k1, .int .i64 l1, .int .i64 h1, .string t1, .slice x1 n1 n1] 53)) := hU
  have s2 : w1.heap.size < U.heap.size := by rw [hU]; simp
  have s3 : w.heap.size < w1.heap.size := HA1.out.s
  have ne1 : w.heap.size ≠ w1.heap.size := by omega
  have ne2 : w1.heap.size ≠ w.heap.size := by omega
  have ne3 : w.heap.size ≠ U.heap.size := by omega
  have ne4 : U.heap.size ≠ w.heap.size := by omega
  have ne5 : w1.heap.size ≠ U.heap.size := by omega
  have ne6 : U.heap.size ≠ w1.heap.size := by omega
  have HM : Hid (Mis m (.iface T v)) := hm
  clear hU hk1 HA1 hm
  go_wp2_with fail
  rw [← HU.out]
  have z1 := HA.out.z
  have f1 := HA.out.f
  have s1 := HA.out.s
  clear HU
  go_region_with (first | (go_at_call 51; refine (within_one _ _ _ _).mono ?_; rintro r w2 ⟨rfl, rfl⟩))
  all_goals (try go_wp2)
  all_goals (
    refine bodyPost_ret (v := .tuple #[.agg #[.int .i64 o1, .int .i64 k1, .int .i64 l1, .int .i64 h1, .string t1, .slice x1 n1 n1], _]) (by simp [results, Tryz.results83, go_sem, z1] <;> rfl) rfl ⟨o1, k1, l1, h1, t1, x1, n1, _, _, _, rfl, HM.out.one _, kept_six_drew HA.out.k⟩)

set_option maxHeartbeats 4000000 in
theorem single_open83 (rb : Nat) (ws : List Wd.Word) (p : Nat) (e : Int) (w : World) (hg : Ps.Goods ws) (h : Rdr w rb ws p e) (e42 : Ps.isMark ws p 42 = false) (e64 : Ps.isMark ws p 64 = false) (e94 : Ps.isMark ws p 94 = false) (e33 : Ps.isMark ws p 33 = false) (e40 : Ps.isMark ws p 40 = true) (f : Ps.Ft) (q : Nat) (e41 : Ps.isMark ws q 41 = true) (c : ∀ w, Rdr w rb ws (p + 1) e → Calls Tryz.prog 52 #[.pointer (some ⟨rb, 0, none⟩)] w (PR rb ws e (some (f, q)) w)) : Calls Tryz.prog 83 #[.pointer (some ⟨rb, 0, none⟩)] w (PR rb ws e (some (f, q + 1)) w) := by
  have hlt := h.lt
  have h0 : Rdr (w.alloc (.cells #[.int .i64 0, .int .i64 0, .int .i64 0, .int .i64 0, .string ⟨#[]⟩, .slice none 0 0] 53)) rb ws p e := h.alloc _
  have HA0 : Hid (At w rb (w.alloc (.cells #[.int .i64 0, .int .i64 0, .int .i64 0, .int .i64 0, .string ⟨#[]⟩, .slice none 0 0] 53))) := At.start w rb
  have c42 := fun w' (h' : Rdr w' rb ws p e) => has82 rb ws p e 42 ⟨#[42]⟩ rfl w' h'
  rw [isM_eq, e42] at c42
  simp only [Bool.false_eq_true, if_false] at c42
  have c64 := fun w' (h' : Rdr w' rb ws p e) => has82 rb ws p e 64 ⟨#[64]⟩ rfl w' h'
  rw [isM_eq, e64] at c64
  simp only [Bool.false_eq_true, if_false] at c64
  have c94 := fun w' (h' : Rdr w' rb ws p e) => has82 rb ws p e 94 ⟨#[94]⟩ rfl w' h'
  rw [isM_eq, e94] at c94
  simp only [Bool.false_eq_true, if_false] at c94
  have c33 := fun w' (h' : Rdr w' rb ws p e) => has82 rb ws p e 33 ⟨#[33]⟩ rfl w' h'
  rw [isM_eq, e33] at c33
  simp only [Bool.false_eq_true, if_false] at c33
  have c40 := fun w' (h' : Rdr w' rb ws p e) => has82 rb ws p e 40 ⟨#[40]⟩ rfl w' h'
  rw [isM_eq, e40] at c40
  simp only [if_true] at c40
  clear e42 e64 e94 e33 e40
  unfold PR
  go_enter Tryz.func83, Tryz.ntmps83
  go_wp2_with fail
  refine (c42 _ h0).mono ?_
  rintro r w42 ⟨rfl, hr42, hk42⟩
  have HA42 : Hid (At w rb w42) := HA0.out.step hlt hk42
  clear hk42 HA0 c42 h0
  go_wp2_with fail
  refine (c64 _ hr42).mono ?_
  rintro r w64 ⟨rfl, hr64, hk64⟩
  have HA64 : Hid (At w rb w64) := HA42.out.step hlt hk64
  clear hk64 HA42 c64 hr42
  go_wp2_with fail
  refine (c94 _ hr64).mono ?_
  rintro r w94 ⟨rfl, hr94, hk94⟩
  have HA94 : Hid (At w rb w94) := HA64.out.step hlt hk94
  clear hk94 HA64 c94 hr64
  go_wp2_with fail
  refine (c33 _ hr94).mono ?_
  rintro r w33 ⟨rfl, hr33, hk33⟩
  have HA33 : Hid (At w rb w33) := HA94.out.step hlt hk33
  clear hk33 HA94 c33 hr94
  go_wp2_with fail
  refine (c40 _ hr33).mono ?_
  rintro r w40 ⟨rfl, hr40, hk40⟩
  have HA40 : Hid (At w rb w40) := HA33.out.step hlt hk40
  clear hk40 HA33 c40 hr33
  replace c := c w40 hr40
  unfold PR at c
  have HA1 := HA40
  have sW := HA40.out.s
  clear HA40 hr40
  go_wp2_with fail
  refine c.mono ?_
  rintro r w1 ⟨o1, k1, l1, h1, t1, x1, n1, rfl, hl1, hr1, hk1⟩
  clear c
  have s12 : w40.heap.size ≤ w1.heap.size := hk1.size
  replace HA1 : Hid (At w rb w1) := HA1.out.step hlt hk1
  have HR1 : Hid (Rdr w1 rb ws q e) := hr1
  have HL1 : Hid (Lies (Past w40.heap.size) w1 f o1 k1 l1 h1 t1 x1 n1) := hl1
  obtain ⟨X, hX⟩ : ∃ X, X = w1.alloc (.cells #[.int .i64 o1, .int .i64 k1, .int .i64 l1, .int .i64 h1, .string t1, .slice x1 n1 n1] 53) := ⟨_, rfl⟩
  have c2 := wants_yes rb ws q e 41 ⟨#[41]⟩ rfl X (by rw [hX]; exact hr1.alloc _) e41
  have HX : Hid (X = w1.alloc (.cells #[.int .i64 o1, .int .i64 k1, .int .i64 l1, .int .i64 h1, .string t1, .slice x1 n1 n1] 53)) := hX
  clear e41 hr1 hl1 hk1
  go_wp2_with fail
  rw [← HX.out]
  refine c2.mono ?_
  rintro r U ⟨rfl, hr2, hk2⟩
  clear c2
  have s3 : w.heap.size < w1.heap.size := HA1.out.s
  have hxs : w1.heap.size < X.heap.size := by rw [hX]; simp
  have x0 : ∀ i, X.cell? ⟨w1.heap.size, i, none⟩ = (#[.int .i64 o1, .int .i64 k1, .int .i64 l1, .int .i64 h1, .string t1, .slice x1 n1 n1] : Array Value)[i]? := fun i => by rw [hX]; simp
  have HA : Hid (At w rb U) := (by rw [hX]; exact HA1.out.alloc _ : At w rb X).step hlt hk2
  have hrb : rb < w1.heap.size := by omega
  have y0 : U.cell? ⟨w1.heap.size, 0, none⟩ = some (.int .i64 o1) := (hk2.cell hxs (by unfold But; omega)).trans (x0 0)
  have y1 : U.cell? ⟨w1.heap.size, 1, none⟩ = some (.int .i64 k1) := (hk2.cell hxs (by unfold But; omega)).trans (x0 1)
  have y2 : U.cell? ⟨w1.heap.size, 2, none⟩ = some (.int .i64 l1) := (hk2.cell hxs (by unfold But; omega)).trans (x0 2)
  have y3 : U.cell? ⟨w1.heap.size, 3, none⟩ = some (.int .i64 h1) := (hk2.cell hxs (by unfold But; omega)).trans (x0 3)
  have y4 : U.cell? ⟨w1.heap.size, 4, none⟩ = some (.string t1) := (hk2.cell hxs (by unfold But; omega)).trans (x0 4)
  have y5 : U.cell? ⟨w1.heap.size, 5, none⟩ = some (.slice x1 n1 n1) := (hk2.cell hxs (by unfold But; omega)).trans (x0 5)
  have s2 : w1.heap.size < U.heap.size := Nat.lt_of_lt_of_le hxs hk2.size
  have ne1 : w.heap.size ≠ w1.heap.size := by omega
  have ne2 : w1.heap.size ≠ w.heap.size := by omega
  have HR : Hid (Rdr U rb ws (q + 1) e) := hr2
  have HL : Hid (Lies (Past w40.heap.size) U f o1 k1 l1 h1 t1 x1 n1) := Lies.kept ((by rw [hX]; exact (Kept.refl _ w1).alloc _ : Kept (Past w40.heap.size) w1 X).trans (hk2.mono (fun b _ hb => by unfold Past at hb; unfold But; omega))) f HL1.out
  clear x0 hX HX hk2 hr2 HL1 HR1 HA1
  have z1 := HA.out.z
  have f1 := HA.out.f
  have s1 := HA.out.s
  go_wp2_with fail
  go_region_with (first | (go_at_call 51; refine (within_none _ _).mono ?_; rintro r w2 ⟨rfl, rfl⟩))
  all_goals (try go_wp2)
  all_goals (
    refine bodyPost_ret (v := .tuple #[.agg #[.int .i64 o1, .int .i64 k1, .int .i64 l1, .int .i64 h1, .string t1, .slice x1 n1 n1], .nilIface]) (by simp [results, Tryz.results83, go_sem, z1]) rfl ⟨o1, k1, l1, h1, t1, x1, n1, rfl, Lies.mono (P := Past w40.heap.size) (fun b _ hb => by unfold Past at *; omega) f (Lies.kept (past_six_drew sW) f HL.out), HR.out.below (below_six_drew hlt), kept_six_drew HA.out.k⟩)

set_option maxHeartbeats 4000000 in
theorem single_open_no83b (rb : Nat) (ws : List Wd.Word) (p : Nat) (e : Int) (w : World) (hg : Ps.Goods ws) (h : Rdr w rb ws p e) (e42 : Ps.isMark ws p 42 = false) (e64 : Ps.isMark ws p 64 = false) (e94 : Ps.isMark ws p 94 = false) (e33 : Ps.isMark ws p 33 = false) (e40 : Ps.isMark ws p 40 = true) (f : Ps.Ft) (q : Nat) (e41 : Ps.isMark ws q 41 = false) (c : ∀ w, Rdr w rb ws (p + 1) e → Calls Tryz.prog 52 #[.pointer (some ⟨rb, 0, none⟩)] w (PR rb ws e (some (f, q)) w)) : Calls Tryz.prog 83 #[.pointer (some ⟨rb, 0, none⟩)] w (PR rb ws e (none) w) := by
  have hlt := h.lt
  have h0 : Rdr (w.alloc (.cells #[.int .i64 0, .int .i64 0, .int .i64 0, .int .i64 0, .string ⟨#[]⟩, .slice none 0 0] 53)) rb ws p e := h.alloc _
  have HA0 : Hid (At w rb (w.alloc (.cells #[.int .i64 0, .int .i64 0, .int .i64 0, .int .i64 0, .string ⟨#[]⟩, .slice none 0 0] 53))) := At.start w rb
  have c42 := fun w' (h' : Rdr w' rb ws p e) => has82 rb ws p e 42 ⟨#[42]⟩ rfl w' h'
  rw [isM_eq, e42] at c42
  simp only [Bool.false_eq_true, if_false] at c42
  have c64 := fun w' (h' : Rdr w' rb ws p e) => has82 rb ws p e 64 ⟨#[64]⟩ rfl w' h'
  rw [isM_eq, e64] at c64
  simp only [Bool.false_eq_true, if_false] at c64
  have c94 := fun w' (h' : Rdr w' rb ws p e) => has82 rb ws p e 94 ⟨#[94]⟩ rfl w' h'
  rw [isM_eq, e94] at c94
  simp only [Bool.false_eq_true, if_false] at c94
  have c33 := fun w' (h' : Rdr w' rb ws p e) => has82 rb ws p e 33 ⟨#[33]⟩ rfl w' h'
  rw [isM_eq, e33] at c33
  simp only [Bool.false_eq_true, if_false] at c33
  have c40 := fun w' (h' : Rdr w' rb ws p e) => has82 rb ws p e 40 ⟨#[40]⟩ rfl w' h'
  rw [isM_eq, e40] at c40
  simp only [if_true] at c40
  clear e42 e64 e94 e33 e40
  unfold PR
  go_enter Tryz.func83, Tryz.ntmps83
  go_wp2_with fail
  refine (c42 _ h0).mono ?_
  rintro r w42 ⟨rfl, hr42, hk42⟩
  have HA42 : Hid (At w rb w42) := HA0.out.step hlt hk42
  clear hk42 HA0 c42 h0
  go_wp2_with fail
  refine (c64 _ hr42).mono ?_
  rintro r w64 ⟨rfl, hr64, hk64⟩
  have HA64 : Hid (At w rb w64) := HA42.out.step hlt hk64
  clear hk64 HA42 c64 hr42
  go_wp2_with fail
  refine (c94 _ hr64).mono ?_
  rintro r w94 ⟨rfl, hr94, hk94⟩
  have HA94 : Hid (At w rb w94) := HA64.out.step hlt hk94
  clear hk94 HA64 c94 hr64
  go_wp2_with fail
  refine (c33 _ hr94).mono ?_
  rintro r w33 ⟨rfl, hr33, hk33⟩
  have HA33 : Hid (At w rb w33) := HA94.out.step hlt hk33
  clear hk33 HA94 c33 hr94
  go_wp2_with fail
  refine (c40 _ hr33).mono ?_
  rintro r w40 ⟨rfl, hr40, hk40⟩
  have HA40 : Hid (At w rb w40) := HA33.out.step hlt hk40
  clear hk40 HA33 c40 hr33
  replace c := c w40 hr40
  unfold PR at c
  have HA1 := HA40
  have sW := HA40.out.s
  clear HA40 hr40
  go_wp2_with fail
  refine c.mono ?_
  rintro r w1 ⟨o1, k1, l1, h1, t1, x1, n1, rfl, hl1, hr1, hk1⟩
  clear c
  have s12 : w40.heap.size ≤ w1.heap.size := hk1.size
  replace HA1 : Hid (At w rb w1) := HA1.out.step hlt hk1
  have HR1 : Hid (Rdr w1 rb ws q e) := hr1
  have HL1 : Hid (Lies (Past w40.heap.size) w1 f o1 k1 l1 h1 t1 x1 n1) := hl1
  obtain ⟨X, hX⟩ : ∃ X, X = w1.alloc (.cells #[.int .i64 o1, .int .i64 k1, .int .i64 l1, .int .i64 h1, .string t1, .slice x1 n1 n1] 53) := ⟨_, rfl⟩
  have c2 := wants_no rb ws q e 41 ⟨#[41]⟩ rfl X (by rw [hX]; exact hr1.alloc _) e41
  have HX : Hid (X = w1.alloc (.cells #[.int .i64 o1, .int .i64 k1, .int .i64 l1, .int .i64 h1, .string t1, .slice x1 n1 n1] 53)) := hX
  clear e41 hr1 hl1 hk1
  go_wp2_with fail
  rw [← HX.out]
  refine c2.mono ?_
  rintro r U ⟨y, rfl, hk2⟩
  clear c2
  have s3 : w.heap.size < w1.heap.size := HA1.out.s
  have hxs : w1.heap.size < X.heap.size := by rw [hX]; simp
  have x0 : ∀ i, X.cell? ⟨w1.heap.size, i, none⟩ = (#[.int .i64 o1, .int .i64 k1, .int .i64 l1, .int .i64 h1, .string t1, .slice x1 n1 n1] : Array Value)[i]? := fun i => by rw [hX]; simp
  have HA : Hid (At w rb U) := (by rw [hX]; exact HA1.out.alloc _ : At w rb X).step hlt hk2
  have hrb : rb < w1.heap.size := by omega
  have y0 : U.cell? ⟨w1.heap.size, 0, none⟩ = some (.int .i64 o1) := (hk2.cell hxs (by unfold But; omega)).trans (x0 0)
  have y1 : U.cell? ⟨w1.heap.size, 1, none⟩ = some (.int .i64 k1) := (hk2.cell hxs (by unfold But; omega)).trans (x0 1)
  have y2 : U.cell? ⟨w1.heap.size, 2, none⟩ = some (.int .i64 l1) := (hk2.cell hxs (by unfold But; omega)).trans (x0 2)
  have y3 : U.cell? ⟨w1.heap.size, 3, none⟩ = some (.int .i64 h1) := (hk2.cell hxs (by unfold But; omega)).trans (x0 3)
  have y4 : U.cell? ⟨w1.heap.size, 4, none⟩ = some (.string t1) := (hk2.cell hxs (by unfold But; omega)).trans (x0 4)
  have y5 : U.cell? ⟨w1.heap.size, 5, none⟩ = some (.slice x1 n1 n1) := (hk2.cell hxs (by unfold But; omega)).trans (x0 5)
  have s2 : w1.heap.size < U.heap.size := Nat.lt_of_lt_of_le hxs hk2.size
  have ne1 : w.heap.size ≠ w1.heap.size := by omega
  have ne2 : w1.heap.size ≠ w.heap.size := by omega
  have HM : Hid (Mis 0 (.iface 69 (.agg #[.int .i64 y]))) := mis_zero y
  clear x0 hX HX hk2 HL1 HR1 HA1
  have z1 := HA.out.z
  have f1 := HA.out.f
  have s1 := HA.out.s
  go_wp2_with fail
  go_region_with (first | (go_at_call 51; refine (within_one _ _ _ _).mono ?_; rintro r w2 ⟨rfl, rfl⟩))
  all_goals (try go_wp2)
  all_goals (
    refine bodyPost_ret (v := .tuple #[.agg #[.int .i64 o1, .int .i64 k1, .int .i64 l1, .int .i64 h1, .string t1, .slice x1 n1 n1], _]) (by simp [results, Tryz.results83, go_sem, z1] <;> rfl) rfl ⟨o1, k1, l1, h1, t1, x1, n1, _, _, _, rfl, HM.out.one _, kept_six_drew HA.out.k⟩)

end Go.Proofs.YtdeojcodbojmoaaGreatDoor
