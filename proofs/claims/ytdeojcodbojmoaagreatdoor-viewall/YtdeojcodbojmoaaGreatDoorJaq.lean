/- One head in a row: the document's PutHead onto nothing. -/
/- A filter's text out of numbers. -/
import Derived.Test.YtdeojcodbojmoaaGreatDoorJan
import Derived.BigRegion
namespace Go.Proofs.YtdeojcodbojmoaaGreatDoor
open Go.RowKit
set_option maxRecDepth 100000
set_option linter.unusedVariables false

set_option maxHeartbeats 2000000 in
theorem cmp48 (L R N : Int) (w : World) (hL : 1 ≤ L) : Calls Tryz.prog 48 #[.agg #[.int .i64 L, .int .i64 R, .int .i64 N], .agg #[.int .i64 0, .int .i64 0, .int .i64 0]] w fun e w' => e = .returned (.int .i64 1) ∧ Below w.heap.size w w' := by
  obtain ⟨W, hW⟩ : ∃ W, W = (w.alloc (.cells #[.int .i64 L, .int .i64 R, .int .i64 N] 43)).alloc (.cells #[.int .i64 0, .int .i64 0, .int .i64 0] 43) := ⟨_, rfl⟩
  have f1 : ∀ i, W.cell? ⟨w.heap.size, i, none⟩ = (#[.int .i64 L, .int .i64 R, .int .i64 N] : Array Value)[i]? := fun i => by rw [hW, World.cell?_alloc_past _ _ _ (hn := by simp)]; simp
  have f2 : ∀ i, W.cell? ⟨w.heap.size + 1, i, none⟩ = (#[.int .i64 0, .int .i64 0, .int .i64 0] : Array Value)[i]? := fun i => by rw [hW, World.cell?_alloc_at _ _ _ _ (by simp)]
  have hs : w.heap.size + 1 < W.heap.size := by rw [hW]; simp
  have HW : Hid (W = (w.alloc (.cells #[.int .i64 L, .int .i64 R, .int .i64 N] 43)).alloc (.cells #[.int .i64 0, .int .i64 0, .int .i64 0] 43)) := hW
  have hb : Below w.heap.size w W := by rw [hW]; exact ((Below.refl _ _).alloc (Nat.le_refl _) _).alloc (by simp) _
  clear hW
  go_enter Tryz.func48, Tryz.ntmps48
  go_wp2_with fail
  rw [← HW.out]
  have q0 : W.cell? ⟨w.heap.size, 0, none⟩ = some (.int .i64 L) := f1 0
  have q1 : W.cell? ⟨w.heap.size, 1, none⟩ = some (.int .i64 R) := f1 1
  have q2 : W.cell? ⟨w.heap.size, 2, none⟩ = some (.int .i64 N) := f1 2
  have u0 : W.cell? ⟨w.heap.size + 1, 0, none⟩ = some (.int .i64 0) := f2 0
  have u1 : W.cell? ⟨w.heap.size + 1, 1, none⟩ = some (.int .i64 0) := f2 1
  have u2 : W.cell? ⟨w.heap.size + 1, 2, none⟩ = some (.int .i64 0) := f2 2
  have HB : Hid (Below w.heap.size w W) := hb
  clear f1 f2 HW hb
  generalize w.heap.size + 1 = N2 at *
  have hs1 : w.heap.size < W.heap.size := World.block_lt_of_cell? W ⟨w.heap.size, 0, none⟩ q0
  go_region_held3 (fun w' => w'.cell? ⟨w.heap.size, 0, none⟩ = some (.int .i64 L) ∧ w'.cell? ⟨w.heap.size, 1, none⟩ = some (.int .i64 R) ∧ w'.cell? ⟨w.heap.size, 2, none⟩ = some (.int .i64 N) ∧ w'.cell? ⟨N2, 0, none⟩ = some (.int .i64 0) ∧ w'.cell? ⟨N2, 1, none⟩ = some (.int .i64 0) ∧ w'.cell? ⟨N2, 2, none⟩ = some (.int .i64 0)) (go_keep) (fail)
  all_goals (
    clear q0 q1 q2 u0 u1 u2
    have hd1 : decide (L < 0) = false := decide_eq_false (by omega)
    have hd2 : decide (0 < L) = true := decide_eq_true (by omega)
    have HS : Hid (w.heap.size < W.heap.size) := hs1
    clear hs hs1
    go_wp2_with fail
    refine wp_loop_rounds 1 ?_
    rw [rounds_succ]
    go_wp2_with fail
    go_quiet (fail)
    go_wp2_with fail
    go_quiet (fail)
    go_wp2
    go_ret
    have hsz := HS.out
    exact ⟨rfl, bel_dN (bel_dN (((HB.out.alloc HB.out.size _).alloc (by simp; omega) _).drew) _) _⟩)

theorem callee_w {w w' : World} (h : Below w.heap.size w w') :
    (∀ b o, b < w.heap.size → w'.cell? ⟨b, o, none⟩ = w.cell? ⟨b, o, none⟩) ∧ (∀ b o, b < w.heap.size → w'.frozen? ⟨b, o, none⟩ = w.frozen? ⟨b, o, none⟩) ∧ w.heap.size ≤ w'.heap.size :=
  ⟨fun b o hb => h.cell (p := ⟨b, o, none⟩) hb, fun b o hb => h.frozen (p := ⟨b, o, none⟩) hb, h.size⟩

set_option maxHeartbeats 2000000 in
theorem put36 (it L R N : Int) (w : World) (hL : 1 ≤ L) : Calls Tryz.prog 36 #[.slice none 0 0, .agg #[.int .i64 it, .int .i64 L, .int .i64 R, .int .i64 N]] w fun e w' => ∃ g cap, e = .returned (.slice (some ⟨g, 0, none⟩) 1 cap) ∧ w'.ownsRow w.heap.size 45 4 (.slice (some ⟨g, 0, none⟩) 1 cap) 1 (hcells [⟨it, L, R, N⟩]) ∧ Below w.heap.size w w' := by
  obtain ⟨W, hW⟩ : ∃ W, W = w.alloc (.cells #[.int .i64 it, .int .i64 L, .int .i64 R, .int .i64 N] 45) := ⟨_, rfl⟩
  have f1 : ∀ i, W.cell? ⟨w.heap.size, i, none⟩ = (#[.int .i64 it, .int .i64 L, .int .i64 R, .int .i64 N] : Array Value)[i]? := fun i => by rw [hW]; simp
  have HW : Hid (W = w.alloc (.cells #[.int .i64 it, .int .i64 L, .int .i64 R, .int .i64 N] 45)) := hW
  have hb : Below w.heap.size w W := by rw [hW]; exact (Below.refl _ _).alloc (Nat.le_refl _) _
  clear hW
  go_enter Tryz.func36, Tryz.ntmps36
  go_wp2_with fail
  rw [← HW.out]
  have q0 : W.cell? ⟨w.heap.size, 0, none⟩ = some (.int .i64 it) := f1 0
  have q1 : W.cell? ⟨w.heap.size, 1, none⟩ = some (.int .i64 L) := f1 1
  have q2 : W.cell? ⟨w.heap.size, 2, none⟩ = some (.int .i64 R) := f1 2
  have q3 : W.cell? ⟨w.heap.size, 3, none⟩ = some (.int .i64 N) := f1 3
  have HB : Hid (Below w.heap.size w W) := hb
  clear f1 HW hb
  have hs1 : w.heap.size < W.heap.size := World.block_lt_of_cell? W ⟨w.heap.size, 0, none⟩ q0
  go_region_held3 (fun w' => w'.cell? ⟨w.heap.size, 0, none⟩ = some (.int .i64 it) ∧ w'.cell? ⟨w.heap.size, 1, none⟩ = some (.int .i64 L) ∧ w'.cell? ⟨w.heap.size, 2, none⟩ = some (.int .i64 R) ∧ w'.cell? ⟨w.heap.size, 3, none⟩ = some (.int .i64 N)) (go_keep)
    (first
      | (go_at_call 49; refine (at49 _ W.drew).mono ?_; rintro e w5 ⟨rfl, hb5⟩; obtain ⟨hcl, hfl, z1⟩ := callee_old hb5; have hs5 : w.heap.size < w5.heap.size := Nat.lt_of_lt_of_le hs1 z1)
      | (go_at_call 48; refine (cmp48 _ _ _ w5 hL).mono ?_; rintro e w6 ⟨rfl, hb6⟩; obtain ⟨hcl6, hfl6, z6⟩ := callee_w hb6))
  have hB6 : Below w.heap.size w w6 := HB.out.trans (((Below.trans (b := W.drew) (Below.refl _ W).drew hb5).mono HB.out.size).trans (hb6.mono (by omega)))
  have d0 : w6.cell? ⟨w.heap.size, 0, none⟩ = some (.int .i64 it) := (hcl6 _ _ hs5).trans ((hcl _ _ hs1).trans q0)
  have d1 : w6.cell? ⟨w.heap.size, 1, none⟩ = some (.int .i64 L) := (hcl6 _ _ hs5).trans ((hcl _ _ hs1).trans q1)
  have d2 : w6.cell? ⟨w.heap.size, 2, none⟩ = some (.int .i64 R) := (hcl6 _ _ hs5).trans ((hcl _ _ hs1).trans q2)
  have d3 : w6.cell? ⟨w.heap.size, 3, none⟩ = some (.int .i64 N) := (hcl6 _ _ hs5).trans ((hcl _ _ hs1).trans q3)
  have HB6 : Hid (Below w.heap.size w w6) := hB6
  have hs6 : w.heap.size ≤ w6.heap.size := hB6.size
  clear hcl hfl hcl6 hfl6 hb5 hb6 hs5 hs1 z1 z6 q0 q1 q2 q3 HB hB6
  obtain ⟨i4, k1, k2, k3, k4⟩ := info_parts Tryz.info45
  go_wp2_with fail
  refine wp_loop_rounds 1 ?_
  rw [rounds_succ]
  go_wp2_with (at_builtin; refine wpList_append_lies _ rfl _ _ 22 rfl w.heap.size 45 i4 _ 4 32 Tryz.underlying22 k1 k2 k3 k4 rfl (by decide) (.slice none 0 0) 0 [] rfl (World.ownsRow_nil _ _ _ _) ⟨w6.heap.size, 0, none⟩ 1 1 (hcells [⟨it, L, R, N⟩]) rfl rfl ?c1 ?c2 (by decide) ?c3 ?c4 ?c5 _ rfl ?_)
  case c1 =>
    intro j u hj
    match j, hj with
    | 0, hj => simp [hcells, Hd.vals] at hj; subst hj; simp [Addr.add]
    | 1, hj => simp [hcells, Hd.vals] at hj; subst hj; simp [Addr.add]
    | 2, hj => simp [hcells, Hd.vals] at hj; subst hj; simp [Addr.add]
    | 3, hj => simp [hcells, Hd.vals] at hj; subst hj; simp [Addr.add]
  case c2 => exact hcells_one _
  case c3 => unfold maxLen; omega
  case c4 => omega
  case c5 => simp; omega
  intro g cap w7 hown hgrow hat hlt7
  have hB7 : Below w.heap.size w w7 := (HB6.out.alloc HB6.out.size _).grown hgrow (by simp; omega) (fun k hk => by cases hk)
  have hown2 : w7.ownsRow w.heap.size 45 4 (.slice (some ⟨g, 0, none⟩) 1 cap) 1 (hcells [⟨it, L, R, N⟩]) := hown
  clear hown hgrow hat d0 d1 d2 d3
  go_wp2
  go_ret
  exact ⟨g, cap, rfl, hown2, hB7⟩

/-- The four numbers that make a head. -/
theorem pick4 {w : World} {b : Nat} {z0 z1 z2 z3 : Nat} (hb : b < w.heap.size) (h0 : w.cell? ⟨b, 0, none⟩ = some (.int .u8 z0)) (h1 : w.cell? ⟨b, 1, none⟩ = some (.int .u8 z1)) (h2 : w.cell? ⟨b, 2, none⟩ = some (.int .u8 z2)) (h3 : w.cell? ⟨b, 3, none⟩ = some (.int .u8 z3))
    (l0 : z0 ≤ 255) (l1 : z1 ≤ 255) (l2 : z2 ≤ 255) (l3 : z3 ≤ 255) (cap : Nat) : PickAt (w.alloc (.cells #[.slice (some ⟨b, 0, none⟩) 4 cap, .int .i64 0] 47)) w.heap.size 0 4 := by
  refine ⟨by simp, some ⟨b, 0, none⟩, cap, b, 0, fun j => match j with | 0 => z0 | 1 => z1 | 2 => z2 | _ => z3, by simp, by simp, by omega, by omega, fun _ => ⟨rfl, hb⟩, fun j hj => ?_⟩
  rw [World.cell?_alloc_past _ _ _ (hn := hb), Nat.zero_add]
  match j, hj with
  | 0, _ => exact ⟨h0, l0⟩
  | 1, _ => exact ⟨h1, l1⟩
  | 2, _ => exact ⟨h2, l2⟩
  | 3, _ => exact ⟨h3, l3⟩

set_option maxHeartbeats 2000000 in
theorem heads24 (w : World) (b z0 z1 z2 z3 cap : Nat) (hb : b < w.heap.size) (h0 : w.cell? ⟨b, 0, none⟩ = some (.int .u8 z0)) (h1 : w.cell? ⟨b, 1, none⟩ = some (.int .u8 z1)) (h2 : w.cell? ⟨b, 2, none⟩ = some (.int .u8 z2)) (h3 : w.cell? ⟨b, 3, none⟩ = some (.int .u8 z3)) (l0 : z0 ≤ 255) (l1 : z1 ≤ 255) (l2 : z2 ≤ 255) (l3 : z3 ≤ 255) :
    Calls Tryz.prog 24 #[.slice (some ⟨b, 0, none⟩) 4 cap] w fun e w' => ∃ g c it L R N, 1 ≤ it ∧ it ≤ 6 ∧ 1 ≤ L ∧ L ≤ 9 ∧ 1 ≤ R ∧ R ≤ 3 ∧ 1 ≤ N ∧ N ≤ L ∧ e = .returned (.slice (some ⟨g, 0, none⟩) 1 c) ∧ w'.ownsRow w.heap.size 45 4 (.slice (some ⟨g, 0, none⟩) 1 c) 1 (hcells [⟨it, L, R, N⟩]) ∧ Below w.heap.size w w' := by
  have hpk := pick4 hb h0 h1 h2 h3 l0 l1 l2 l3 cap
  clear h0 h1 h2 h3 l0 l1 l2 l3
  go_enter Tryz.func24, Tryz.ntmps24
  go_wp2_with fail
  refine (made10 _ _ _ _).mono ?_
  rintro e W1 ⟨rfl, hW1⟩
  rw [← hW1] at hpk
  have hbW : Below w.heap.size w W1 := by rw [hW1]; exact (Below.refl _ _).alloc (Nat.le_refl _) _
  clear hW1
  go_wp2_with fail
  refine wp_loop_rounds 2 ?_
  rw [rounds_succ]
  go_wp2_with fail
  refine (over_at _ 0 4 _ hpk).mono ?_
  rintro e w2 ⟨rfl, q, rfl⟩
  have hp2 : PickAt (W1.drewN q) w.heap.size 0 4 := hpk.below (bel_dN (Below.refl _ _) q)
  have hb2 : Below w.heap.size w (W1.drewN q) := bel_dN hbW q
  generalize W1.drewN q = w2 at *
  clear hpk hbW W1
  go_wp2_with fail
  refine (num_at _ 0 4 6 _ (by omega) (by omega) hp2 (by omega)).mono ?_
  rintro e w3 ⟨k1, hk1, rfl, hw3⟩
  go_wp2_with fail
  refine (stamp_at _ 1 4 _ hw3.1 (by omega)).mono ?_
  rintro e w4 ⟨L, R, N, hL1, hL2, hR1, hR2, hN1, hN2, rfl, hw4⟩
  have hb4 : Below w.heap.size w w4 := hb2.trans ((hw3.trans hw4).2.below hb2.size (fun k hk => by unfold But; omega))
  have hp4 := hw4.1
  clear hw3 hw4 hp2 hb2
  go_wp2_with fail
  refine (put36 _ L R N _ hL1).mono ?_
  rintro e w5 ⟨g, c, rfl, hown, hb5⟩
  have hp5 : PickAt w5 w.heap.size 4 4 := hp4.below (hb5.mono hp4.lt)
  have hB5 : Below w.heap.size w w5 := hb4.trans (hb5.mono hb4.size)
  have ho5 := own_base hown hb4.size
  clear hown hb5 hb4 hp4
  go_wp2_with fail
  rw [rounds_succ]
  go_wp2_with fail
  refine (over_at _ 4 4 _ hp5).mono ?_
  rintro e w6 ⟨rfl, q, rfl⟩
  clear hp5
  go_wp2
  go_ret
  exact ⟨g, c, _, L, R, N, by omega, by omega, hL1, hL2, hR1, hR2, hN1, hN2, rfl, ho5, bel_dN hB5 q⟩

end Go.Proofs.YtdeojcodbojmoaaGreatDoor
namespace Go.Proofs.YtdeojcodbojmoaaGreatDoor
open Go.RowKit
set_option maxRecDepth 100000
set_option linter.unusedVariables false

/-- The ten texts. -/
def wants : List ByteArray := [⟨#[42]⟩, ⟨#[94, 97]⟩, ⟨#[94, 98]⟩, ⟨#[64, 49, 61, 53]⟩, ⟨#[33, 94, 97]⟩, ⟨#[64, 48, 58, 48, 45, 57]⟩, ⟨#[33, 42]⟩, ⟨#[64, 49, 61, 53, 38, 94, 97]⟩, ⟨#[64, 49, 61, 53, 124, 94, 98]⟩, ⟨#[33, 64, 49, 61, 53]⟩]

set_option maxHeartbeats 1000000 in
theorem want23 (pb : Nat) (w : World) (hp : Pick w pb) :
    Calls Tryz.prog 23 #[.pointer (some ⟨pb, 0, none⟩)] w fun e w' => ∃ t : ByteArray, t ∈ wants ∧ e = .returned (.string t) ∧ Went pb w w' := by
  have hlt := hp.lt
  go_enter Tryz.func23, Tryz.ntmps23
  go_wp2_with fail
  have hW : Went pb w (w.alloc (.cells (wants.map Value.string).toArray 9)) := (Went.refl hp).alloc _
  have ht : ∀ k, k < 10 → (w.alloc (.cells (wants.map Value.string).toArray 9)).cell? ⟨w.heap.size, k, none⟩ = some (.string (wants.getD k ByteArray.empty)) := fun k hk => table_s wants w 9 k hk
  refine (num_any pb 10 _ (by omega) (by omega) hW.1).mono ?_
  rintro e w1 ⟨k, hk, rfl, hw1⟩
  have q : w1.cell? ⟨w.heap.size, k, none⟩ = some (.string (wants.getD k ByteArray.empty)) := (hw1.cell (by simp) hlt).trans (ht k (by omega))
  have hk6 : k < 10 := by omega
  have hm : wants.getD k ByteArray.empty ∈ wants := by
    rw [List.getD_eq_getElem?_getD, List.getElem?_eq_getElem (show k < wants.length from hk6)]
    exact List.getElem_mem _
  generalize wants.getD k ByteArray.empty = t at *
  have R := hW.trans hw1
  clear ht hW hw1
  go_wp2
  go_ret
  exact ⟨t, hm, rfl, R⟩

theorem want_size {t : ByteArray} (h : t ∈ wants) : t.size ≤ 1000 := by
  have : ∀ t ∈ wants, t.size ≤ 1000 := by simp [wants]; decide
  exact this t h

end Go.Proofs.YtdeojcodbojmoaaGreatDoor
