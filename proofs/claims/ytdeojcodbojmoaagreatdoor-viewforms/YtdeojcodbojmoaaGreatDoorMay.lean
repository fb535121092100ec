/- view.May of a view whose filter is one star, with nothing seen. -/
import Derived.Test.YtdeojcodbojmoaaGreatDoorStr
import Derived.Test.YtdeojcodbojmoaaGreatDoorCpy
import Derived.LaidEql
import Derived.BigQuiet
import Derived.Deep.QuietTactic
namespace Go.Proofs.YtdeojcodbojmoaaGreatDoor
open Go.RowKit
set_option maxRecDepth 100000
set_option linter.unusedVariables false

set_option maxHeartbeats 400000 in
theorem as39 (v : Value) (w : World) : Calls Tryz.prog 39 #[.nilIface, v] w fun r w' => r = .returned (.bool false) ∧ w' = w := by
  go_enter Tryz.func39, Tryz.ntmps39
  go_wp2
  go_ret
  exact ⟨rfl, rfl⟩

set_option maxHeartbeats 400000 in
theorem many86 (w : World) : Calls Tryz.prog 86 #[.int .i64 1] w fun r w' => r = .returned (.int .i64 0) ∧ w' = w := by
  go_enter Tryz.func86, Tryz.ntmps86
  go_wp2
  go_ret
  exact ⟨rfl, rfl⟩

set_option maxHeartbeats 1000000 in
theorem own84 (w : World) : Calls Tryz.prog 84 #[.agg #[.int .i64 1, .int .i64 0, .int .i64 0, .int .i64 0, .string ⟨#[]⟩, .slice none 0 0]] w fun r w' => r = .returned .nilIface ∧ Below w.heap.size w w' := by
  go_enter Tryz.func84, Tryz.ntmps84
  go_wp2
  go_ret
  exact ⟨rfl, (Below.refl _ _).alloc (Nat.le_refl _) _⟩

set_option maxHeartbeats 1000000 in
theorem check70 (w : World) : Calls Tryz.prog 70 #[.agg #[.int .i64 1, .int .i64 0, .int .i64 0, .int .i64 0, .string ⟨#[]⟩, .slice none 0 0], .int .i64 6] w fun r w' => r = .returned .nilIface ∧ Below w.heap.size w w' := by
  go_enter Tryz.func70, Tryz.ntmps70
  go_wp2_with fail
  refine (own84 _).mono ?_
  rintro r w1 ⟨rfl, hb1⟩
  have hs1 : w.heap.size < w1.heap.size := by have := hb1.size; simp at this; omega
  have d1 : ∀ o, w1.cell? ⟨w.heap.size, o, none⟩ = (#[.int .i64 1, .int .i64 0, .int .i64 0, .int .i64 0, .string ⟨#[]⟩, .slice none 0 0] : Array Value)[o]? := fun o => by rw [hb1.cell (p := ⟨w.heap.size, o, none⟩) (by simp)]; simp
  have HB : Hid (Below w.heap.size w w1) := ((Below.refl _ w).alloc (Nat.le_refl _) _).trans (hb1.mono (by simp))
  clear hb1
  have d0 : w1.cell? ⟨w.heap.size, 0, none⟩ = some (.int .i64 1) := d1 0
  have d5 : w1.cell? ⟨w.heap.size, 5, none⟩ = some (.slice none 0 0) := d1 5
  clear d1
  go_wp2_with fail
  go_quiet (first | (go_at_call 86; refine Calls.quiet_of_same (many86 _)))
  go_wp2_with fail
  refine wp_loop_rounds 1 ?_
  rw [rounds_succ]
  go_wp2
  go_ret
  exact ⟨rfl, bel_dN HB.out _⟩

set_option maxHeartbeats 1000000 in
theorem may54 (w : World) : Calls Tryz.prog 54 #[.agg #[.int .i64 1, .int .i64 0, .int .i64 0, .int .i64 0, .string ⟨#[]⟩, .slice none 0 0]] w fun r w' => r = .returned (.bool true) ∧ Below w.heap.size w w' := by
  go_enter Tryz.func54, Tryz.ntmps54
  go_wp2_with fail
  refine (check70 _).mono ?_
  rintro r w1 ⟨rfl, hb1⟩
  go_wp2_with fail
  refine (as39 _ _).mono ?_
  rintro r w2 ⟨rfl, rfl⟩
  go_wp2
  go_ret
  exact ⟨rfl, (((Below.refl _ w).alloc (Nat.le_refl _) _).alloc (by simp) _).trans (hb1.mono (by simp <;> omega))⟩

set_option maxHeartbeats 400000 in
theorem seen41 (w : World) : Calls Tryz.prog 41 #[.slice none 0 0] w fun r w' => r = .returned .nilIface ∧ w' = w := by
  go_enter Tryz.func41, Tryz.ntmps41
  go_wp2_with fail
  refine wp_loop_rounds 1 ?_
  rw [rounds_succ]
  go_wp2
  go_ret
  exact ⟨rfl, rfl⟩

set_option maxHeartbeats 400000 in
theorem is40 (a : Addr) (w : World) : Calls Tryz.prog 40 #[.nilIface, .iface 185 (.pointer (some a))] w fun r w' => r = .returned (.bool false) ∧ w' = w := by
  go_enter Tryz.func40, Tryz.ntmps40
  go_wp2
  rw [run_eql_iface_nil_left w 185 _ Tryz.underlying65]
  go_wp2
  go_ret
  exact ⟨rfl, rfl⟩

set_option maxHeartbeats 1000000 in
theorem seen27 (a : Addr) (w : World) (hg : w.cell? ⟨0, 0, none⟩ = some (.iface 185 (.pointer (some a)))) : Calls Tryz.prog 27 #[.slice none 0 0] w fun r w' => r = .returned (.bool true) ∧ Below w.heap.size w w' := by
  go_enter Tryz.func27, Tryz.ntmps27
  go_wp2_with fail
  go_quiet (first | (go_at_call 41; refine Calls.quiet_of_same (seen41 _)) | (go_at_call 40; refine Calls.quiet_of_same (is40 _ _)))
  go_wp2
  go_ret
  exact ⟨rfl, bel_dN (Below.refl _ _) _⟩

/-- The words of a star. -/
def starW : List Wd.Word := [⟨3, [42], 0, 0⟩]
theorem star_all : Wd.all (⟨#[42]⟩ : ByteArray).data.toList = (starW, 0, true) := rfl

set_option maxHeartbeats 2000000 in
theorem parse38 (w : World) : Calls Tryz.prog 38 #[.string ⟨#[42]⟩] w fun r w' => r = .returned (.tuple #[.agg #[.int .i64 1, .int .i64 0, .int .i64 0, .int .i64 0, .string ⟨#[]⟩, .slice none 0 0], .nilIface]) ∧ Below w.heap.size w w' := by
  have c1 := all_any ⟨#[42]⟩ (w.alloc (.cells #[.int .i64 0, .int .i64 0, .int .i64 0, .int .i64 0, .string ⟨#[]⟩, .slice none 0 0] 53)) (by decide)
  rw [star_all] at c1
  go_enter Tryz.func38, Tryz.ntmps38
  go_wp2_with fail
  refine c1.mono ?_
  rintro r w1 ⟨v, rfl, hown, hb1⟩
  clear c1
  have hs1 : w.heap.size < w1.heap.size := by have := hb1.size; simp at this; omega
  obtain ⟨g, cap, rfl, hg1, hg2⟩ := hown.form (by decide)
  have hgw : w.heap.size < g := by simp at hg1; omega
  have z1 : ∀ o, w1.cell? ⟨w.heap.size, o, none⟩ = (#[.int .i64 0, .int .i64 0, .int .i64 0, .int .i64 0, .string ⟨#[]⟩, .slice none 0 0] : Array Value)[o]? := fun o => by rw [hb1.cell (p := ⟨w.heap.size, o, none⟩) (by simp)]; simp
  have f1 : ∀ o, w1.frozen? ⟨w.heap.size, o, none⟩ = false := fun o => by rw [hb1.frozen (p := ⟨w.heap.size, o, none⟩) (by simp)]; simp
  have HB1 : Hid (Below w.heap.size w w1) := ((Below.refl _ w).alloc (Nat.le_refl _) _).trans (hb1.mono (by simp))
  have hr : Rdr (w1.alloc (.cells #[.slice (some ⟨g, 0, none⟩) 1 cap, .int .i64 1] 92)) w1.heap.size starW 0 1 := by
    have hrd := Rds.of_own hown (by decide) (.inl (by decide))
    rcases hrd with hrd | ⟨_, hlc, _, _, b, off, e, _, hb, hc⟩
    · exact absurd hrd.1 (by decide)
    · cases e
      obtain ⟨_, hcap⟩ := hown
      have hcm : cap ≤ maxLen := by
        rcases hcap with ⟨h, _⟩ | ⟨g', c', cur, h, _, _, _, h2, _⟩
        · cases h
        · cases h; exact h2
      refine ⟨by simp, by decide, by decide, some ⟨g, 0, none⟩, cap, g, by simp [starW], by simpa [starW] using hlc, hcm, by simp, fun _ => ⟨rfl, hb, fun j u hu => ?_⟩⟩
      rw [World.cell?_alloc_past _ _ _ (hn := hb)]
      have := hc j u hu
      rwa [Nat.zero_add] at this
  clear hb1 hown hg1
  have c2 := filter_one w1.heap.size starW 0 1 _ hr rfl (fun w' h' => allOf_one w1.heap.size starW 0 1 w' h' rfl (fun w'' h'' => single_star w1.heap.size starW 0 1 w'' h'' rfl))
  clear hr
  simp only [starW, List.length_cons, List.length_nil]
  go_wp2_with fail
  refine c2.mono ?_
  rintro r w2 ⟨rfl, hr2, hk2⟩
  clear c2
  have hs2 : w1.heap.size < w2.heap.size := by have := hk2.size; simp at this; omega
  obtain ⟨hrf, _, _, ao, cap2, wb, r0, _, _, r1, _⟩ := hr2
  have r0' : w2.cell? ⟨w1.heap.size, 0, none⟩ = some (.slice ao 0 cap2) := r0
  have z2 : ∀ o, w2.cell? ⟨w.heap.size, o, none⟩ = (#[.int .i64 0, .int .i64 0, .int .i64 0, .int .i64 0, .string ⟨#[]⟩, .slice none 0 0] : Array Value)[o]? := fun o => by rw [hk2.cell (by simp; omega) (by unfold But; omega), World.cell?_alloc_past _ _ _ (hn := hs1)]; exact z1 o
  have f2 : ∀ o, w2.frozen? ⟨w.heap.size, o, none⟩ = false := fun o => by rw [hk2.frozen (by simp; omega) (by unfold But; omega), World.frozen?_alloc_past _ _ _ (hn := hs1)]; exact f1 o
  have HB2 : Hid (Below w.heap.size w w2) := HB1.out.trans ((((Kept.refl (But w1.heap.size) w1).alloc _).trans hk2).below HB1.out.size (fun k hk => by unfold But; omega))
  clear hk2 z1 f1 hrf r0 HB1
  have c3 := may54 (w2.alloc (.cells #[.int .i64 1, .int .i64 0, .int .i64 0, .int .i64 0, .string ⟨#[]⟩, .slice none 0 0] 53))
  go_wp2_with fail
  refine c3.mono ?_
  rintro r w3 ⟨rfl, hb3⟩
  clear c3
  have hs3 : w2.heap.size < w3.heap.size := by have := hb3.size; simp at this; omega
  have z3 : ∀ o, w3.cell? ⟨w.heap.size, o, none⟩ = (#[.int .i64 0, .int .i64 0, .int .i64 0, .int .i64 0, .string ⟨#[]⟩, .slice none 0 0] : Array Value)[o]? := fun o => by rw [hb3.cell (p := ⟨w.heap.size, o, none⟩) (by simp; omega), World.cell?_alloc_past _ _ _ (hn := by omega)]; exact z2 o
  have f3 : ∀ o, w3.frozen? ⟨w.heap.size, o, none⟩ = false := fun o => by rw [hb3.frozen (p := ⟨w.heap.size, o, none⟩) (by simp; omega), World.frozen?_alloc_past _ _ _ (hn := by omega)]; exact f2 o
  have y3 : ∀ o, w3.cell? ⟨w2.heap.size, o, none⟩ = (#[.int .i64 1, .int .i64 0, .int .i64 0, .int .i64 0, .string ⟨#[]⟩, .slice none 0 0] : Array Value)[o]? := fun o => by rw [hb3.cell (p := ⟨w2.heap.size, o, none⟩) (by simp)]; simp
  have HB3 : Hid (Below w.heap.size w w3) := HB2.out.trans ((((Below.refl _ w2).alloc (Nat.le_refl _) _).trans (hb3.mono (by simp))).mono HB2.out.size)
  have hne : w.heap.size ≠ w2.heap.size := by omega
  have hne' : w2.heap.size ≠ w.heap.size := by omega
  clear hb3 z2 f2 r0' r1 HB2
  go_wp2
  refine bodyPost_ret (v := .tuple #[.agg #[.int .i64 1, .int .i64 0, .int .i64 0, .int .i64 0, .string ⟨#[]⟩, .slice none 0 0], .nilIface]) (by simp [results, Tryz.results38, go_sem, z3]) rfl ⟨rfl, ?_⟩
  exact (((((HB3.out.setCell (Nat.le_refl _) _).setCell (Nat.le_refl _) _).setCell (Nat.le_refl _) _).setCell (Nat.le_refl _) _).setCell (Nat.le_refl _) _).setCell (Nat.le_refl _) _

/-- Six stores into one block. -/
theorem six_set (W : World) (b : Nat) (u0 u1 u2 u3 u4 u5 v0 v1 v2 v3 v4 v5 : Value) (h0 : W.cell? ⟨b, 0, none⟩ = some v0) (h1 : W.cell? ⟨b, 1, none⟩ = some v1) (h2 : W.cell? ⟨b, 2, none⟩ = some v2) (h3 : W.cell? ⟨b, 3, none⟩ = some v3) (h4 : W.cell? ⟨b, 4, none⟩ = some v4) (h5 : W.cell? ⟨b, 5, none⟩ = some v5) :
    ((((((W.setCell ⟨b, 0, none⟩ u0).setCell ⟨b, 1, none⟩ u1).setCell ⟨b, 2, none⟩ u2).setCell ⟨b, 3, none⟩ u3).setCell ⟨b, 4, none⟩ u4).setCell ⟨b, 5, none⟩ u5).cell? ⟨b, 0, none⟩ = some u0 ∧ ((((((W.setCell ⟨b, 0, none⟩ u0).setCell ⟨b, 1, none⟩ u1).setCell ⟨b, 2, none⟩ u2).setCell ⟨b, 3, none⟩ u3).setCell ⟨b, 4, none⟩ u4).setCell ⟨b, 5, none⟩ u5).cell? ⟨b, 1, none⟩ = some u1 ∧ ((((((W.setCell ⟨b, 0, none⟩ u0).setCell ⟨b, 1, none⟩ u1).setCell ⟨b, 2, none⟩ u2).setCell ⟨b, 3, none⟩ u3).setCell ⟨b, 4, none⟩ u4).setCell ⟨b, 5, none⟩ u5).cell? ⟨b, 2, none⟩ = some u2 ∧ ((((((W.setCell ⟨b, 0, none⟩ u0).setCell ⟨b, 1, none⟩ u1).setCell ⟨b, 2, none⟩ u2).setCell ⟨b, 3, none⟩ u3).setCell ⟨b, 4, none⟩ u4).setCell ⟨b, 5, none⟩ u5).cell? ⟨b, 3, none⟩ = some u3 ∧ ((((((W.setCell ⟨b, 0, none⟩ u0).setCell ⟨b, 1, none⟩ u1).setCell ⟨b, 2, none⟩ u2).setCell ⟨b, 3, none⟩ u3).setCell ⟨b, 4, none⟩ u4).setCell ⟨b, 5, none⟩ u5).cell? ⟨b, 4, none⟩ = some u4 ∧ ((((((W.setCell ⟨b, 0, none⟩ u0).setCell ⟨b, 1, none⟩ u1).setCell ⟨b, 2, none⟩ u2).setCell ⟨b, 3, none⟩ u3).setCell ⟨b, 4, none⟩ u4).setCell ⟨b, 5, none⟩ u5).cell? ⟨b, 5, none⟩ = some u5 := by
  refine ⟨?_, ?_, ?_, ?_, ?_, ?_⟩
  · rw [World.cell?_setCell_other _ _ _ _ (by simp), World.cell?_setCell_other _ _ _ _ (by simp), World.cell?_setCell_other _ _ _ _ (by simp), World.cell?_setCell_other _ _ _ _ (by simp), World.cell?_setCell_other _ _ _ _ (by simp)]; exact World.cell?_setCell_same W ⟨b, 0, none⟩ _ (u := v0) (by exact h0)
  · rw [World.cell?_setCell_other _ _ _ _ (by simp), World.cell?_setCell_other _ _ _ _ (by simp), World.cell?_setCell_other _ _ _ _ (by simp), World.cell?_setCell_other _ _ _ _ (by simp)]; exact World.cell?_setCell_same (W.setCell ⟨b, 0, none⟩ u0) ⟨b, 1, none⟩ _ (u := v1) (by rw [World.cell?_setCell_other _ _ _ _ (by simp)]; exact h1)
  · rw [World.cell?_setCell_other _ _ _ _ (by simp), World.cell?_setCell_other _ _ _ _ (by simp), World.cell?_setCell_other _ _ _ _ (by simp)]; exact World.cell?_setCell_same ((W.setCell ⟨b, 0, none⟩ u0).setCell ⟨b, 1, none⟩ u1) ⟨b, 2, none⟩ _ (u := v2) (by rw [World.cell?_setCell_other _ _ _ _ (by simp), World.cell?_setCell_other _ _ _ _ (by simp)]; exact h2)
  · rw [World.cell?_setCell_other _ _ _ _ (by simp), World.cell?_setCell_other _ _ _ _ (by simp)]; exact World.cell?_setCell_same (((W.setCell ⟨b, 0, none⟩ u0).setCell ⟨b, 1, none⟩ u1).setCell ⟨b, 2, none⟩ u2) ⟨b, 3, none⟩ _ (u := v3) (by rw [World.cell?_setCell_other _ _ _ _ (by simp), World.cell?_setCell_other _ _ _ _ (by simp), World.cell?_setCell_other _ _ _ _ (by simp)]; exact h3)
  · rw [World.cell?_setCell_other _ _ _ _ (by simp)]; exact World.cell?_setCell_same ((((W.setCell ⟨b, 0, none⟩ u0).setCell ⟨b, 1, none⟩ u1).setCell ⟨b, 2, none⟩ u2).setCell ⟨b, 3, none⟩ u3) ⟨b, 4, none⟩ _ (u := v4) (by rw [World.cell?_setCell_other _ _ _ _ (by simp), World.cell?_setCell_other _ _ _ _ (by simp), World.cell?_setCell_other _ _ _ _ (by simp), World.cell?_setCell_other _ _ _ _ (by simp)]; exact h4)
  · exact World.cell?_setCell_same (((((W.setCell ⟨b, 0, none⟩ u0).setCell ⟨b, 1, none⟩ u1).setCell ⟨b, 2, none⟩ u2).setCell ⟨b, 3, none⟩ u3).setCell ⟨b, 4, none⟩ u4) ⟨b, 5, none⟩ _ (u := v5) (by rw [World.cell?_setCell_other _ _ _ _ (by simp), World.cell?_setCell_other _ _ _ _ (by simp), World.cell?_setCell_other _ _ _ _ (by simp), World.cell?_setCell_other _ _ _ _ (by simp), World.cell?_setCell_other _ _ _ _ (by simp)]; exact h5)

set_option maxHeartbeats 2000000 in
theorem parse25 (w : World) : Calls Tryz.prog 25 #[.string ⟨#[42]⟩] w fun r w' => r = .returned (.tuple #[.agg #[.int .i64 1, .int .i64 0, .int .i64 0, .int .i64 0, .string ⟨#[]⟩, .slice none 0 0], .int .i64 0, .bool true]) ∧ Below w.heap.size w w' := by
  go_enter Tryz.func25, Tryz.ntmps25
  go_wp2_with fail
  refine (parse38 _).mono ?_
  rintro r w1 ⟨rfl, hb1⟩
  have hs1 : w.heap.size < w1.heap.size := by have := hb1.size; simp at this; omega
  have z1 : ∀ o, w1.cell? ⟨w.heap.size, o, none⟩ = (#[.int .i64 0, .int .i64 0, .int .i64 0, .int .i64 0, .string ⟨#[]⟩, .slice none 0 0] : Array Value)[o]? := fun o => by rw [hb1.cell (p := ⟨w.heap.size, o, none⟩) (by simp)]; simp
  have f1 : ∀ o, w1.frozen? ⟨w.heap.size, o, none⟩ = false := fun o => by rw [hb1.frozen (p := ⟨w.heap.size, o, none⟩) (by simp)]; simp
  have HB1 : Hid (Below w.heap.size w w1) := ((Below.refl _ w).alloc (Nat.le_refl _) _).trans (hb1.mono (by simp))
  clear hb1
  go_wp2_with fail
  refine (as39 _ _).mono ?_
  rintro r w2 ⟨rfl, hw2⟩
  have hs2 : w1.heap.size < w2.heap.size := by rw [hw2]; simp
  have hy := six_set w1 w.heap.size (.int .i64 1) (.int .i64 0) (.int .i64 0) (.int .i64 0) (.string ⟨#[]⟩) (.slice none 0 0) _ _ _ _ _ _ (z1 0) (z1 1) (z1 2) (z1 3) (z1 4) (z1 5)
  have hyl : ∀ o, w2.cell? ⟨w.heap.size, o, none⟩ = ((((((w1.setCell ⟨w.heap.size, 0, none⟩ (.int .i64 1)).setCell ⟨w.heap.size, 1, none⟩ (.int .i64 0)).setCell ⟨w.heap.size, 2, none⟩ (.int .i64 0)).setCell ⟨w.heap.size, 3, none⟩ (.int .i64 0)).setCell ⟨w.heap.size, 4, none⟩ (.string ⟨#[]⟩)).setCell ⟨w.heap.size, 5, none⟩ (.slice none 0 0)).cell? ⟨w.heap.size, o, none⟩ := fun o => by
    rw [hw2]; exact World.cell?_alloc_past _ _ _ (hn := by simpa using hs1)
  obtain ⟨y0, y1, y2, y3, y4, y5⟩ := hy
  rw [← hyl] at y0 y1 y2 y3 y4 y5
  have g2 : ∀ o, w2.frozen? ⟨w.heap.size, o, none⟩ = false := fun o => by
    rw [hw2, World.frozen?_alloc_past _ _ _ (hn := by simpa using hs1)]; simpa using f1 o
  clear hyl
  have HB2 : Hid (Below w.heap.size w w2) := by
    show Below _ _ _
    rw [hw2]
    exact Below.alloc ((((((HB1.out.setCell (Nat.le_refl _) _).setCell (Nat.le_refl _) _).setCell (Nat.le_refl _) _).setCell (Nat.le_refl _) _).setCell (Nat.le_refl _) _).setCell (Nat.le_refl _) _) (by simp; omega) _
  clear hw2 z1 f1 HB1
  go_wp2
  refine bodyPost_ret (v := .tuple #[.agg #[.int .i64 1, .int .i64 0, .int .i64 0, .int .i64 0, .string ⟨#[]⟩, .slice none 0 0], .int .i64 0, .bool true]) (by simp [results, Tryz.results25, go_sem, y0, y1, y2, y3, y4, y5]) rfl ⟨rfl, ?_⟩
  exact (((((HB2.out.setCell (Nat.le_refl _) _).setCell (Nat.le_refl _) _).setCell (Nat.le_refl _) _).setCell (Nat.le_refl _) _).setCell (Nat.le_refl _) _).setCell (Nat.le_refl _) _

set_option maxHeartbeats 1000000 in
theorem times26 (n : Int) (w : World) (h0 : 0 ≤ n) (h1 : n ≤ 1000000) : Calls Tryz.prog 26 #[.int .i64 n] w fun r w' => r = .returned (.bool true) ∧ w' = w := by
  go_enter Tryz.func26, Tryz.ntmps26
  go_wp2
  go_ret
  exact ⟨rfl, rfl⟩

end Go.Proofs.YtdeojcodbojmoaaGreatDoor
