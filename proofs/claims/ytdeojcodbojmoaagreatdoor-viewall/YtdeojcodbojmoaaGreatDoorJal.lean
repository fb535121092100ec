/- view.May of a view whose filter is one star, with nothing seen. -/
/- pars.reader: names, numbers, marks that must be there. -/
/- pars.reader: what stands behind @. -/
import Derived.Test.YtdeojcodbojmoaaGreatDoorJak
import Derived.Test.YtdeojcodbojmoaaGreatDoorJai
import Derived.LaidEql
import Derived.BigQuiet
import Derived.Deep.QuietTactic
namespace Go.Proofs.YtdeojcodbojmoaaGreatDoor
open Go.RowKit
set_option maxRecDepth 100000
set_option linter.unusedVariables false

set_option maxHeartbeats 400000 in
theorem as39 (v : Value) (w : World) : Calls Tryz.prog 39 #[.nilIface, v] w fun r w' => r = .returned (.bool false) ∧ w' = w := by
  go_enter Tryz.func39, Tryz.ntmps39
  go_wp2
  go_ret
  exact ⟨rfl, rfl⟩

set_option maxHeartbeats 400000 in
theorem many86 (w : World) : Calls Tryz.prog 86 #[.int .i64 1] w fun r w' => r = .returned (.int .i64 0) ∧ w' = w := by
  go_enter Tryz.func86, Tryz.ntmps86
  go_wp2
  go_ret
  exact ⟨rfl, rfl⟩

set_option maxHeartbeats 1000000 in
theorem own84 (w : World) : Calls Tryz.prog 84 #[.agg #[.int .i64 1, .int .i64 0, .int .i64 0, .int .i64 0, .string ⟨#[]⟩, .slice none 0 0]] w fun r w' => r = .returned .nilIface ∧ Below w.heap.size w w' := by
  go_enter Tryz.func84, Tryz.ntmps84
  go_wp2
  go_ret
  exact ⟨rfl, (Below.refl _ _).alloc (Nat.le_refl _) _⟩

set_option maxHeartbeats 1000000 in
theorem check70 (w : World) : Calls Tryz.prog 70 #[.agg #[.int .i64 1, .int .i64 0, .int .i64 0, .int .i64 0, .string ⟨#[]⟩, .slice none 0 0], .int .i64 6] w fun r w' => r = .returned .nilIface ∧ Below w.heap.size w w' := by
  go_enter Tryz.func70, Tryz.ntmps70
  go_wp2_with fail
  refine (own84 _).mono ?_
  rintro r w1 ⟨rfl, hb1⟩
  have hs1 : w.heap.size < w1.heap.size := by have := hb1.size; simp at this; omega
  have d1 : ∀ o, w1.cell? ⟨w.heap.size, o, none⟩ = (#[.int .i64 1, .int .i64 0, .int .i64 0, .int .i64 0, .string ⟨#[]⟩, .slice none 0 0] : Array Value)[o]? := fun o => by rw [hb1.cell (p := ⟨w.heap.size, o, none⟩) (by simp)]; simp
  have HB : Hid (Below w.heap.size w w1) := ((Below.refl _ w).alloc (Nat.le_refl _) _).trans (hb1.mono (by simp))
  clear hb1
  have d0 : w1.cell? ⟨w.heap.size, 0, none⟩ = some (.int .i64 1) := d1 0
  have d5 : w1.cell? ⟨w.heap.size, 5, none⟩ = some (.slice none 0 0) := d1 5
  clear d1
  go_wp2_with fail
  go_quiet (first | (go_at_call 86; refine Calls.quiet_of_same (many86 _)))
  go_wp2_with fail
  refine wp_loop_rounds 1 ?_
  rw [rounds_succ]
  go_wp2
  go_ret
  exact ⟨rfl, bel_dN HB.out _⟩

set_option maxHeartbeats 1000000 in
theorem may54 (w : World) : Calls Tryz.prog 54 #[.agg #[.int .i64 1, .int .i64 0, .int .i64 0, .int .i64 0, .string ⟨#[]⟩, .slice none 0 0]] w fun r w' => r = .returned (.bool true) ∧ Below w.heap.size w w' := by
  go_enter Tryz.func54, Tryz.ntmps54
  go_wp2_with fail
  refine (check70 _).mono ?_
  rintro r w1 ⟨rfl, hb1⟩
  go_wp2_with fail
  refine (as39 _ _).mono ?_
  rintro r w2 ⟨rfl, rfl⟩
  go_wp2
  go_ret
  exact ⟨rfl, (((Below.refl _ w).alloc (Nat.le_refl _) _).alloc (by simp) _).trans (hb1.mono (by simp <;> omega))⟩

set_option maxHeartbeats 400000 in
theorem seen41 (w : World) : Calls Tryz.prog 41 #[.slice none 0 0] w fun r w' => r = .returned .nilIface ∧ w' = w := by
  go_enter Tryz.func41, Tryz.ntmps41
  go_wp2_with fail
  refine wp_loop_rounds 1 ?_
  rw [rounds_succ]
  go_wp2
  go_ret
  exact ⟨rfl, rfl⟩

set_option maxHeartbeats 400000 in
theorem is40 (a : Addr) (w : World) : Calls Tryz.prog 40 #[.nilIface, .iface 185 (.pointer (some a))] w fun r w' => r = .returned (.bool false) ∧ w' = w := by
  go_enter Tryz.func40, Tryz.ntmps40
  go_wp2
  rw [run_eql_iface_nil_left w 185 _ Tryz.underlying65]
  go_wp2
  go_ret
  exact ⟨rfl, rfl⟩

set_option maxHeartbeats 1000000 in
theorem seen27 (a : Addr) (w : World) (hg : w.cell? ⟨0, 0, none⟩ = some (.iface 185 (.pointer (some a)))) : Calls Tryz.prog 27 #[.slice none 0 0] w fun r w' => r = .returned (.bool true) ∧ Below w.heap.size w w' := by
  go_enter Tryz.func27, Tryz.ntmps27
  go_wp2_with fail
  go_quiet (first | (go_at_call 41; refine Calls.quiet_of_same (seen41 _)) | (go_at_call 40; refine Calls.quiet_of_same (is40 _ _)))
  go_wp2
  go_ret
  exact ⟨rfl, bel_dN (Below.refl _ _) _⟩

/-- The words of a star. -/
def starW : List Wd.Word := [⟨3, [42], 0, 0⟩]
theorem star_all : Wd.all (⟨#[42]⟩ : ByteArray).data.toList = (starW, 0, true) := rfl

set_option maxHeartbeats 2000000 in
theorem parse38 (w : World) : Calls Tryz.prog 38 #[.string ⟨#[42]⟩] w fun r w' => r = .returned (.tuple #[.agg #[.int .i64 1, .int .i64 0, .int .i64 0, .int .i64 0, .string ⟨#[]⟩, .slice none 0 0], .nilIface]) ∧ Below w.heap.size w w' := by
  have c1 := all_any ⟨#[42]⟩ (w.alloc (.cells #[.int .i64 0, .int .i64 0, .int .i64 0, .int .i64 0, .string ⟨#[]⟩, .slice none 0 0] 53)) (by decide)
  rw [star_all] at c1
  go_enter Tryz.func38, Tryz.ntmps38
  go_wp2_with fail
  refine c1.mono ?_
  rintro r w1 ⟨v, rfl, hown, hb1⟩
  clear c1
  have hs1 : w.heap.size < w1.heap.size := by have := hb1.size; simp at this; omega
  obtain ⟨g, cap, rfl, hg1, hg2⟩ := hown.form (by decide)
  have hgw : w.heap.size < g := by simp at hg1; omega
  have z1 : ∀ o, w1.cell? ⟨w.heap.size, o, none⟩ = (#[.int .i64 0, .int .i64 0, .int .i64 0, .int .i64 0, .string ⟨#[]⟩, .slice none 0 0] : Array Value)[o]? := fun o => by rw [hb1.cell (p := ⟨w.heap.size, o, none⟩) (by simp)]; simp
  have f1 : ∀ o, w1.frozen? ⟨w.heap.size, o, none⟩ = false := fun o => by rw [hb1.frozen (p := ⟨w.heap.size, o, none⟩) (by simp)]; simp
  have HB1 : Hid (Below w.heap.size w w1) := ((Below.refl _ w).alloc (Nat.le_refl _) _).trans (hb1.mono (by simp))
  have hr : Rdr (w1.alloc (.cells #[.slice (some ⟨g, 0, none⟩) 1 cap, .int .i64 1] 92)) w1.heap.size starW 0 1 := by
    have hrd := Rds.of_own hown (by decide) (.inl (by decide))
    rcases hrd with hrd | ⟨_, hlc, _, _, b, off, e, _, hb, hc⟩
    · exact absurd hrd.1 (by decide)
    · cases e
      obtain ⟨_, hcap⟩ := hown
      have hcm : cap ≤ maxLen := by
        rcases hcap with ⟨h, _⟩ | ⟨g', c', cur, h, _, _, _, h2, _⟩
        · cases h
        · cases h; exact h2
      refine ⟨by simp, by decide, by decide, some ⟨g, 0, none⟩, cap, g, by simp [starW], by simpa [starW] using hlc, hcm, by simp, fun _ => ⟨rfl, hb, fun j u hu => ?_⟩⟩
      rw [World.cell?_alloc_past _ _ _ (hn := hb)]
      have := hc j u hu
      rwa [Nat.zero_add] at this
  clear hb1 hown hg1
  have c2 := filter_one w1.heap.size starW 0 1 _ hr rfl (fun w' h' => allOf_one w1.heap.size starW 0 1 w' h' rfl (fun w'' h'' => single_star w1.heap.size starW 0 1 w'' h'' rfl))
  clear hr
  simp only [starW, List.length_cons, List.length_nil]
  go_wp2_with fail
  refine c2.mono ?_
  rintro r w2 ⟨rfl, hr2, hk2⟩
  clear c2
  have hs2 : w1.heap.size < w2.heap.size := by have := hk2.size; simp at this; omega
  obtain ⟨hrf, _, _, ao, cap2, wb, r0, _, _, r1, _⟩ := hr2
  have r0' : w2.cell? ⟨w1.heap.size, 0, none⟩ = some (.slice ao 0 cap2) := r0
  have z2 : ∀ o, w2.cell? ⟨w.heap.size, o, none⟩ = (#[.int .i64 0, .int .i64 0, .int .i64 0, .int .i64 0, .string ⟨#[]⟩, .slice none 0 0] : Array Value)[o]? := fun o => by rw [hk2.cell (by simp; omega) (by unfold But; omega), World.cell?_alloc_past _ _ _ (hn := hs1)]; exact z1 o
  have f2 : ∀ o, w2.frozen? ⟨w.heap.size, o, none⟩ = false := fun o => by rw [hk2.frozen (by simp; omega) (by unfold But; omega), World.frozen?_alloc_past _ _ _ (hn := hs1)]; exact f1 o
  have HB2 : Hid (Below w.heap.size w w2) := HB1.out.trans ((((Kept.refl (But w1.heap.size) w1).alloc _).trans hk2).below HB1.out.size (fun k hk => by unfold But; omega))
  clear hk2 z1 f1 hrf r0 HB1
  have c3 := may54 (w2.alloc (.cells #[.int .i64 1, .int .i64 0, .int .i64 0, .int .i64 0, .string ⟨#[]⟩, .slice none 0 0] 53))
  go_wp2_with fail
  refine c3.mono ?_
  rintro r w3 ⟨rfl, hb3⟩
  clear c3
  have hs3 : w2.heap.size < w3.heap.size := by have := hb3.size; simp at this; omega
  have z3 : ∀ o, w3.cell? ⟨w.heap.size, o, none⟩ = (#[.int .i64 0, .int .i64 0, .int .i64 0, .int .i64 0, .string ⟨#[]⟩, .slice none 0 0] : Array Value)[o]? := fun o => by rw [hb3.cell (p := ⟨w.heap.size, o, none⟩) (by simp; omega), World.cell?_alloc_past _ _ _ (hn := by omega)]; exact z2 o
  have f3 : ∀ o, w3.frozen? ⟨w.heap.size, o, none⟩ = false := fun o => by rw [hb3.frozen (p := ⟨w.heap.size, o, none⟩) (by simp; omega), World.frozen?_alloc_past _ _ _ (hn := by omega)]; exact f2 o
  have y3 : ∀ o, w3.cell? ⟨w2.heap.size, o, none⟩ = (#[.int .i64 1, .int .i64 0, .int .i64 0, .int .i64 0, .string ⟨#[]⟩, .slice none 0 0] : Array Value)[o]? := fun o => by rw [hb3.cell (p := ⟨w2.heap.size, o, none⟩) (by simp)]; simp
  have HB3 : Hid (Below w.heap.size w w3) := HB2.out.trans ((((Below.refl _ w2).alloc (Nat.le_refl _) _).trans (hb3.mono (by simp))).mono HB2.out.size)
  have hne : w.heap.size ≠ w2.heap.size := by omega
  have hne' : w2.heap.size ≠ w.heap.size := by omega
  clear hb3 z2 f2 r0' r1 HB2
  go_wp2
  refine bodyPost_ret (v := .tuple #[.agg #[.int .i64 1, .int .i64 0, .int .i64 0, .int .i64 0, .string ⟨#[]⟩, .slice none 0 0], .nilIface]) (by simp [results, Tryz.results38, go_sem, z3]) rfl ⟨rfl, ?_⟩
  exact (((((HB3.out.setCell (Nat.le_refl _) _).setCell (Nat.le_refl _) _).setCell (Nat.le_refl _) _).setCell (Nat.le_refl _) _).setCell (Nat.le_refl _) _).setCell (Nat.le_refl _) _

/-- Six stores into one block. -/
theorem six_set (W : World) (b : Nat) (u0 u1 u2 u3 u4 u5 v0 v1 v2 v3 v4 v5 : Value) (h0 : W.cell? ⟨b, 0, none⟩ = some v0) (h1 : W.cell? ⟨b, 1, none⟩ = some v1) (h2 : W.cell? ⟨b, 2, none⟩ = some v2) (h3 : W.cell? ⟨b, 3, none⟩ = some v3) (h4 : W.cell? ⟨b, 4, none⟩ = some v4) (h5 : W.cell? ⟨b, 5, none⟩ = some v5) :
    ((((((W.setCell ⟨b, 0, none⟩ u0).setCell ⟨b, 1, none⟩ u1).setCell ⟨b, 2, none⟩ u2).setCell ⟨b, 3, none⟩ u3).setCell ⟨b, 4, none⟩ u4).setCell ⟨b, 5, none⟩ u5).cell? ⟨b, 0, none⟩ = some u0 ∧ ((((((W.setCell ⟨b, 0, none⟩ u0).setCell ⟨b, 1, none⟩ u1).setCell ⟨b, 2, none⟩ u2).setCell ⟨b, 3, none⟩ u3).setCell ⟨b, 4, none⟩ u4).setCell ⟨b, 5, none⟩ u5).cell? ⟨b, 1, none⟩ = some u1 ∧ ((((((W.setCell ⟨b, 0, none⟩ u0).setCell ⟨b, 1, none⟩ u1).setCell ⟨b, 2, none⟩ u2).setCell ⟨b, 3, none⟩ u3).setCell ⟨b, 4, none⟩ u4).setCell ⟨b, 5, none⟩ u5).cell? ⟨b, 2, none⟩ = some u2 ∧ ((((((W.setCell ⟨b, 0, none⟩ u0).setCell ⟨b, 1, none⟩ u1).setCell ⟨b, 2, none⟩ u2).setCell ⟨b, 3, none⟩ u3).setCell ⟨b, 4, none⟩ u4).setCell ⟨b, 5, none⟩ u5).cell? ⟨b, 3, none⟩ = some u3 ∧ ((((((W.setCell ⟨b, 0, none⟩ u0).setCell ⟨b, 1, none⟩ u1).setCell ⟨b, 2, none⟩ u2).setCell ⟨b, 3, none⟩ u3).setCell ⟨b, 4, none⟩ u4).setCell ⟨b, 5, none⟩ u5).cell? ⟨b, 4, none⟩ = some u4 ∧ ((((((W.setCell ⟨b, 0, none⟩ u0).setCell ⟨b, 1, none⟩ u1).setCell ⟨b, 2, none⟩ u2).setCell ⟨b, 3, none⟩ u3).setCell ⟨b, 4, none⟩ u4).setCell ⟨b, 5, none⟩ u5).cell? ⟨b, 5, none⟩ = some u5 := by
  refine ⟨?_, ?_, ?_, ?_, ?_, ?_⟩
  · rw [World.cell?_setCell_other _ _ _ _ (by simp), World.cell?_setCell_other _ _ _ _ (by simp), World.cell?_setCell_other _ _ _ _ (by simp), World.cell?_setCell_other _ _ _ _ (by simp), World.cell?_setCell_other _ _ _ _ (by simp)]; exact World.cell?_setCell_same W ⟨b, 0, none⟩ _ (u := v0) (by exact h0)
  · rw [World.cell?_setCell_other _ _ _ _ (by simp), World.cell?_setCell_other _ _ _ _ (by simp), World.cell?_setCell_other _ _ _ _ (by simp), World.cell?_setCell_other _ _ _ _ (by simp)]; exact World.cell?_setCell_same (W.setCell ⟨b, 0, none⟩ u0) ⟨b, 1, none⟩ _ (u := v1) (by rw [World.cell?_setCell_other _ _ _ _ (by simp)]; exact h1)
  · rw [World.cell?_setCell_other _ _ _ _ (by simp), World.cell?_setCell_other _ _ _ _ (by simp), World.cell?_setCell_other _ _ _ _ (by simp)]; exact World.cell?_setCell_same ((W.setCell ⟨b, 0, none⟩ u0).setCell ⟨b, 1, none⟩ u1) ⟨b, 2, none⟩ _ (u := v2) (by rw [World.cell?_setCell_other _ _ _ _ (by simp), World.cell?_setCell_other _ _ _ _ (by simp)]; exact h2)
  · rw [World.cell?_setCell_other _ _ _ _ (by simp), World.cell?_setCell_other _ _ _ _ (by simp)]; exact World.cell?_setCell_same (((W.setCell ⟨b, 0, none⟩ u0).setCell ⟨b, 1, none⟩ u1).setCell ⟨b, 2, none⟩ u2) ⟨b, 3, none⟩ _ (u := v3) (by rw [World.cell?_setCell_other _ _ _ _ (by simp), World.cell?_setCell_other _ _ _ _ (by simp), World.cell?_setCell_other _ _ _ _ (by simp)]; exact h3)
  · rw [World.cell?_setCell_other _ _ _ _ (by simp)]; exact World.cell?_setCell_same ((((W.setCell ⟨b, 0, none⟩ u0).setCell ⟨b, 1, none⟩ u1).setCell ⟨b, 2, none⟩ u2).setCell ⟨b, 3, none⟩ u3) ⟨b, 4, none⟩ _ (u := v4) (by rw [World.cell?_setCell_other _ _ _ _ (by simp), World.cell?_setCell_other _ _ _ _ (by simp), World.cell?_setCell_other _ _ _ _ (by simp), World.cell?_setCell_other _ _ _ _ (by simp)]; exact h4)
  · exact World.cell?_setCell_same (((((W.setCell ⟨b, 0, none⟩ u0).setCell ⟨b, 1, none⟩ u1).setCell ⟨b, 2, none⟩ u2).setCell ⟨b, 3, none⟩ u3).setCell ⟨b, 4, none⟩ u4) ⟨b, 5, none⟩ _ (u := v5) (by rw [World.cell?_setCell_other _ _ _ _ (by simp), World.cell?_setCell_other _ _ _ _ (by simp), World.cell?_setCell_other _ _ _ _ (by simp), World.cell?_setCell_other _ _ _ _ (by simp), World.cell?_setCell_other _ _ _ _ (by simp)]; exact h5)

set_option maxHeartbeats 2000000 in
theorem parse25 (w : World) : Calls Tryz.prog 25 #[.string ⟨#[42]⟩] w fun r w' => r = .returned (.tuple #[.agg #[.int .i64 1, .int .i64 0, .int .i64 0, .int .i64 0, .string ⟨#[]⟩, .slice none 0 0], .int .i64 0, .bool true]) ∧ Below w.heap.size w w' := by
  go_enter Tryz.func25, Tryz.ntmps25
  go_wp2_with fail
  refine (parse38 _).mono ?_
  rintro r w1 ⟨rfl, hb1⟩
  have hs1 : w.heap.size < w1.heap.size := by have := hb1.size; simp at this; omega
  have z1 : ∀ o, w1.cell? ⟨w.heap.size, o, none⟩ = (#[.int .i64 0, .int .i64 0, .int .i64 0, .int .i64 0, .string ⟨#[]⟩, .slice none 0 0] : Array Value)[o]? := fun o => by rw [hb1.cell (p := ⟨w.heap.size, o, none⟩) (by simp)]; simp
  have f1 : ∀ o, w1.frozen? ⟨w.heap.size, o, none⟩ = false := fun o => by rw [hb1.frozen (p := ⟨w.heap.size, o, none⟩) (by simp)]; simp
  have HB1 : Hid (Below w.heap.size w w1) := ((Below.refl _ w).alloc (Nat.le_refl _) _).trans (hb1.mono (by simp))
  clear hb1
  go_wp2_with fail
  refine (as39 _ _).mono ?_
  rintro r w2 ⟨rfl, hw2⟩
  have hs2 : w1.heap.size < w2.heap.size := by rw [hw2]; simp
  have hy := six_set w1 w.heap.size (.int .i64 1) (.int .i64 0) (.int .i64 0) (.int .i64 0) (.string ⟨#[]⟩) (.slice none 0 0) _ _ _ _ _ _ (z1 0) (z1 1) (z1 2) (z1 3) (z1 4) (z1 5)
  have hyl : ∀ o, w2.cell? ⟨w.heap.size, o, none⟩ = ((((((w1.setCell ⟨w.heap.size, 0, none⟩ (.int .i64 1)).setCell ⟨w.heap.size, 1, none⟩ (.int .i64 0)).setCell ⟨w.heap.size, 2, none⟩ (.int .i64 0)).setCell ⟨w.heap.size, 3, none⟩ (.int .i64 0)).setCell ⟨w.heap.size, 4, none⟩ (.string ⟨#[]⟩)).setCell ⟨w.heap.size, 5, none⟩ (.slice none 0 0)).cell? ⟨w.heap.size, o, none⟩ := fun o => by
    rw [hw2]; exact World.cell?_alloc_past _ _ _ (hn := by simpa using hs1)
  obtain ⟨y0, y1, y2, y3, y4, y5⟩ := hy
  rw [← hyl] at y0 y1 y2 y3 y4 y5
  have g2 : ∀ o, w2.frozen? ⟨w.heap.size, o, none⟩ = false := fun o => by
    rw [hw2, World.frozen?_alloc_past _ _ _ (hn := by simpa using hs1)]; simpa using f1 o
  clear hyl
  have HB2 : Hid (Below w.heap.size w w2) := by
    show Below _ _ _
    rw [hw2]
    exact Below.alloc ((((((HB1.out.setCell (Nat.le_refl _) _).setCell (Nat.le_refl _) _).setCell (Nat.le_refl _) _).setCell (Nat.le_refl _) _).setCell (Nat.le_refl _) _).setCell (Nat.le_refl _) _) (by simp; omega) _
  clear hw2 z1 f1 HB1
  go_wp2
  refine bodyPost_ret (v := .tuple #[.agg #[.int .i64 1, .int .i64 0, .int .i64 0, .int .i64 0, .string ⟨#[]⟩, .slice none 0 0], .int .i64 0, .bool true]) (by simp [results, Tryz.results25, go_sem, y0, y1, y2, y3, y4, y5]) rfl ⟨rfl, ?_⟩
  exact (((((HB2.out.setCell (Nat.le_refl _) _).setCell (Nat.le_refl _) _).setCell (Nat.le_refl _) _).setCell (Nat.le_refl _) _).setCell (Nat.le_refl _) _).setCell (Nat.le_refl _) _

set_option maxHeartbeats 1000000 in
theorem times26 (n : Int) (w : World) (h0 : 0 ≤ n) (h1 : n ≤ 1000000) : Calls Tryz.prog 26 #[.int .i64 n] w fun r w' => r = .returned (.bool true) ∧ w' = w := by
  go_enter Tryz.func26, Tryz.ntmps26
  go_wp2
  go_ret
  exact ⟨rfl, rfl⟩

end Go.Proofs.YtdeojcodbojmoaaGreatDoor
namespace Go.Proofs.YtdeojcodbojmoaaGreatDoor
open Go.RowKit
set_option maxRecDepth 100000
set_option linter.unusedVariables false

theorem isM_eq (ws : List Wd.Word) (i : Nat) (c : UInt8) : isM ws i c = Ps.isMark ws i c := by
  unfold isM Ps.isMark
  cases ws[i]? <;> rfl

/-- What the next word is. -/
def Nx (ws : List Wd.Word) (i : Nat) (k n : Int) (t : ByteArray) : Prop := (∃ x, ws[i]? = some x ∧ k = x.kind ∧ n = x.num ∧ t = ⟨x.text.toArray⟩) ∨ (ws[i]? = none ∧ k = 0)

theorem next69 (rb : Nat) (ws : List Wd.Word) (i : Nat) (e : Int) (w : World) (h : Rdr w rb ws i e) :
    ∃ k t n p, Nx ws i k n t ∧ Calls Tryz.prog 69 #[.pointer (some ⟨rb, 0, none⟩)] w fun r w' => r = .returned (.agg #[.int .i64 k, .string t, .int .i64 n, .int .i64 p]) ∧ Below w.heap.size w w' := by
  obtain ⟨h1, h2, h3, ao, cap, wb, q0, q1, q2, q3, q4⟩ := h
  by_cases hi : i < ws.length
  · obtain ⟨rfl, hwb, hc⟩ := q4 hi
    obtain ⟨u0, u1, u2, u3⟩ := word_at hc i hi
    exact ⟨_, _, _, _, .inl ⟨ws[i], List.getElem?_eq_getElem hi, rfl, rfl, rfl⟩, next_word rb wb (i * 4) w _ _ _ _ _ cap (by omega) (by omega) q0 u0 u1 u2 u3⟩
  · have e0 : ws.length - i = 0 := by omega
    rw [e0] at q0
    exact ⟨0, ⟨#[]⟩, 0, e, .inr ⟨List.getElem?_eq_none (by omega), rfl⟩, next_end rb w e ao cap q0 q3⟩

theorem field120 (k n p : Int) (t : ByteArray) (w : World) : (Instr.field 120 (.agg #[.int .i64 k, .string t, .int .i64 n, .int .i64 p]) 3).run Tryz.prog w = .ok (.int .i64 p) w := by kernel_rfl

set_option maxHeartbeats 1000000 in
theorem misfit53 (rb : Nat) (ws : List Wd.Word) (i : Nat) (e : Int) (w : World) (h : Rdr w rb ws i e) :
    Calls Tryz.prog 53 #[.pointer (some ⟨rb, 0, none⟩)] w fun r w' => ∃ y : Int, r = .returned (.iface 69 (.agg #[.int .i64 y])) ∧ Below w.heap.size w w' := by
  obtain ⟨k, t, n, p, hx, c⟩ := next69 rb ws i e w h
  go_enter Tryz.func53, Tryz.ntmps53
  go_wp2_with fail
  refine c.mono ?_
  rintro r w1 ⟨rfl, hb1⟩
  clear c
  have hfl := field120 k n p t
  go_wp2
  go_ret
  exact ⟨_, rfl, hb1⟩

/-- A word was read. -/
theorem rdr_step {w w' : World} {rb : Nat} {ws : List Wd.Word} {i : Nat} {e : Int} {cap wb : Nat} (h : Rdr w rb ws i e) (hi : i < ws.length) (q0 : w.cell? ⟨rb, 0, none⟩ = some (.slice (some ⟨wb, i * 4, none⟩) (ws.length - i) cap)) (hh : HasY rb wb (i * 4) (ws.length - i) cap w w') : Rdr w' rb ws (i + 1) e ∧ Kept (But rb) w w' := by
  have hlt := h.lt
  obtain ⟨h1, h2, h3, ao, cap', wb', p0, q1, q2, q3, q4⟩ := h
  rw [q0] at p0
  cases p0
  obtain ⟨e1, hwb, hc⟩ := q4 hi
  cases e1
  obtain ⟨W, ao', ob, hW, rfl, hao⟩ := hh
  refine ⟨Rdr.below ?_ ((Below.refl _ _).alloc (by have := hW.size; simp; omega) _), (Kept.setCell (P := But rb) (p := ⟨rb, 0, none⟩) (Kept.of_below hW) (fun k _ hk => hk) _).alloc _⟩
  have hWc : ∀ b o, b < w.heap.size → b ≠ rb → (W.setCell ⟨rb, 0, none⟩ (.slice ao' (ws.length - i - 1) (cap - 1))).cell? ⟨b, o, none⟩ = w.cell? ⟨b, o, none⟩ := fun b o hb hne => by
    rw [World.cell?_setCell_other _ _ _ _ (fun e => hne (congrArg Addr.block e).symm)]; exact hW.cell (p := ⟨b, o, none⟩) hb
  have hlw : wb < w.heap.size := by omega
  refine ⟨?_, by omega, h3, ao', cap - 1, wb, ?_, by omega, by unfold maxLen at q2 ⊢; omega, ?_, fun hi2 => ⟨?_, hwb, fun j u hu => ?_⟩⟩
  · have := (hW.frozen (p := ⟨rb, 0, none⟩) hlt).trans h1
    simpa using this
  · have e1 : ws.length - (i + 1) = ws.length - i - 1 := by omega
    rw [e1]
    exact (World.cell?_setCell_same W ⟨rb, 0, none⟩ _ (u := .slice (some ⟨wb, i * 4, none⟩) (ws.length - i) cap) ((hW.cell (p := ⟨rb, 0, none⟩) hlt).trans q0)).trans rfl
  · rw [World.cell?_setCell_other _ _ _ _ (by simp)]
    exact (hW.cell (p := ⟨rb, 1, none⟩) hlt).trans q3
  · rw [hao (by omega)]
    have e2 : i * 4 + 4 = (i + 1) * 4 := by omega
    rw [e2]
  · rw [hWc wb j hlw (by omega)]; exact hc j u hu

/-- Where the reader stands, if there is a word. -/
theorem Rdr.here {w : World} {rb : Nat} {ws : List Wd.Word} {i : Nat} {e : Int} (h : Rdr w rb ws i e) (hi : i < ws.length) : ∃ wb cap, w.frozen? ⟨rb, 0, none⟩ = false ∧ w.cell? ⟨rb, 0, none⟩ = some (.slice (some ⟨wb, i * 4, none⟩) (ws.length - i) cap) ∧ ws.length - i ≤ cap ∧ cap ≤ maxLen ∧ 0 < ws.length - i ∧ ws.length - i ≤ 60 := by
  obtain ⟨h1, h2, h3, ao, cap, wb, q0, q1, q2, q3, q4⟩ := h
  obtain ⟨rfl, hwb, hc⟩ := q4 hi
  exact ⟨wb, cap, h1, q0, q1, q2, by omega, by omega⟩

set_option maxHeartbeats 1000000 in
theorem name_yes (rb : Nat) (ws : List Wd.Word) (i : Nat) (e : Int) (tx : List UInt8) (w : World) (h : Rdr w rb ws i e) (hn : Ps.name ws i = some tx) :
    Calls Tryz.prog 91 #[.pointer (some ⟨rb, 0, none⟩)] w fun r w' => r = .returned (.tuple #[.string ⟨tx.toArray⟩, .nilIface]) ∧ Rdr w' rb ws (i + 1) e ∧ Kept (But rb) w w' := by
  have hlt := h.lt
  have h' := h
  obtain ⟨k, t, n, p, hx, c⟩ := next69 rb ws i e w h
  have hk : k = 1 ∧ t = ⟨tx.toArray⟩ ∧ i < ws.length := by
    unfold Ps.name at hn
    rcases hx with ⟨x, hx, rfl, _, rfl⟩ | ⟨hx, _⟩
    · rw [hx] at hn
      simp only at hn
      split at hn
      · cases hn
        exact ⟨by assumption, rfl, (List.getElem?_eq_some_iff.1 hx).1⟩
      · cases hn
    · rw [hx] at hn; cases hn
  obtain ⟨rfl, rfl, hi⟩ := hk
  obtain ⟨wb, cap, hf, q0, hlc, hcm, hl0, hl6⟩ := h.here hi
  have HS : Hid (∀ w', HasY rb wb (i * 4) (ws.length - i) cap w w' → Rdr w' rb ws (i + 1) e ∧ Kept (But rb) w w') := fun w' hh => rdr_step h' hi q0 hh
  generalize ws.length - i = len at *
  generalize i * 4 = off at *
  unfold maxLen at hcm
  clear hn hx h h'
  go_enter Tryz.func91, Tryz.ntmps91
  go_wp2_with fail
  refine c.mono ?_
  rintro r w1 ⟨rfl, hb1⟩
  clear c
  have q1 : w1.cell? ⟨rb, 0, none⟩ = some (.slice (some ⟨wb, off, none⟩) len cap) := (hb1.cell (p := ⟨rb, 0, none⟩) hlt).trans q0
  have f1 : w1.frozen? ⟨rb, 0, none⟩ = false := (hb1.frozen (p := ⟨rb, 0, none⟩) hlt).trans hf
  have hlt1 : rb < w1.heap.size := World.block_lt_of_cell? w1 ⟨rb, 0, none⟩ q1
  have hne : rb ≠ w1.heap.size := by omega
  have hne' : w1.heap.size ≠ rb := by omega
  have HB : Hid (Below w.heap.size w w1) := hb1
  clear hb1 q0 hf
  go_wp2
  · subst h
    refine bodyPost_ret (v := .tuple #[.string ⟨tx.toArray⟩, .nilIface]) (by simp [results, Tryz.results91, go_sem]) rfl ?_
    refine ⟨rfl, HS.out _ ⟨w1, _, _, HB.out, rfl, fun h => ?_⟩⟩
    omega
  · refine bodyPost_ret (v := .tuple #[.string ⟨tx.toArray⟩, .nilIface]) (by simp [results, Tryz.results91, go_sem]) rfl ?_
    refine ⟨rfl, HS.out _ ⟨w1, _, _, HB.out, rfl, fun h => ?_⟩⟩
    rfl

set_option maxHeartbeats 1000000 in
theorem name_no (rb : Nat) (ws : List Wd.Word) (i : Nat) (e : Int) (w : World) (h : Rdr w rb ws i e) (hn : Ps.name ws i = none) :
    Calls Tryz.prog 91 #[.pointer (some ⟨rb, 0, none⟩)] w fun r w' => ∃ y : Int, r = .returned (.tuple #[.string ⟨#[]⟩, .iface 69 (.agg #[.int .i64 y])]) ∧ Below w.heap.size w w' := by
  have hlt := h.lt
  obtain ⟨k, t, n, p, hx, c⟩ := next69 rb ws i e w h
  have hk : (k != 1) = true := by
    unfold Ps.name at hn
    rcases hx with ⟨x, hx, rfl, _, rfl⟩ | ⟨hx, rfl⟩
    · rw [hx] at hn
      simp only at hn
      split at hn
      · cases hn
      · simpa [bne] using ‹¬ _›
    · decide
  have c2 := fun w' (hb : Below w.heap.size w w') => misfit53 rb ws i e w' (h.below (hb.mono hlt))
  clear hn hx h
  go_enter Tryz.func91, Tryz.ntmps91
  go_wp2_with fail
  refine c.mono ?_
  rintro r w1 ⟨rfl, hb1⟩
  clear c
  have c3 := c2 (w1.alloc (.cells #[.int .i64 k, .string t, .int .i64 n, .int .i64 p] 120)) (hb1.alloc hb1.size _)
  have HB : Hid (Below w.heap.size w w1) := hb1
  clear hb1 c2
  go_wp2_with fail
  refine c3.mono ?_
  rintro r w2 ⟨y, rfl, hb2⟩
  clear c3
  go_wp2
  refine bodyPost_ret (v := .tuple #[.string ⟨#[]⟩, .iface 69 (.agg #[.int .i64 y])]) (by simp [results, Tryz.results91, go_sem]) rfl ?_
  exact ⟨y, rfl, (HB.out.alloc HB.out.size _).trans (hb2.mono (by have := HB.out.size; simp; omega))⟩

set_option maxHeartbeats 1000000 in
theorem number_yes (rb : Nat) (ws : List Wd.Word) (i : Nat) (e : Int) (a least most : Int) (w : World) (h : Rdr w rb ws i e) (hn : Ps.num ws i (most + 1) = some a) (hl : least ≤ a) :
    Calls Tryz.prog 99 #[.pointer (some ⟨rb, 0, none⟩), .int .i64 least, .int .i64 most] w fun r w' => r = .returned (.tuple #[.int .i64 a, .nilIface]) ∧ Rdr w' rb ws (i + 1) e ∧ Kept (But rb) w w' := by
  have hlt := h.lt
  have h' := h
  obtain ⟨k, t, n, p, hx, c⟩ := next69 rb ws i e w h
  have hk : k = 2 ∧ n = a ∧ a ≤ most ∧ i < ws.length := by
    unfold Ps.num at hn
    rcases hx with ⟨x, hx, rfl, rfl, _⟩ | ⟨hx, _⟩
    · rw [hx] at hn
      simp only at hn
      split at hn
      · rename_i hh
        cases hn
        exact ⟨hh.1, rfl, by omega, (List.getElem?_eq_some_iff.1 hx).1⟩
      · cases hn
    · rw [hx] at hn; cases hn
  obtain ⟨rfl, rfl, hm, hi⟩ := hk
  have d1 : decide (n < least) = false := decide_eq_false (by omega)
  have d2 : decide (most < n) = false := decide_eq_false (by omega)
  obtain ⟨wb, cap, hf, q0, hlc, hcm, hl0, hl6⟩ := h.here hi
  have HS : Hid (∀ w', HasY rb wb (i * 4) (ws.length - i) cap w w' → Rdr w' rb ws (i + 1) e ∧ Kept (But rb) w w') := fun w' hh => rdr_step h' hi q0 hh
  generalize ws.length - i = len at *
  generalize i * 4 = off at *
  unfold maxLen at hcm
  clear hn hx h h' hl hm
  go_enter Tryz.func99, Tryz.ntmps99
  go_wp2_with fail
  refine c.mono ?_
  rintro r w1 ⟨rfl, hb1⟩
  clear c
  have q1 : w1.cell? ⟨rb, 0, none⟩ = some (.slice (some ⟨wb, off, none⟩) len cap) := (hb1.cell (p := ⟨rb, 0, none⟩) hlt).trans q0
  have f1 : w1.frozen? ⟨rb, 0, none⟩ = false := (hb1.frozen (p := ⟨rb, 0, none⟩) hlt).trans hf
  have hlt1 : rb < w1.heap.size := World.block_lt_of_cell? w1 ⟨rb, 0, none⟩ q1
  have hne : rb ≠ w1.heap.size := by omega
  have hne' : w1.heap.size ≠ rb := by omega
  have HB : Hid (Below w.heap.size w w1) := hb1
  clear hb1 q0 hf
  go_wp2
  · subst h
    refine bodyPost_ret (v := .tuple #[.int .i64 n, .nilIface]) (by simp [results, Tryz.results99, go_sem]) rfl ?_
    refine ⟨rfl, HS.out _ ⟨w1, _, _, HB.out, rfl, fun h => ?_⟩⟩
    omega
  · refine bodyPost_ret (v := .tuple #[.int .i64 n, .nilIface]) (by simp [results, Tryz.results99, go_sem]) rfl ?_
    refine ⟨rfl, HS.out _ ⟨w1, _, _, HB.out, rfl, fun h => ?_⟩⟩
    rfl

set_option maxHeartbeats 2000000 in
theorem number_no (rb : Nat) (ws : List Wd.Word) (i : Nat) (e : Int) (least most : Int) (w : World) (h : Rdr w rb ws i e) (hn : ∀ a, Ps.num ws i (most + 1) = some a → a < least) :
    Calls Tryz.prog 99 #[.pointer (some ⟨rb, 0, none⟩), .int .i64 least, .int .i64 most] w fun r w' => ∃ y : Int, r = .returned (.tuple #[.int .i64 0, .iface 69 (.agg #[.int .i64 y])]) ∧ Below w.heap.size w w' := by
  have hlt := h.lt
  obtain ⟨k, t, n, p, hx, c⟩ := next69 rb ws i e w h
  have hk : (k != 2) = true ∨ (k = 2 ∧ decide (n < least) = true) ∨ (k = 2 ∧ decide (n < least) = false ∧ decide (most < n) = true) := by
    unfold Ps.num at hn
    rcases hx with ⟨x, hx, rfl, rfl, _⟩ | ⟨hx, rfl⟩
    · rw [hx] at hn
      simp only at hn
      by_cases k2 : x.kind = 2
      · right
        by_cases l2 : x.num < least
        · exact .inl ⟨k2, decide_eq_true l2⟩
        · refine .inr ⟨k2, decide_eq_false l2, decide_eq_true ?_⟩
          by_cases m2 : x.num < most + 1
          · have := hn x.num (by rw [if_pos ⟨k2, m2⟩])
            omega
          · omega
      · exact .inl (by simpa [bne] using k2)
    · exact .inl (by decide)
  have c2 := fun w' (hb : Below w.heap.size w w') => misfit53 rb ws i e w' (h.below (hb.mono hlt))
  clear hn hx h
  rcases hk with hk | ⟨rfl, hk⟩ | ⟨rfl, hk, hk'⟩
  · go_enter Tryz.func99, Tryz.ntmps99
    go_wp2_with fail
    refine c.mono ?_
    rintro r w1 ⟨rfl, hb1⟩
    clear c
    have c3 := c2 (w1.alloc (.cells #[.int .i64 k, .string t, .int .i64 n, .int .i64 p] 120)) (hb1.alloc hb1.size _)
    have HB : Hid (Below w.heap.size w w1) := hb1
    clear hb1 c2
    go_wp2_with fail
    refine c3.mono ?_
    rintro r w2 ⟨y, rfl, hb2⟩
    clear c3
    go_wp2
    refine bodyPost_ret (v := .tuple #[.int .i64 0, .iface 69 (.agg #[.int .i64 y])]) (by simp [results, Tryz.results99, go_sem]) rfl ?_
    exact ⟨y, rfl, (HB.out.alloc HB.out.size _).trans (hb2.mono (by have := HB.out.size; simp; omega))⟩
  · go_enter Tryz.func99, Tryz.ntmps99
    go_wp2_with fail
    refine c.mono ?_
    rintro r w1 ⟨rfl, hb1⟩
    clear c
    have c3 := c2 (w1.alloc (.cells #[.int .i64 2, .string t, .int .i64 n, .int .i64 p] 120)) (hb1.alloc hb1.size _)
    have HB : Hid (Below w.heap.size w w1) := hb1
    clear hb1 c2
    go_wp2_with fail
    refine c3.mono ?_
    rintro r w2 ⟨y, rfl, hb2⟩
    clear c3
    go_wp2
    refine bodyPost_ret (v := .tuple #[.int .i64 0, .iface 69 (.agg #[.int .i64 y])]) (by simp [results, Tryz.results99, go_sem]) rfl ?_
    exact ⟨y, rfl, (HB.out.alloc HB.out.size _).trans (hb2.mono (by have := HB.out.size; simp; omega))⟩
  · go_enter Tryz.func99, Tryz.ntmps99
    go_wp2_with fail
    refine c.mono ?_
    rintro r w1 ⟨rfl, hb1⟩
    clear c
    have c3 := c2 (w1.alloc (.cells #[.int .i64 2, .string t, .int .i64 n, .int .i64 p] 120)) (hb1.alloc hb1.size _)
    have HB : Hid (Below w.heap.size w w1) := hb1
    clear hb1 c2
    go_wp2_with fail
    refine c3.mono ?_
    rintro r w2 ⟨y, rfl, hb2⟩
    clear c3
    go_wp2
    refine bodyPost_ret (v := .tuple #[.int .i64 0, .iface 69 (.agg #[.int .i64 y])]) (by simp [results, Tryz.results99, go_sem]) rfl ?_
    exact ⟨y, rfl, (HB.out.alloc HB.out.size _).trans (hb2.mono (by have := HB.out.size; simp; omega))⟩

set_option maxHeartbeats 1000000 in
theorem wants_yes (rb : Nat) (ws : List Wd.Word) (i : Nat) (e : Int) (c : UInt8) (s : ByteArray) (hs : s.data.toList = [c]) (w : World) (h : Rdr w rb ws i e) (hm : Ps.isMark ws i c = true) :
    Calls Tryz.prog 92 #[.pointer (some ⟨rb, 0, none⟩), .string s] w fun r w' => r = .returned .nilIface ∧ Rdr w' rb ws (i + 1) e ∧ Kept (But rb) w w' := by
  have c1 := has82 rb ws i e c s hs w h
  rw [isM_eq, hm] at c1
  clear hm
  go_enter Tryz.func92, Tryz.ntmps92
  go_wp2_with fail
  refine c1.mono ?_
  rintro r w1 ⟨rfl, hr1, hk1⟩
  clear c1
  have HK : Hid (_ ∧ _) := ⟨hr1, hk1⟩
  clear hr1 hk1
  go_wp2
  go_ret
  exact ⟨rfl, HK.out.1, HK.out.2⟩

set_option maxHeartbeats 1000000 in
theorem wants_no (rb : Nat) (ws : List Wd.Word) (i : Nat) (e : Int) (c : UInt8) (s : ByteArray) (hs : s.data.toList = [c]) (w : World) (h : Rdr w rb ws i e) (hm : Ps.isMark ws i c = false) :
    Calls Tryz.prog 92 #[.pointer (some ⟨rb, 0, none⟩), .string s] w fun r w' => ∃ y : Int, r = .returned (.iface 69 (.agg #[.int .i64 y])) ∧ Kept (But rb) w w' := by
  have c1 := has82 rb ws i e c s hs w h
  rw [isM_eq, hm] at c1
  clear hm
  go_enter Tryz.func92, Tryz.ntmps92
  go_wp2_with fail
  refine c1.mono ?_
  rintro r w1 ⟨rfl, hr1, hk1⟩
  clear c1
  have c2 := misfit53 rb ws i e w1 hr1
  have HK : Hid (Kept (But rb) w w1) := hk1
  clear hr1 hk1
  go_wp2_with fail
  refine c2.mono ?_
  rintro r w2 ⟨y, rfl, hb2⟩
  clear c2
  go_wp2
  go_ret
  exact ⟨y, rfl, HK.out.trans (Kept.of_below hb2)⟩

/-- An error, in one part more. -/
theorem within_some (p : ByteArray) (n : Nat) (v : Value) (w : World) (h : Mis n v) : Calls Tryz.prog 51 #[.string p, v] w fun r w' => (∃ v', r = .returned v' ∧ Mis (n + 1) v') ∧ w' = w := by
  obtain ⟨T, x, rfl⟩ := h.iface
  go_enter Tryz.func51, Tryz.ntmps51
  go_wp2
  go_ret
  exact ⟨⟨_, rfl, p, _, rfl, h⟩, rfl⟩

theorem within_none (p : ByteArray) (w : World) : Calls Tryz.prog 51 #[.string p, .nilIface] w fun r w' => r = .returned .nilIface ∧ w' = w := by
  go_enter Tryz.func51, Tryz.ntmps51
  go_wp2
  go_ret
  exact ⟨rfl, rfl⟩

end Go.Proofs.YtdeojcodbojmoaaGreatDoor
namespace Go.Proofs.YtdeojcodbojmoaaGreatDoor
open Go.RowKit
set_option maxRecDepth 100000
set_option linter.unusedVariables false

theorem within_one (p : ByteArray) (T : TypeId) (x : Value) (w : World) : Calls Tryz.prog 51 #[.string p, .iface T x] w fun r w' => r = .returned (.iface 124 (.agg #[.string p, .iface T x])) ∧ w' = w := by
  go_enter Tryz.func51, Tryz.ntmps51
  go_wp2
  go_ret
  exact ⟨rfl, rfl⟩

/-- The result's own block stands as it was laid. -/
structure At (w : World) (rb : Nat) (W : World) : Prop where
  z : ∀ o, W.cell? ⟨w.heap.size, o, none⟩ = (#[.int .i64 0, .int .i64 0, .int .i64 0, .int .i64 0, .string ⟨#[]⟩, .slice none 0 0] : Array Value)[o]?
  f : ∀ o, W.frozen? ⟨w.heap.size, o, none⟩ = false
  s : w.heap.size < W.heap.size
  k : Kept (But rb) w W

theorem At.start (w : World) (rb : Nat) : At w rb (w.alloc (.cells #[.int .i64 0, .int .i64 0, .int .i64 0, .int .i64 0, .string ⟨#[]⟩, .slice none 0 0] 53)) :=
  ⟨fun o => by simp, fun o => by simp, by simp, (Kept.refl _ w).alloc _⟩

theorem At.step {w W W' : World} {rb : Nat} (h : At w rb W) (hlt : rb < w.heap.size) (k : Kept (But rb) W W') : At w rb W' :=
  ⟨fun o => (k.cell h.s (by unfold But; omega)).trans (h.z o), fun o => (k.frozen h.s (by unfold But; omega)).trans (h.f o), Nat.lt_of_lt_of_le h.s k.size, h.k.trans k⟩

theorem kept_six {P : Nat → Prop} {w w' : World} (h : Kept P w w') {u0 u1 u2 u3 u4 u5 : Value} : Kept P w ((((((w'.setCell ⟨w.heap.size, 0, none⟩ u0).setCell ⟨w.heap.size, 1, none⟩ u1).setCell ⟨w.heap.size, 2, none⟩ u2).setCell ⟨w.heap.size, 3, none⟩ u3).setCell ⟨w.heap.size, 4, none⟩ u4).setCell ⟨w.heap.size, 5, none⟩ u5) := by
  have f : ∀ o : Nat, ∀ k, k < w.heap.size → P k → k ≠ (⟨w.heap.size, o, none⟩ : Addr).block := fun o k hk _ => by show k ≠ w.heap.size; omega
  exact (((((h.setCell (f 0) u0).setCell (f 1) u1).setCell (f 2) u2).setCell (f 3) u3).setCell (f 4) u4).setCell (f 5) u5

/-- The end of the first and the last number of a range. -/
theorem Mis.one {n : Nat} {T : TypeId} {x : Value} (h : Mis n (.iface T x)) (p : ByteArray) : Mis (n + 1) (.iface 124 (.agg #[.string p, .iface T x])) := ⟨p, _, rfl, h⟩
theorem mis_zero (y : Int) : Mis 0 (.iface 69 (.agg #[.int .i64 y])) := ⟨y, rfl⟩

set_option maxHeartbeats 1000000 in
theorem ends_no1 (rb : Nat) (ws : List Wd.Word) (p : Nat) (e : Int) (w : World) (hg : Ps.Goods ws) (h : Rdr w rb ws p e) (h1 : Ps.num ws p 100 = none) :
    Calls Tryz.prog 100 #[.pointer (some ⟨rb, 0, none⟩)] w fun r w' => ∃ (x y : Int) (m : Nat) (T : TypeId) (v : Value), r = .returned (.tuple #[.int .i64 x, .int .i64 y, .iface T v]) ∧ Mis m (.iface T v) ∧ Kept (But rb) w w' := by
  have c1 := number_no rb ws p e 0 99 w h (fun a ha => by rw [show ((99 : Int) + 1) = 100 from rfl, h1] at ha; cases ha)
  clear h1 hg
  go_enter Tryz.func100, Tryz.ntmps100
  go_wp2_with fail
  refine c1.mono ?_
  rintro r w1 ⟨y, rfl, hb1⟩
  clear c1
  go_wp2_with fail
  refine (within_one _ _ _ _).mono ?_
  rintro r w2 ⟨rfl, rfl⟩
  go_wp2
  refine bodyPost_ret (v := .tuple #[.int .i64 0, .int .i64 0, _]) (by simp [results, Tryz.results100, go_sem] <;> rfl) rfl ⟨_, _, _, _, _, rfl, (mis_zero y).one _, Kept.of_below hb1⟩

set_option maxHeartbeats 1000000 in
theorem ends_no2 (rb : Nat) (ws : List Wd.Word) (p : Nat) (e : Int) (w : World) (hg : Ps.Goods ws) (h : Rdr w rb ws p e) (a : Int) (h1 : Ps.num ws p 100 = some a) (h2 : Ps.isMark ws (p + 1) 45 = false) :
    Calls Tryz.prog 100 #[.pointer (some ⟨rb, 0, none⟩)] w fun r w' => ∃ (x y : Int) (m : Nat) (T : TypeId) (v : Value), r = .returned (.tuple #[.int .i64 x, .int .i64 y, .iface T v]) ∧ Mis m (.iface T v) ∧ Kept (But rb) w w' := by
  have c1 := number_yes rb ws p e a 0 99 w h h1 (Ps.num_some hg h1).2.1
  have c2 := fun w' (h' : Rdr w' rb ws (p + 1) e) => wants_no rb ws (p + 1) e 45 ⟨#[45]⟩ rfl w' h' h2
  clear h1 h2 hg
  go_enter Tryz.func100, Tryz.ntmps100
  go_wp2_with fail
  refine c1.mono ?_
  rintro r w1 ⟨rfl, hr1, hk1⟩
  clear c1
  have c2 := c2 w1 hr1
  have HK : Hid (Kept (But rb) w w1) := hk1
  clear hr1 hk1
  go_wp2_with fail
  refine c2.mono ?_
  rintro r w2 ⟨y, rfl, hk2⟩
  clear c2
  go_wp2
  refine bodyPost_ret (v := .tuple #[.int .i64 0, .int .i64 0, _]) (by simp [results, Tryz.results100, go_sem] <;> rfl) rfl ⟨_, _, _, _, _, rfl, mis_zero y, HK.out.trans hk2⟩

set_option maxHeartbeats 1000000 in
theorem ends_no3 (rb : Nat) (ws : List Wd.Word) (p : Nat) (e : Int) (w : World) (hg : Ps.Goods ws) (h : Rdr w rb ws p e) (a : Int) (h1 : Ps.num ws p 100 = some a) (h2 : Ps.isMark ws (p + 1) 45 = true) (h3 : ∀ b, Ps.num ws (p + 1 + 1) 100 = some b → b < a) :
    Calls Tryz.prog 100 #[.pointer (some ⟨rb, 0, none⟩)] w fun r w' => ∃ (x y : Int) (m : Nat) (T : TypeId) (v : Value), r = .returned (.tuple #[.int .i64 x, .int .i64 y, .iface T v]) ∧ Mis m (.iface T v) ∧ Kept (But rb) w w' := by
  have c1 := number_yes rb ws p e a 0 99 w h h1 (Ps.num_some hg h1).2.1
  have c2 := fun w' (h' : Rdr w' rb ws (p + 1) e) => wants_yes rb ws (p + 1) e 45 ⟨#[45]⟩ rfl w' h' h2
  have c3 := fun w' (h' : Rdr w' rb ws (p + 1 + 1) e) => number_no rb ws (p + 1 + 1) e a 99 w' h' h3
  clear h1 h2 h3 hg
  go_enter Tryz.func100, Tryz.ntmps100
  go_wp2_with fail
  refine c1.mono ?_
  rintro r w1 ⟨rfl, hr1, hk1⟩
  clear c1
  have c2 := c2 w1 hr1
  have HK : Hid (Kept (But rb) w w1) := hk1
  clear hr1 hk1
  go_wp2_with fail
  refine c2.mono ?_
  rintro r w2 ⟨rfl, hr2, hk2⟩
  clear c2
  have c3 := c3 w2 hr2
  have HK2 : Hid (Kept (But rb) w w2) := HK.out.trans hk2
  clear hr2 hk2
  go_wp2_with fail
  refine c3.mono ?_
  rintro r w3 ⟨y, rfl, hb3⟩
  clear c3
  go_wp2_with fail
  refine (within_one _ _ _ _).mono ?_
  rintro r w4 ⟨rfl, rfl⟩
  go_wp2
  refine bodyPost_ret (v := .tuple #[.int .i64 a, .int .i64 0, _]) (by simp [results, Tryz.results100, go_sem] <;> rfl) rfl ⟨_, _, _, _, _, rfl, (mis_zero y).one _, HK2.out.trans (Kept.of_below hb3)⟩

set_option maxHeartbeats 1000000 in
theorem ends_yes (rb : Nat) (ws : List Wd.Word) (p : Nat) (e : Int) (w : World) (hg : Ps.Goods ws) (h : Rdr w rb ws p e) (a b : Int) (h1 : Ps.num ws p 100 = some a) (h2 : Ps.isMark ws (p + 1) 45 = true) (h3 : Ps.num ws (p + 1 + 1) 100 = some b) (h4 : a ≤ b) :
    Calls Tryz.prog 100 #[.pointer (some ⟨rb, 0, none⟩)] w fun r w' => r = .returned (.tuple #[.int .i64 a, .int .i64 b, .nilIface]) ∧ Rdr w' rb ws (p + 1 + 1 + 1) e ∧ Kept (But rb) w w' := by
  have c1 := number_yes rb ws p e a 0 99 w h h1 (Ps.num_some hg h1).2.1
  have c2 := fun w' (h' : Rdr w' rb ws (p + 1) e) => wants_yes rb ws (p + 1) e 45 ⟨#[45]⟩ rfl w' h' h2
  have c3 := fun w' (h' : Rdr w' rb ws (p + 1 + 1) e) => number_yes rb ws (p + 1 + 1) e b a 99 w' h' h3 h4
  clear h1 h2 h3 h4 hg
  go_enter Tryz.func100, Tryz.ntmps100
  go_wp2_with fail
  refine c1.mono ?_
  rintro r w1 ⟨rfl, hr1, hk1⟩
  clear c1
  have c2 := c2 w1 hr1
  have HK : Hid (Kept (But rb) w w1) := hk1
  clear hr1 hk1
  go_wp2_with fail
  refine c2.mono ?_
  rintro r w2 ⟨rfl, hr2, hk2⟩
  clear c2
  have c3 := c3 w2 hr2
  have HK2 : Hid (Kept (But rb) w w2) := HK.out.trans hk2
  clear hr2 hk2
  go_wp2_with fail
  refine c3.mono ?_
  rintro r w3 ⟨rfl, hr3, hk3⟩
  clear c3
  have HK3 : Hid (Rdr w3 rb ws (p + 1 + 1 + 1) e ∧ Kept (But rb) w w3) := ⟨hr3, HK2.out.trans hk3⟩
  clear hr3 hk3
  go_wp2_with fail
  refine (within_none _ _).mono ?_
  rintro r w4 ⟨rfl, rfl⟩
  go_wp2
  refine bodyPost_ret (v := .tuple #[.int .i64 a, .int .i64 b, .nilIface]) (by simp [results, Tryz.results100, go_sem]) rfl ⟨rfl, HK3.out⟩

/-- What reading a filter, or a part of one, tells. -/
def PR (rb : Nat) (ws : List Wd.Word) (e : Int) (o : Option (Ps.Ft × Nat)) (w : World) (r : Ending) (w' : World) : Prop := match o with
  | some (f, q) => ∃ o k l h t x n, r = .returned (.tuple #[.agg #[.int .i64 o, .int .i64 k, .int .i64 l, .int .i64 h, .string t, .slice x n n], .nilIface]) ∧ Lies (Past w.heap.size) w' f o k l h t x n ∧ Rdr w' rb ws q e ∧ Kept (But rb) w w'
  | none => ∃ o k l h t x n m T v, r = .returned (.tuple #[.agg #[.int .i64 o, .int .i64 k, .int .i64 l, .int .i64 h, .string t, .slice x n n], .iface T v]) ∧ Mis m (.iface T v) ∧ Kept (But rb) w w'

theorem below_six {w W : World} {rb : Nat} (hlt : rb < w.heap.size) {u0 u1 u2 u3 u4 u5 : Value} : Below (rb + 1) W ((((((W.setCell ⟨w.heap.size, 0, none⟩ u0).setCell ⟨w.heap.size, 1, none⟩ u1).setCell ⟨w.heap.size, 2, none⟩ u2).setCell ⟨w.heap.size, 3, none⟩ u3).setCell ⟨w.heap.size, 4, none⟩ u4).setCell ⟨w.heap.size, 5, none⟩ u5) :=
  ((((((Below.refl _ W).setCell (p := ⟨w.heap.size, 0, none⟩) hlt u0).setCell (p := ⟨w.heap.size, 1, none⟩) hlt u1).setCell (p := ⟨w.heap.size, 2, none⟩) hlt u2).setCell (p := ⟨w.heap.size, 3, none⟩) hlt u3).setCell (p := ⟨w.heap.size, 4, none⟩) hlt u4).setCell (p := ⟨w.heap.size, 5, none⟩) hlt u5

set_option maxHeartbeats 2000000 in
theorem attr_no1 (rb : Nat) (ws : List Wd.Word) (p : Nat) (e : Int) (w : World) (hg : Ps.Goods ws) (h : Rdr w rb ws p e) (h1 : Ps.num ws p 4 = none) : Calls Tryz.prog 90 #[.pointer (some ⟨rb, 0, none⟩)] w (PR rb ws e none w) := by
  have hlt := h.lt
  have h0 : Rdr (w.alloc (.cells #[.int .i64 0, .int .i64 0, .int .i64 0, .int .i64 0, .string ⟨#[]⟩, .slice none 0 0] 53)) rb ws p e := h.below ((Below.refl _ w).alloc hlt _)
  have c1 := number_no rb ws p e 0 3 _ h0 (fun a ha => by rw [show ((3 : Int) + 1) = 4 from rfl, h1] at ha; cases ha)
  clear h1 hg h0
  unfold PR
  go_enter Tryz.func90, Tryz.ntmps90
  go_wp2_with fail
  refine c1.mono ?_
  rintro r w1 ⟨y, rfl, hb1⟩
  clear c1
  have HA : Hid (At w rb w1) := (At.start w rb).step hlt (Kept.of_below hb1)
  clear hb1
  go_wp2_with fail
  refine (within_one _ _ _ _).mono ?_
  rintro r w2 ⟨rfl, rfl⟩
  have z1 := HA.out.z
  have f1 := HA.out.f
  have s1 := HA.out.s
  go_wp2
  refine bodyPost_ret (v := .tuple #[.agg #[.int .i64 0, .int .i64 0, .int .i64 0, .int .i64 0, .string ⟨#[]⟩, .slice none 0 0], _]) (by simp [results, Tryz.results90, go_sem, z1] <;> rfl) rfl ⟨0, 0, 0, 0, ⟨#[]⟩, none, 0, _, _, _, rfl, (mis_zero y).one _, kept_six HA.out.k⟩

set_option maxHeartbeats 2000000 in
theorem attr_no2 (rb : Nat) (ws : List Wd.Word) (p : Nat) (e : Int) (w : World) (hg : Ps.Goods ws) (h : Rdr w rb ws p e) (k : Int) (h1 : Ps.num ws p 4 = some k) (h2 : Ps.isMark ws (p + 1) 58 = false) (h3 : Ps.isMark ws (p + 1) 61 = false) : Calls Tryz.prog 90 #[.pointer (some ⟨rb, 0, none⟩)] w (PR rb ws e none w) := by
  have hlt := h.lt
  have h0 : Rdr (w.alloc (.cells #[.int .i64 0, .int .i64 0, .int .i64 0, .int .i64 0, .string ⟨#[]⟩, .slice none 0 0] 53)) rb ws p e := h.below ((Below.refl _ w).alloc hlt _)
  have c1 := number_yes rb ws p e k 0 3 _ h0 h1 (Ps.num_some hg h1).2.1
  have c2 := fun w' (h' : Rdr w' rb ws (p + 1) e) => has82 rb ws (p + 1) e 58 ⟨#[58]⟩ rfl w' h'
  rw [isM_eq, h2] at c2
  simp only [Bool.false_eq_true, if_false] at c2
  have c3 := fun w' (h' : Rdr w' rb ws (p + 1) e) => wants_no rb ws (p + 1) e 61 ⟨#[61]⟩ rfl w' h' h3
  clear h1 h2 h3 hg h0
  unfold PR
  go_enter Tryz.func90, Tryz.ntmps90
  go_wp2_with fail
  refine c1.mono ?_
  rintro r w1 ⟨rfl, hr1, hk1⟩
  clear c1
  have c2 := c2 w1 hr1
  have HA1 : Hid (At w rb w1) := (At.start w rb).step hlt hk1
  clear hr1 hk1
  go_wp2_with fail
  refine c2.mono ?_
  rintro r w2 ⟨rfl, hr2, hk2⟩
  clear c2
  have c3 := c3 w2 hr2
  have HA2 : Hid (At w rb w2) := HA1.out.step hlt hk2
  clear hr2 hk2 HA1
  go_wp2_with fail
  refine c3.mono ?_
  rintro r w3 ⟨y, rfl, hk3⟩
  clear c3
  have HA : Hid (At w rb w3) := HA2.out.step hlt hk3
  clear hk3 HA2
  have z1 := HA.out.z
  have f1 := HA.out.f
  have s1 := HA.out.s
  go_wp2
  refine bodyPost_ret (v := .tuple #[.agg #[.int .i64 0, .int .i64 0, .int .i64 0, .int .i64 0, .string ⟨#[]⟩, .slice none 0 0], _]) (by simp [results, Tryz.results90, go_sem, z1] <;> rfl) rfl ⟨0, 0, 0, 0, ⟨#[]⟩, none, 0, _, _, _, rfl, mis_zero y, kept_six HA.out.k⟩

set_option maxHeartbeats 2000000 in
theorem attr_eq (rb : Nat) (ws : List Wd.Word) (p : Nat) (e : Int) (w : World) (hg : Ps.Goods ws) (h : Rdr w rb ws p e) (k a : Int) (h1 : Ps.num ws p 4 = some k) (h2 : Ps.isMark ws (p + 1) 58 = false) (h3 : Ps.isMark ws (p + 1) 61 = true) (h4 : Ps.num ws (p + 1 + 1) 100 = some a) : Calls Tryz.prog 90 #[.pointer (some ⟨rb, 0, none⟩)] w (PR rb ws e (some (.leaf 2 k a a ⟨#[]⟩, p + 1 + 1 + 1)) w) := by
  have hlt := h.lt
  have h0 : Rdr (w.alloc (.cells #[.int .i64 0, .int .i64 0, .int .i64 0, .int .i64 0, .string ⟨#[]⟩, .slice none 0 0] 53)) rb ws p e := h.below ((Below.refl _ w).alloc hlt _)
  have c1 := number_yes rb ws p e k 0 3 _ h0 h1 (Ps.num_some hg h1).2.1
  have c2 := fun w' (h' : Rdr w' rb ws (p + 1) e) => has82 rb ws (p + 1) e 58 ⟨#[58]⟩ rfl w' h'
  rw [isM_eq, h2] at c2
  simp only [Bool.false_eq_true, if_false] at c2
  have c3 := fun w' (h' : Rdr w' rb ws (p + 1) e) => wants_yes rb ws (p + 1) e 61 ⟨#[61]⟩ rfl w' h' h3
  have c4 := fun w' (h' : Rdr w' rb ws (p + 1 + 1) e) => number_yes rb ws (p + 1 + 1) e a 0 99 w' h' h4 (Ps.num_some hg h4).2.1
  clear h1 h2 h3 h4 hg h0
  unfold PR
  go_enter Tryz.func90, Tryz.ntmps90
  go_wp2_with fail
  refine c1.mono ?_
  rintro r w1 ⟨rfl, hr1, hk1⟩
  clear c1
  have c2 := c2 w1 hr1
  have HA1 : Hid (At w rb w1) := (At.start w rb).step hlt hk1
  clear hr1 hk1
  go_wp2_with fail
  refine c2.mono ?_
  rintro r w2 ⟨rfl, hr2, hk2⟩
  clear c2
  have HA2 : Hid (At w rb w2) := HA1.out.step hlt hk2
  clear hk2 HA1
  have c3 := c3 w2 hr2
  clear hr2
  go_wp2_with fail
  refine c3.mono ?_
  rintro r w3 ⟨rfl, hr3, hk3⟩
  clear c3
  have HA3 : Hid (At w rb w3) := HA2.out.step hlt hk3
  clear hk3 HA2
  have c4 := c4 w3 hr3
  clear hr3
  go_wp2_with fail
  refine c4.mono ?_
  rintro r w4 ⟨rfl, hr4, hk4⟩
  clear c4
  have HA : Hid (At w rb w4) := HA3.out.step hlt hk4
  have HR : Hid (Rdr w4 rb ws (p + 1 + 1 + 1) e) := hr4
  clear hk4 hr4 HA3
  go_wp2_with fail
  refine (within_none _ _).mono ?_
  rintro r w5 ⟨rfl, rfl⟩
  have z1 := HA.out.z
  have f1 := HA.out.f
  have s1 := HA.out.s
  go_wp2
  refine bodyPost_ret (v := .tuple #[.agg #[.int .i64 2, .int .i64 k, .int .i64 a, .int .i64 a, .string ⟨#[]⟩, .slice none 0 0], .nilIface]) (by simp [results, Tryz.results90, go_sem, z1]) rfl ⟨2, k, a, a, ⟨#[]⟩, none, 0, rfl, ⟨rfl, rfl, rfl, rfl, rfl, rfl, rfl⟩, HR.out.below (below_six hlt), kept_six HA.out.k⟩

set_option maxHeartbeats 2000000 in
theorem attr_eq_no (rb : Nat) (ws : List Wd.Word) (p : Nat) (e : Int) (w : World) (hg : Ps.Goods ws) (h : Rdr w rb ws p e) (k : Int) (h1 : Ps.num ws p 4 = some k) (h2 : Ps.isMark ws (p + 1) 58 = false) (h3 : Ps.isMark ws (p + 1) 61 = true) (h4 : Ps.num ws (p + 1 + 1) 100 = none) : Calls Tryz.prog 90 #[.pointer (some ⟨rb, 0, none⟩)] w (PR rb ws e none w) := by
  have hlt := h.lt
  have h0 : Rdr (w.alloc (.cells #[.int .i64 0, .int .i64 0, .int .i64 0, .int .i64 0, .string ⟨#[]⟩, .slice none 0 0] 53)) rb ws p e := h.below ((Below.refl _ w).alloc hlt _)
  have c1 := number_yes rb ws p e k 0 3 _ h0 h1 (Ps.num_some hg h1).2.1
  have c2 := fun w' (h' : Rdr w' rb ws (p + 1) e) => has82 rb ws (p + 1) e 58 ⟨#[58]⟩ rfl w' h'
  rw [isM_eq, h2] at c2
  simp only [Bool.false_eq_true, if_false] at c2
  have c3 := fun w' (h' : Rdr w' rb ws (p + 1) e) => wants_yes rb ws (p + 1) e 61 ⟨#[61]⟩ rfl w' h' h3
  have c4 := fun w' (h' : Rdr w' rb ws (p + 1 + 1) e) => number_no rb ws (p + 1 + 1) e 0 99 w' h' (fun a ha => by rw [show ((99 : Int) + 1) = 100 from rfl, h4] at ha; cases ha)
  clear h1 h2 h3 h4 hg h0
  unfold PR
  go_enter Tryz.func90, Tryz.ntmps90
  go_wp2_with fail
  refine c1.mono ?_
  rintro r w1 ⟨rfl, hr1, hk1⟩
  clear c1
  have c2 := c2 w1 hr1
  have HA1 : Hid (At w rb w1) := (At.start w rb).step hlt hk1
  clear hr1 hk1
  go_wp2_with fail
  refine c2.mono ?_
  rintro r w2 ⟨rfl, hr2, hk2⟩
  clear c2
  have HA2 : Hid (At w rb w2) := HA1.out.step hlt hk2
  clear hk2 HA1
  have c3 := c3 w2 hr2
  clear hr2
  go_wp2_with fail
  refine c3.mono ?_
  rintro r w3 ⟨rfl, hr3, hk3⟩
  clear c3
  have HA3 : Hid (At w rb w3) := HA2.out.step hlt hk3
  clear hk3 HA2
  have c4 := c4 w3 hr3
  clear hr3
  go_wp2_with fail
  refine c4.mono ?_
  rintro r w4 ⟨y, rfl, hb4⟩
  clear c4
  have HA : Hid (At w rb w4) := HA3.out.step hlt (Kept.of_below hb4)
  clear hb4 HA3
  go_wp2_with fail
  refine (within_one _ _ _ _).mono ?_
  rintro r w5 ⟨rfl, rfl⟩
  have z1 := HA.out.z
  have f1 := HA.out.f
  have s1 := HA.out.s
  go_wp2
  refine bodyPost_ret (v := .tuple #[.agg #[.int .i64 2, .int .i64 k, .int .i64 0, .int .i64 0, .string ⟨#[]⟩, .slice none 0 0], _]) (by simp [results, Tryz.results90, go_sem, z1] <;> rfl) rfl ⟨2, k, 0, 0, ⟨#[]⟩, none, 0, _, _, _, rfl, (mis_zero y).one _, kept_six HA.out.k⟩

set_option maxHeartbeats 2000000 in
theorem attr_range (rb : Nat) (ws : List Wd.Word) (p : Nat) (e : Int) (w : World) (hg : Ps.Goods ws) (h : Rdr w rb ws p e) (k a b : Int) (h1 : Ps.num ws p 4 = some k) (h2 : Ps.isMark ws (p + 1) 58 = true) (h3 : Ps.num ws (p + 1 + 1) 100 = some a) (h4 : Ps.isMark ws (p + 1 + 1 + 1) 45 = true) (h5 : Ps.num ws (p + 1 + 1 + 1 + 1) 100 = some b) (h6 : a ≤ b) : Calls Tryz.prog 90 #[.pointer (some ⟨rb, 0, none⟩)] w (PR rb ws e (some (.leaf 3 k a b ⟨#[]⟩, p + 1 + 1 + 1 + 1 + 1)) w) := by
  have hlt := h.lt
  have h0 : Rdr (w.alloc (.cells #[.int .i64 0, .int .i64 0, .int .i64 0, .int .i64 0, .string ⟨#[]⟩, .slice none 0 0] 53)) rb ws p e := h.below ((Below.refl _ w).alloc hlt _)
  have c1 := number_yes rb ws p e k 0 3 _ h0 h1 (Ps.num_some hg h1).2.1
  have c2 := fun w' (h' : Rdr w' rb ws (p + 1) e) => has82 rb ws (p + 1) e 58 ⟨#[58]⟩ rfl w' h'
  rw [isM_eq, h2] at c2
  simp only [if_true] at c2
  have c3 := fun w' (h' : Rdr w' rb ws (p + 1 + 1) e) => ends_yes rb ws (p + 1 + 1) e w' hg h' a b h3 h4 h5 h6
  clear h1 h2 h3 h4 h5 h6 hg h0
  unfold PR
  go_enter Tryz.func90, Tryz.ntmps90
  go_wp2_with fail
  refine c1.mono ?_
  rintro r w1 ⟨rfl, hr1, hk1⟩
  clear c1
  have c2 := c2 w1 hr1
  have HA1 : Hid (At w rb w1) := (At.start w rb).step hlt hk1
  clear hr1 hk1
  go_wp2_with fail
  refine c2.mono ?_
  rintro r w2 ⟨rfl, hr2, hk2⟩
  clear c2
  have HA2 : Hid (At w rb w2) := HA1.out.step hlt hk2
  clear hk2 HA1
  have c3 := c3 w2 hr2
  clear hr2
  go_wp2_with fail
  refine c3.mono ?_
  rintro r w3 ⟨rfl, hr3, hk3⟩
  clear c3
  have HA : Hid (At w rb w3) := HA2.out.step hlt hk3
  have HR : Hid (Rdr w3 rb ws (p + 1 + 1 + 1 + 1 + 1) e) := hr3
  clear hk3 hr3 HA2
  go_wp2_with fail
  refine (within_none _ _).mono ?_
  rintro r w5 ⟨rfl, rfl⟩
  have z1 := HA.out.z
  have f1 := HA.out.f
  have s1 := HA.out.s
  go_wp2
  refine bodyPost_ret (v := .tuple #[.agg #[.int .i64 3, .int .i64 k, .int .i64 a, .int .i64 b, .string ⟨#[]⟩, .slice none 0 0], .nilIface]) (by simp [results, Tryz.results90, go_sem, z1]) rfl ⟨3, k, a, b, ⟨#[]⟩, none, 0, rfl, ⟨rfl, rfl, rfl, rfl, rfl, rfl, rfl⟩, HR.out.below (below_six hlt), kept_six HA.out.k⟩

set_option maxHeartbeats 2000000 in
theorem attr_range_no (rb : Nat) (ws : List Wd.Word) (p : Nat) (e : Int) (w : World) (hg : Ps.Goods ws) (h : Rdr w rb ws p e) (k : Int) (h1 : Ps.num ws p 4 = some k) (h2 : Ps.isMark ws (p + 1) 58 = true) (c3 : ∀ w, Rdr w rb ws (p + 1 + 1) e → Calls Tryz.prog 100 #[.pointer (some ⟨rb, 0, none⟩)] w fun r w' => ∃ (x y : Int) (m : Nat) (T : TypeId) (v : Value), r = .returned (.tuple #[.int .i64 x, .int .i64 y, .iface T v]) ∧ Mis m (.iface T v) ∧ Kept (But rb) w w') : Calls Tryz.prog 90 #[.pointer (some ⟨rb, 0, none⟩)] w (PR rb ws e none w) := by
  have hlt := h.lt
  have h0 : Rdr (w.alloc (.cells #[.int .i64 0, .int .i64 0, .int .i64 0, .int .i64 0, .string ⟨#[]⟩, .slice none 0 0] 53)) rb ws p e := h.below ((Below.refl _ w).alloc hlt _)
  have c1 := number_yes rb ws p e k 0 3 _ h0 h1 (Ps.num_some hg h1).2.1
  have c2 := fun w' (h' : Rdr w' rb ws (p + 1) e) => has82 rb ws (p + 1) e 58 ⟨#[58]⟩ rfl w' h'
  rw [isM_eq, h2] at c2
  simp only [if_true] at c2
  clear h1 h2 hg h0
  unfold PR
  go_enter Tryz.func90, Tryz.ntmps90
  go_wp2_with fail
  refine c1.mono ?_
  rintro r w1 ⟨rfl, hr1, hk1⟩
  clear c1
  have c2 := c2 w1 hr1
  have HA1 : Hid (At w rb w1) := (At.start w rb).step hlt hk1
  clear hr1 hk1
  go_wp2_with fail
  refine c2.mono ?_
  rintro r w2 ⟨rfl, hr2, hk2⟩
  clear c2
  have HA2 : Hid (At w rb w2) := HA1.out.step hlt hk2
  clear hk2 HA1
  have c3 := c3 w2 hr2
  clear hr2
  go_wp2_with fail
  refine c3.mono ?_
  rintro r w3 ⟨x, y, m, T, v, rfl, hm, hk3⟩
  clear c3
  have HA : Hid (At w rb w3) := HA2.out.step hlt hk3
  have HM : Hid (Mis m (.iface T v)) := hm
  clear hk3 HA2 hm
  go_wp2_with fail
  refine (within_one _ _ _ _).mono ?_
  rintro r w5 ⟨rfl, rfl⟩
  have z1 := HA.out.z
  have f1 := HA.out.f
  have s1 := HA.out.s
  go_wp2
  refine bodyPost_ret (v := .tuple #[.agg #[.int .i64 3, .int .i64 k, .int .i64 x, .int .i64 y, .string ⟨#[]⟩, .slice none 0 0], _]) (by simp [results, Tryz.results90, go_sem, z1] <;> rfl) rfl ⟨3, k, x, y, ⟨#[]⟩, none, 0, _, _, _, rfl, HM.out.one _, kept_six HA.out.k⟩

/-- What stands behind @. -/
theorem attribute90 (rb : Nat) (ws : List Wd.Word) (p : Nat) (e : Int) (w : World) (hg : Ps.Goods ws) (h : Rdr w rb ws p e) : Calls Tryz.prog 90 #[.pointer (some ⟨rb, 0, none⟩)] w (PR rb ws e (Ps.key ws p) w) := by
  unfold Ps.key
  cases h1 : Ps.num ws p 4 with
  | none => exact attr_no1 rb ws p e w hg h h1
  | some k =>
    simp only
    by_cases h61 : Ps.isMark ws (p + 1) 61 = true
    · rw [if_pos h61]
      have h58 := Ps.isMark_one (d := 58) h61 (by decide)
      cases h2 : Ps.num ws (p + 2) 100 with
      | none => exact attr_eq_no rb ws p e w hg h k h1 h58 h61 h2
      | some a => exact attr_eq rb ws p e w hg h k a h1 h58 h61 h2
    · rw [if_neg h61]
      have h61' : Ps.isMark ws (p + 1) 61 = false := by simpa using h61
      by_cases h58 : Ps.isMark ws (p + 1) 58 = true
      · rw [if_pos h58]
        cases h2 : Ps.num ws (p + 2) 100 with
        | none => exact attr_range_no rb ws p e w hg h k h1 h58 (fun w' h' => ends_no1 rb ws (p + 1 + 1) e w' hg h' h2)
        | some a =>
          simp only
          by_cases h45 : Ps.isMark ws (p + 3) 45 = true
          · rw [if_pos h45]
            cases h3 : Ps.num ws (p + 4) 100 with
            | none => exact attr_range_no rb ws p e w hg h k h1 h58 (fun w' h' => ends_no3 rb ws (p + 1 + 1) e w' hg h' a h2 h45 (fun b hb => by rw [show p + 1 + 1 + 1 + 1 = p + 4 from rfl, h3] at hb; cases hb))
            | some b =>
              simp only
              by_cases hab : a ≤ b
              · rw [if_pos hab]
                exact attr_range rb ws p e w hg h k a b h1 h58 h2 h45 h3 hab
              · rw [if_neg hab]
                exact attr_range_no rb ws p e w hg h k h1 h58 (fun w' h' => ends_no3 rb ws (p + 1 + 1) e w' hg h' a h2 h45 (fun b' hb => by rw [show p + 1 + 1 + 1 + 1 = p + 4 from rfl, h3] at hb; cases hb; omega))
          · rw [if_neg h45]
            exact attr_range_no rb ws p e w hg h k h1 h58 (fun w' h' => ends_no2 rb ws (p + 1 + 1) e w' hg h' a h2 (by simpa using h45))
      · rw [if_neg h58]
        exact attr_no2 rb ws p e w hg h k h1 (by simpa using h58) h61'

end Go.Proofs.YtdeojcodbojmoaaGreatDoor
