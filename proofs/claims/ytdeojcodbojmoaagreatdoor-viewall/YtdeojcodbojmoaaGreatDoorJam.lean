/- view does something: what begun asks. -/
/- view.Epochs of the two views that begun asks of. -/
/- view does something: begun. -/
import Derived.Test.YtdeojcodbojmoaaGreatDoorJal
import Derived.Test.YtdeojcodbojmoaaGreatDoorJaj
import Derived.Test.YtdeojcodbojmoaaGreatDoorJai
import Derived.Laws.MakeOwn
namespace Go.Proofs.YtdeojcodbojmoaaGreatDoor
open Go.RowKit
set_option maxRecDepth 100000
set_option linter.unusedVariables false

set_option maxHeartbeats 1000000 in
theorem allTimes28 (b x y : Nat) (w : World) (hx : x ≤ 1000000) (hy : y ≤ 1000000) (h0 : w.cell? ⟨b, 0, none⟩ = some (.int .i64 x)) (h1 : w.cell? ⟨b, 1, none⟩ = some (.int .i64 y)) : Calls Tryz.prog 28 #[.slice (some ⟨b, 0, none⟩) 2 2] w fun r w' => r = .returned (.bool true) ∧ w' = w := by
  have hlt : b < w.heap.size := World.block_lt_of_cell? w ⟨b, 0, none⟩ h0
  go_enter Tryz.func28, Tryz.ntmps28
  go_wp2_with fail
  refine wp_loop_rounds 3 ?_
  rw [rounds_succ]
  go_wp2_with fail
  refine (times26 _ _ (by omega) (by omega)).mono ?_
  rintro r w1 ⟨rfl, rfl⟩
  go_wp2_with fail
  rw [rounds_succ]
  go_wp2_with fail
  refine (times26 _ _ (by omega) (by omega)).mono ?_
  rintro r w1 ⟨rfl, rfl⟩
  go_wp2_with fail
  rw [rounds_succ]
  go_wp2
  go_ret
  exact ⟨rfl, rfl⟩

set_option maxHeartbeats 2000000 in
theorem may_yes (a : Addr) (b : Nat) (w : World) (hg : w.cell? ⟨0, 0, none⟩ = some (.iface 185 (.pointer (some a)))) (h0 : w.cell? ⟨b, 0, none⟩ = some (.int .i64 ((3 : Nat) : Int))) (h1 : w.cell? ⟨b, 1, none⟩ = some (.int .i64 ((0 : Nat) : Int))) :
    Calls Tryz.prog 12 #[.agg #[.int .i64 1, .int .i64 2, .string ⟨#[42]⟩, .slice none 0 0, .slice (some ⟨b, 0, none⟩) 2 2], .int .i64 2] w fun r w' => r = .returned (.bool true) ∧ Below w.heap.size w w' := by
  have hg0 : 0 < w.heap.size := World.block_lt_of_cell? w ⟨0, 0, none⟩ hg
  have hb0 : b < w.heap.size := World.block_lt_of_cell? w ⟨b, 0, none⟩ h0
  go_enter Tryz.func12, Tryz.ntmps12
  go_wp2_with fail
  refine (parse25 _).mono ?_
  rintro r w1 ⟨rfl, hb1⟩
  have hs1 : w.heap.size < w1.heap.size := by have := hb1.size; simp at this; omega
  have z1 : ∀ o, w1.cell? ⟨w.heap.size, o, none⟩ = (#[.int .i64 1, .int .i64 2, .string ⟨#[42]⟩, .slice none 0 0, .slice (some ⟨b, 0, none⟩) 2 2] : Array Value)[o]? := fun o => by rw [hb1.cell (p := ⟨w.heap.size, o, none⟩) (by simp)]; simp
  have o1 : ∀ k o, k < w.heap.size → w1.cell? ⟨k, o, none⟩ = w.cell? ⟨k, o, none⟩ := fun k o hk => by rw [hb1.cell (p := ⟨k, o, none⟩) (by simp; omega), World.cell?_alloc_past _ _ _ (hn := hk)]
  have HB1 : Hid (Below w.heap.size w w1) := ((Below.refl _ w).alloc (Nat.le_refl _) _).trans (hb1.mono (by simp))
  obtain ⟨U, hU⟩ : ∃ U, U = w1.alloc (.cells #[.int .i64 1, .int .i64 0, .int .i64 0, .int .i64 0, .string ⟨#[]⟩, .slice none 0 0] 53) := ⟨_, rfl⟩
  have hsU : w.heap.size < U.heap.size := by rw [hU]; simp; omega
  have zU : ∀ o, U.cell? ⟨w.heap.size, o, none⟩ = (#[.int .i64 1, .int .i64 2, .string ⟨#[42]⟩, .slice none 0 0, .slice (some ⟨b, 0, none⟩) 2 2] : Array Value)[o]? := fun o => by rw [hU, World.cell?_alloc_past _ _ _ (hn := hs1)]; exact z1 o
  have oU : ∀ k o, k < w.heap.size → U.cell? ⟨k, o, none⟩ = w.cell? ⟨k, o, none⟩ := fun k o hk => by rw [hU, World.cell?_alloc_past _ _ _ (hn := by omega)]; exact o1 k o hk
  have HU : Hid (Below w.heap.size w U ∧ U = w1.alloc (.cells #[.int .i64 1, .int .i64 0, .int .i64 0, .int .i64 0, .string ⟨#[]⟩, .slice none 0 0] 53)) := ⟨by rw [hU]; exact HB1.out.alloc HB1.out.size _, hU⟩
  clear hb1 o1 HB1 hU
  have c1 := times26 2 U (by decide) (by decide)
  have c2 := seen27 a U ((oU 0 0 hg0).trans hg)
  go_wp2_with fail
  rw [← HU.out.2]
  refine c1.mono ?_
  rintro r w2 ⟨rfl, rfl⟩
  go_wp2_with fail
  refine c2.mono ?_
  rintro r w3 ⟨rfl, hb3⟩
  clear c1 c2
  have z3 : ∀ o, w3.cell? ⟨w.heap.size, o, none⟩ = (#[.int .i64 1, .int .i64 2, .string ⟨#[42]⟩, .slice none 0 0, .slice (some ⟨b, 0, none⟩) 2 2] : Array Value)[o]? := fun o => (hb3.cell (p := ⟨w.heap.size, o, none⟩) hsU).trans (zU o)
  have c3 := allTimes28 b 3 0 w3 (by decide) (by decide) ((hb3.cell (p := ⟨b, 0, none⟩) (by show b < _; omega)).trans ((oU b 0 hb0).trans h0)) ((hb3.cell (p := ⟨b, 1, none⟩) (by show b < _; omega)).trans ((oU b 1 hb0).trans h1))
  have HB3 : Hid (Below w.heap.size w w3) := HU.out.1.trans (hb3.mono HU.out.1.size)
  clear zU oU hb3 HU z1
  go_wp2_with fail
  refine c3.mono ?_
  rintro r w4 ⟨rfl, rfl⟩
  clear c3
  go_wp2
  go_ret
  exact ⟨rfl, HB3.out⟩

set_option maxHeartbeats 1000000 in
theorem may_no (w : World) : Calls Tryz.prog 12 #[.agg #[.int .i64 0, .int .i64 0, .string ⟨#[]⟩, .slice none 0 0, .slice none 0 0], .int .i64 2] w fun r w' => r = .returned (.bool false) ∧ Below w.heap.size w w' := by
  go_enter Tryz.func12, Tryz.ntmps12
  go_wp2
  go_ret
  exact ⟨rfl, (Below.refl _ _).alloc (Nat.le_refl _) _⟩

end Go.Proofs.YtdeojcodbojmoaaGreatDoor
namespace Go.Proofs.YtdeojcodbojmoaaGreatDoor
open Go.RowKit
set_option maxRecDepth 100000
set_option linter.unusedVariables false

theorem make2 (W : World) : (Instr.makeSlice 23 (.int .i64 2) (.int .i64 2)).run Tryz.prog W = .ok (.slice (some ⟨W.heap.size, 0, none⟩) 2 2) (W.alloc (.cells #[.int .i64 0, .int .i64 0] 3)) := by
  obtain ⟨i0, hi, hz0, hz1, hz2⟩ := info_parts Tryz.info3
  have h := run_make (P := Tryz.prog) W 23 3 i0 (.int .i64 0) Tryz.underlying23 hi hz0 .i64 .i64 2 2 (by omega) (by omega) (by rw [hz2]; decide) (by omega)
  have e : madeCells (Value.int .i64 0).cells (Int.toNat 2 * 1) = #[.int .i64 0, .int .i64 0] := by kernel_rfl
  rw [hz1, e] at h
  exact h

set_option maxHeartbeats 4000000 in
theorem epochs_begun (g oc eb eo ec : Nat) (x0 x1 y0 y1 : Int) (fx fy : ByteArray) (xa ya : Option Addr) (xn xc yn yc : Nat) (w : World) (hec : 2 ≤ ec)
    (p0 : w.cell? ⟨g, 0, none⟩ = some (.int .i64 x0)) (p1 : w.cell? ⟨g, 1, none⟩ = some (.int .i64 x1)) (p2 : w.cell? ⟨g, 2, none⟩ = some (.string fx)) (p3 : w.cell? ⟨g, 3, none⟩ = some (.slice xa xn xc)) (p4 : w.cell? ⟨g, 4, none⟩ = some (.slice (some ⟨eb, eo, none⟩) 2 ec))
    (q0 : w.cell? ⟨g, 5, none⟩ = some (.int .i64 y0)) (q1 : w.cell? ⟨g, 6, none⟩ = some (.int .i64 y1)) (q2 : w.cell? ⟨g, 7, none⟩ = some (.string fy)) (q3 : w.cell? ⟨g, 8, none⟩ = some (.slice ya yn yc)) (q4 : w.cell? ⟨g, 9, none⟩ = some (.slice none 0 0))
    (e0 : w.cell? ⟨eb, eo, none⟩ = some (.int .i64 3)) (e1 : w.cell? ⟨eb, eo + 1, none⟩ = some (.int .i64 1)) :
    Calls Tryz.prog 20 #[.slice (some ⟨g, 0, none⟩) 2 oc, .int .i64 2] w fun r w' => r = .returned (.slice (some ⟨w.heap.size, 0, none⟩) 2 2) ∧ w'.cell? ⟨w.heap.size, 0, none⟩ = some (.int .i64 3) ∧ w'.cell? ⟨w.heap.size, 1, none⟩ = some (.int .i64 1) ∧ Below w.heap.size w w' := by
  have hg : g < w.heap.size := World.block_lt_of_cell? w ⟨g, 0, none⟩ p0
  have he : eb < w.heap.size := World.block_lt_of_cell? w ⟨eb, eo, none⟩ e0
  have hmk := make2
  go_enter Tryz.func20, Tryz.ntmps20
  go_wp2_with fail
  refine wp_loop_rounds 3 ?_
  rw [rounds_succ]
  go_wp2_with fail
  refine wp_loop_rounds 3 ?_
  rw [rounds_succ]
  go_wp2_with fail
  rw [rounds_succ]
  go_wp2_with fail
  rw [rounds_succ]
  go_wp2_with fail
  rw [rounds_succ]
  go_wp2_with fail
  refine wp_loop_rounds 1 ?_
  rw [rounds_succ]
  go_wp2_with fail
  rw [rounds_succ]
  go_wp2
  go_ret
  refine ⟨rfl, ?_, ?_, ?_⟩
  · rw [World.cell?_alloc_past _ _ _ (hn := by simp <;> omega), World.cell?_alloc_past _ _ _ (hn := by simp), World.cell?_alloc_at _ _ _ _ rfl]; rfl
  · rw [World.cell?_alloc_past _ _ _ (hn := by simp <;> omega), World.cell?_alloc_past _ _ _ (hn := by simp), World.cell?_alloc_at _ _ _ _ rfl]; rfl
  · exact (((Below.refl _ w).alloc (Nat.le_refl _) _).alloc (by simp) _).alloc (by simp <;> omega) _

end Go.Proofs.YtdeojcodbojmoaaGreatDoor
namespace Go.Proofs.YtdeojcodbojmoaaGreatDoor
open Go.RowKit
set_option maxRecDepth 100000
set_option linter.unusedVariables false

theorem six_alloc (w : World) (c0 c1 c2 c3 c4 c5 : Array Value) (t0 t1 t2 t3 t4 t5 : TypeId) (W : World) (hW : W = ((((((w.alloc (.cells c0 t0)).alloc (.cells c1 t1)).alloc (.cells c2 t2)).alloc (.cells c3 t3)).alloc (.cells c4 t4)).alloc (.cells c5 t5))) :
    (∀ i, W.cell? ⟨w.heap.size, i, none⟩ = c0[i]?) ∧ (∀ i, W.cell? ⟨w.heap.size + 1, i, none⟩ = c1[i]?) ∧ (∀ i, W.cell? ⟨w.heap.size + 1 + 1, i, none⟩ = c2[i]?) ∧ (∀ i, W.cell? ⟨w.heap.size + 1 + 1 + 1, i, none⟩ = c3[i]?) ∧ (∀ i, W.cell? ⟨w.heap.size + 1 + 1 + 1 + 1, i, none⟩ = c4[i]?) ∧ (∀ i, W.cell? ⟨w.heap.size + 1 + 1 + 1 + 1 + 1, i, none⟩ = c5[i]?) ∧ (∀ b i, b < w.heap.size → W.cell? ⟨b, i, none⟩ = w.cell? ⟨b, i, none⟩) ∧ W.heap.size = w.heap.size + 6 ∧ Below w.heap.size w W := by
  subst hW
  refine ⟨fun i => ?_, fun i => ?_, fun i => ?_, fun i => ?_, fun i => ?_, fun i => ?_, fun b i hb => ?_, by simp, ?_⟩
  · rw [World.cell?_alloc_past _ _ _ (hn := by simp <;> omega), World.cell?_alloc_past _ _ _ (hn := by simp <;> omega), World.cell?_alloc_past _ _ _ (hn := by simp <;> omega), World.cell?_alloc_past _ _ _ (hn := by simp <;> omega), World.cell?_alloc_past _ _ _ (hn := by simp <;> omega), World.cell?_alloc_at _ _ _ _ (by simp)]
  · rw [World.cell?_alloc_past _ _ _ (hn := by simp <;> omega), World.cell?_alloc_past _ _ _ (hn := by simp <;> omega), World.cell?_alloc_past _ _ _ (hn := by simp <;> omega), World.cell?_alloc_past _ _ _ (hn := by simp <;> omega), World.cell?_alloc_at _ _ _ _ (by simp)]
  · rw [World.cell?_alloc_past _ _ _ (hn := by simp <;> omega), World.cell?_alloc_past _ _ _ (hn := by simp <;> omega), World.cell?_alloc_past _ _ _ (hn := by simp <;> omega), World.cell?_alloc_at _ _ _ _ (by simp)]
  · rw [World.cell?_alloc_past _ _ _ (hn := by simp <;> omega), World.cell?_alloc_past _ _ _ (hn := by simp <;> omega), World.cell?_alloc_at _ _ _ _ (by simp)]
  · rw [World.cell?_alloc_past _ _ _ (hn := by simp <;> omega), World.cell?_alloc_at _ _ _ _ (by simp)]
  · rw [World.cell?_alloc_at _ _ _ _ (by simp)]
  · rw [World.cell?_alloc_past _ _ _ (hn := by first | exact hb | (simp <;> omega)), World.cell?_alloc_past _ _ _ (hn := by first | exact hb | (simp <;> omega)), World.cell?_alloc_past _ _ _ (hn := by first | exact hb | (simp <;> omega)), World.cell?_alloc_past _ _ _ (hn := by first | exact hb | (simp <;> omega)), World.cell?_alloc_past _ _ _ (hn := by first | exact hb | (simp <;> omega)), World.cell?_alloc_past _ _ _ (hn := by first | exact hb | (simp <;> omega))]
  · exact ((((((Below.refl _ w).alloc (Nat.le_refl _) _).alloc (by simp) _).alloc (by simp <;> omega) _).alloc (by simp <;> omega) _).alloc (by simp <;> omega) _).alloc (by simp <;> omega) _

def vvB : Vw := ⟨1, 2, ⟨#[42]⟩, [], [3, 0]⟩
def wvB : Vw := ⟨1, 3, ⟨#[94, 97]⟩, [], [3, 1]⟩
def zvB : Vw := ⟨2, 0, ⟨#[]⟩, [], []⟩

theorem two_ints {P : Nat → Prop} {W : World} {b : Nat} {x y : Int} (hp : P b) (h0 : W.cell? ⟨b, 0, none⟩ = some (.int .i64 x)) (h1 : W.cell? ⟨b, 1, none⟩ = some (.int .i64 y)) : Rds P W 1 (some ⟨b, 0, none⟩) 2 2 (icells [x, y]) := by
  refine .inr ⟨by decide, by decide, by decide, rfl, b, 0, rfl, hp, World.block_lt_of_cell? W ⟨b, 0, none⟩ h0, fun j u hu => ?_⟩
  rw [Nat.zero_add]
  match j, hu with
  | 0, hu => simp [icells] at hu; subst hu; exact h0
  | 1, hu => simp [icells] at hu; subst hu; exact h1

/-- Two views side by side. -/
theorem two_views {B : Nat} {W : World} {b : Nat} {c1 c2 : Vc} {v1 v2 : Vw} (hb : b < B) (hbW : b < W.heap.size) (h : ∀ i, W.cell? ⟨b, i, none⟩ = (c1.vals ++ c2.vals).toArray[i]?) (l1 : Lv (fun k => k < B) W c1 v1) (l2 : Lv (fun k => k < B) W c2 v2) : RowV B W (some ⟨b, 0, none⟩) 2 2 [(c1, v1), (c2, v2)] := by
  refine ⟨rfl, by decide, by decide, ⟨rfl, by decide, fun _ => ⟨b, 0, rfl, hb, hbW, fun j u hu => ?_⟩⟩, fun p hp => ?_⟩
  · rw [Nat.zero_add, h j]
    simpa [pcells] using hu
  · simp at hp
    rcases hp with rfl | rfl
    · exact l1
    · exact l2

set_option maxHeartbeats 4000000 in
theorem begun8 (a : Addr) (w : World) (hg : w.cell? ⟨0, 0, none⟩ = some (.iface 185 (.pointer (some a)))) : Calls Tryz.prog 8 #[] w fun r w' => r = .returned (.bool true) ∧ Below w.heap.size w w' := by
  have hg0 : 0 < w.heap.size := World.block_lt_of_cell? w ⟨0, 0, none⟩ hg
  obtain ⟨W, hW⟩ : ∃ W, W = ((((((w.alloc (.cells #[.int .i64 3, .int .i64 0] 3)).alloc (.cells #[.int .i64 1, .int .i64 2, .string ⟨#[42]⟩, .slice none 0 0, .slice (some ⟨w.heap.size, 0, none⟩) 2 2] 25)).alloc (.cells #[.int .i64 3, .int .i64 1] 3)).alloc (.cells #[.int .i64 1, .int .i64 3, .string ⟨#[94, 97]⟩, .slice none 0 0, .slice (some ⟨w.heap.size + 1 + 1, 0, none⟩) 2 2] 25)).alloc (.cells #[.int .i64 1, .int .i64 2, .string ⟨#[42]⟩, .slice none 0 0, .slice (some ⟨w.heap.size, 0, none⟩) 2 2, .int .i64 2, .int .i64 0, .string ⟨#[]⟩, .slice none 0 0, .slice none 0 0] 25)).alloc (.cells #[.int .i64 1, .int .i64 3, .string ⟨#[94, 97]⟩, .slice none 0 0, .slice (some ⟨w.heap.size + 1 + 1, 0, none⟩) 2 2, .int .i64 2, .int .i64 0, .string ⟨#[]⟩, .slice none 0 0, .slice none 0 0] 25)) := ⟨_, rfl⟩
  obtain ⟨d0, d1, d2, d3, d4, d5, dold, hsW, hbW⟩ := six_alloc w _ _ _ _ _ _ _ _ _ _ _ _ W hW
  have lvv : Lv (fun k => k < W.heap.size) W ⟨1, 2, ⟨#[42]⟩, none, 0, 0, some ⟨w.heap.size, 0, none⟩, 2, 2⟩ vvB := ⟨rfl, rfl, rfl, by decide, rfl, rfl, Rds.nil _ _ _, two_ints (by show _ < _; omega) (d0 0) (d0 1)⟩
  have lwv : Lv (fun k => k < W.heap.size) W ⟨1, 3, ⟨#[94, 97]⟩, none, 0, 0, some ⟨w.heap.size + 1 + 1, 0, none⟩, 2, 2⟩ wvB := ⟨rfl, rfl, rfl, by decide, rfl, rfl, Rds.nil _ _ _, two_ints (by show _ < _; omega) (d2 0) (d2 1)⟩
  have lzv : Lv (fun k => k < W.heap.size) W ⟨2, 0, ⟨#[]⟩, none, 0, 0, none, 0, 0⟩ zvB := ⟨rfl, rfl, rfl, by decide, rfl, rfl, Rds.nil _ _ _, Rds.nil _ _ _⟩
  have cm := merge17 W _ _ _ _ _ _ _ _ (two_views (by omega) (by omega) d4 lvv lzv) (two_views (by omega) (by omega) d5 lwv lzv)
  have hmg : mg [vvB, zvB] [wvB, zvB] = [wvB, zvB] := by
    rw [mg_second (by decide) (by decide), mg_first (by decide) (by decide), mg_nil]
  simp only [List.map_cons, List.map_nil] at cm
  rw [hmg] at cm
  clear hmg lzv
  have HD : Hid (W = ((((((w.alloc (.cells #[.int .i64 3, .int .i64 0] 3)).alloc (.cells #[.int .i64 1, .int .i64 2, .string ⟨#[42]⟩, .slice none 0 0, .slice (some ⟨w.heap.size, 0, none⟩) 2 2] 25)).alloc (.cells #[.int .i64 3, .int .i64 1] 3)).alloc (.cells #[.int .i64 1, .int .i64 3, .string ⟨#[94, 97]⟩, .slice none 0 0, .slice (some ⟨w.heap.size + 1 + 1, 0, none⟩) 2 2] 25)).alloc (.cells #[.int .i64 1, .int .i64 2, .string ⟨#[42]⟩, .slice none 0 0, .slice (some ⟨w.heap.size, 0, none⟩) 2 2, .int .i64 2, .int .i64 0, .string ⟨#[]⟩, .slice none 0 0, .slice none 0 0] 25)).alloc (.cells #[.int .i64 1, .int .i64 3, .string ⟨#[94, 97]⟩, .slice none 0 0, .slice (some ⟨w.heap.size + 1 + 1, 0, none⟩) 2 2, .int .i64 2, .int .i64 0, .string ⟨#[]⟩, .slice none 0 0, .slice none 0 0] 25))) := hW
  clear hW
  go_enter Tryz.func8, Tryz.ntmps8
  go_wp2_with fail
  rw [← HD.out]
  refine cm.mono ?_
  rintro r w1 ⟨o, oc, ps, rfl, hm, hown, hlv, hb1⟩
  clear cm HD
  obtain ⟨p, q, rfl⟩ : ∃ p q, ps = [p, q] := by
    have hl := congrArg List.length hm
    simp at hl
    match ps, hl with
    | [p, q], _ => exact ⟨p, q, rfl⟩
  simp only [List.map_cons, List.map_nil, List.cons.injEq, and_true] at hm
  obtain ⟨hp, hq⟩ := hm
  have lp := hlv p (by simp)
  have lq := hlv q (by simp)
  obtain ⟨pc, pv⟩ := p
  obtain ⟨qc, qv⟩ := q
  simp only at hp hq lp lq
  subst hp hq
  obtain ⟨g, cap, e1, hgB, hgl⟩ := hown.form (by simp)
  have hrd := Rds.of_own (ao := o) (cap := oc) hown (by simp) (.inl (by simp))
  cases e1
  have hc : ∀ j u, (pcells [(pc, wvB), (qc, zvB)])[j]? = some u → w1.cell? ⟨g, j, none⟩ = some u := by
    rcases hrd with h | ⟨_, _, _, _, b, off, e, _, _, hc⟩
    · exact absurd h.1 (by simp)
    · cases e
      intro j u hu
      have := hc j u hu
      rwa [Nat.zero_add] at this
  have pE : ∃ eb eo, pc.ea = some ⟨eb, eo, none⟩ ∧ pc.en = 2 ∧ 2 ≤ pc.ec ∧ w1.cell? ⟨eb, eo, none⟩ = some (.int .i64 3) ∧ w1.cell? ⟨eb, eo + 1, none⟩ = some (.int .i64 1) := by
    have hi := lp.ints
    have hen : pc.en = 2 := lp.en
    rcases hi with h | ⟨_, h2, _, _, b, off, e, _, _, hcc⟩
    · exact absurd (hen.symm.trans h.1) (by decide)
    · exact ⟨b, off, e, hen, by omega, hcc 0 _ rfl, hcc 1 _ rfl⟩
  have qE : qc.ea = none ∧ qc.en = 0 ∧ qc.ec = 0 := by
    have hi := lq.ints
    have hen : qc.en = 0 := lq.en
    rcases hi with h | ⟨h1, _⟩
    · exact ⟨h.2.1, h.1, h.2.2.1⟩
    · omega
  obtain ⟨eb, eo, pe1, pe2, pe3, pe4, pe5⟩ := pE
  obtain ⟨qe1, qe2, qe3⟩ := qE
  obtain ⟨pR, pV, pf, psa, psn, psc, pea, pen, pec'⟩ := pc
  obtain ⟨qR, qV, qf, qsa, qsn, qsc, qea, qen, qec⟩ := qc
  simp only at pe1 pe2 pe3 qe1 qe2 qe3 lp lq
  have hpV : pV = 3 := lp.Rev
  subst pe1 pe2 qe1 qe2 qe3 hpV
  have ce := epochs_begun g oc eb eo pec' pR 3 qR qV pf qf psa qsa psn psc qsn qsc w1 pe3 (hc 0 _ rfl) (hc 1 _ rfl) (hc 2 _ rfl) (hc 3 _ rfl) (hc 4 _ rfl) (hc 5 _ rfl) (hc 6 _ rfl) (hc 7 _ rfl) (hc 8 _ rfl) (hc 9 _ rfl) pe4 pe5
  have hrev : w1.cell? ⟨g, 1, none⟩ = some (.int .i64 3) := hc 1 _ rfl
  have HW : Hid (Below w.heap.size w W ∧ Below W.heap.size W w1) := ⟨hbW, hb1⟩
  have hs1 : W.heap.size ≤ w1.heap.size := hb1.size
  have HL : Hid (_ ∧ _) := ⟨lvv, lwv⟩
  have HO : Hid (∀ b i, b < w.heap.size → W.cell? ⟨b, i, none⟩ = w.cell? ⟨b, i, none⟩) := dold
  clear lp lq hc hrd hown hlv pe4 pe5 hbW hb1 lvv lwv d4 d5 dold
  go_wp2_with fail
  refine ce.mono ?_
  rintro r w2 ⟨rfl, e0, e1, hb2⟩
  clear ce
  have hB2 : Below W.heap.size W w2 := HW.out.2.trans (hb2.mono hs1)
  have hs2 : w1.heap.size < w2.heap.size := World.block_lt_of_cell? w2 ⟨w1.heap.size, 0, none⟩ e0
  have cy := may_yes a w.heap.size w2 ((hB2.cell (p := ⟨0, 0, none⟩) (by show 0 < _; omega)).trans ((HO.out 0 0 hg0).trans hg)) ((hB2.cell (p := ⟨w.heap.size, 0, none⟩) (by show w.heap.size < _; omega)).trans (d0 0)) ((hB2.cell (p := ⟨w.heap.size, 1, none⟩) (by show w.heap.size < _; omega)).trans (d0 1))
  have v2 : ∀ i, w2.cell? ⟨w.heap.size + 1, i, none⟩ = (#[.int .i64 1, .int .i64 2, .string ⟨#[42]⟩, .slice none 0 0, .slice (some ⟨w.heap.size, 0, none⟩) 2 2] : Array Value)[i]? := fun i => (hB2.cell (p := ⟨w.heap.size + 1, i, none⟩) (by show w.heap.size + 1 < _; omega)).trans (d1 i)
  have u2 : ∀ i, w2.cell? ⟨w.heap.size + 1 + 1 + 1, i, none⟩ = (#[.int .i64 1, .int .i64 3, .string ⟨#[94, 97]⟩, .slice none 0 0, .slice (some ⟨w.heap.size + 1 + 1, 0, none⟩) 2 2] : Array Value)[i]? := fun i => (hB2.cell (p := ⟨w.heap.size + 1 + 1 + 1, i, none⟩) (by show w.heap.size + 1 + 1 + 1 < _; omega)).trans (d3 i)
  have r2 : w2.cell? ⟨g, 1, none⟩ = some (.int .i64 3) := (hb2.cell (p := ⟨g, 1, none⟩) hgl).trans hrev
  have HB2 : Hid (Below W.heap.size W w2) := hB2
  clear hB2 hb2 d0 d1 d2 d3 hrev
  go_wp2_with fail
  refine cy.mono ?_
  rintro r w3 ⟨rfl, hb3⟩
  clear cy
  have hB3 : Below W.heap.size W w3 := HB2.out.trans (hb3.mono (by omega))
  have e03 : w3.cell? ⟨w1.heap.size, 0, none⟩ = some (.int .i64 3) := (hb3.cell (p := ⟨w1.heap.size, 0, none⟩) hs2).trans e0
  have e13 : w3.cell? ⟨w1.heap.size, 1, none⟩ = some (.int .i64 1) := (hb3.cell (p := ⟨w1.heap.size, 1, none⟩) hs2).trans e1
  have v3 : ∀ i, w3.cell? ⟨w.heap.size + 1, i, none⟩ = (#[.int .i64 1, .int .i64 2, .string ⟨#[42]⟩, .slice none 0 0, .slice (some ⟨w.heap.size, 0, none⟩) 2 2] : Array Value)[i]? := fun i => (hb3.cell (p := ⟨w.heap.size + 1, i, none⟩) (by show w.heap.size + 1 < _; omega)).trans (v2 i)
  have u3 : ∀ i, w3.cell? ⟨w.heap.size + 1 + 1 + 1, i, none⟩ = (#[.int .i64 1, .int .i64 3, .string ⟨#[94, 97]⟩, .slice none 0 0, .slice (some ⟨w.heap.size + 1 + 1, 0, none⟩) 2 2] : Array Value)[i]? := fun i => (hb3.cell (p := ⟨w.heap.size + 1 + 1 + 1, i, none⟩) (by show w.heap.size + 1 + 1 + 1 < _; omega)).trans (u2 i)
  have r3 : w3.cell? ⟨g, 1, none⟩ = some (.int .i64 3) := (hb3.cell (p := ⟨g, 1, none⟩) (by show g < _; omega)).trans r2
  have hs3 : w2.heap.size ≤ w3.heap.size := hb3.size
  have HB3 : Hid (Below W.heap.size W w3) := hB3
  clear hB3 hb3 v2 u2 r2 e0 e1 HB2
  go_wp2_with fail
  refine (may_no _).mono ?_
  rintro r w4 ⟨rfl, hb4⟩
  have hB4 : Below W.heap.size W w4 := HB3.out.trans (hb4.mono (by omega))
  have e04 : w4.cell? ⟨w1.heap.size, 0, none⟩ = some (.int .i64 3) := (hb4.cell (p := ⟨w1.heap.size, 0, none⟩) (by show w1.heap.size < _; omega)).trans e03
  have e14 : w4.cell? ⟨w1.heap.size, 1, none⟩ = some (.int .i64 1) := (hb4.cell (p := ⟨w1.heap.size, 1, none⟩) (by show w1.heap.size < _; omega)).trans e13
  have v4 : ∀ i, w4.cell? ⟨w.heap.size + 1, i, none⟩ = (#[.int .i64 1, .int .i64 2, .string ⟨#[42]⟩, .slice none 0 0, .slice (some ⟨w.heap.size, 0, none⟩) 2 2] : Array Value)[i]? := fun i => (hb4.cell (p := ⟨w.heap.size + 1, i, none⟩) (by show w.heap.size + 1 < _; omega)).trans (v3 i)
  have u4 : ∀ i, w4.cell? ⟨w.heap.size + 1 + 1 + 1, i, none⟩ = (#[.int .i64 1, .int .i64 3, .string ⟨#[94, 97]⟩, .slice none 0 0, .slice (some ⟨w.heap.size + 1 + 1, 0, none⟩) 2 2] : Array Value)[i]? := fun i => (hb4.cell (p := ⟨w.heap.size + 1 + 1 + 1, i, none⟩) (by show w.heap.size + 1 + 1 + 1 < _; omega)).trans (u3 i)
  have r4 : w4.cell? ⟨g, 1, none⟩ = some (.int .i64 3) := (hb4.cell (p := ⟨g, 1, none⟩) (by show g < _; omega)).trans r3
  have c5 := same14 _ _ _ _ vvB vvB w4 (HL.out.1.below hB4) (HL.out.1.below hB4)
  rw [sv_self] at c5
  have hs4 : w3.heap.size ≤ w4.heap.size := hb4.size
  have HB4 : Hid (Below W.heap.size W w4) := hB4
  clear hB4 hb4 v3 u3 r3 e03 e13 HB3
  go_wp2_with fail
  refine c5.mono ?_
  rintro r w5 ⟨rfl, hb5⟩
  clear c5
  have hB5 : Below W.heap.size W w5 := HB4.out.trans (hb5.mono (by omega))
  have v5 : ∀ i, w5.cell? ⟨w.heap.size + 1, i, none⟩ = (#[.int .i64 1, .int .i64 2, .string ⟨#[42]⟩, .slice none 0 0, .slice (some ⟨w.heap.size, 0, none⟩) 2 2] : Array Value)[i]? := fun i => (hb5.cell (p := ⟨w.heap.size + 1, i, none⟩) (by show w.heap.size + 1 < _; omega)).trans (v4 i)
  have u5 : ∀ i, w5.cell? ⟨w.heap.size + 1 + 1 + 1, i, none⟩ = (#[.int .i64 1, .int .i64 3, .string ⟨#[94, 97]⟩, .slice none 0 0, .slice (some ⟨w.heap.size + 1 + 1, 0, none⟩) 2 2] : Array Value)[i]? := fun i => (hb5.cell (p := ⟨w.heap.size + 1 + 1 + 1, i, none⟩) (by show w.heap.size + 1 + 1 + 1 < _; omega)).trans (u4 i)
  have c6 := same14 _ _ _ _ vvB wvB w5 (HL.out.1.below hB5) (HL.out.2.below hB5)
  have hsv : sv vvB wvB = false := by decide +kernel
  rw [hsv] at c6
  have HB5 : Hid (Below W.heap.size W w5) := hB5
  clear hB5 hb5 v4 u4 r4 e04 e14 HB4
  go_wp2_with fail
  refine c6.mono ?_
  rintro r w6 ⟨rfl, hb6⟩
  clear c6
  go_wp2
  go_ret
  exact ⟨rfl, HW.out.1.trans ((HB5.out.trans (hb6.mono HB5.out.size)).mono HW.out.1.size)⟩

end Go.Proofs.YtdeojcodbojmoaaGreatDoor
