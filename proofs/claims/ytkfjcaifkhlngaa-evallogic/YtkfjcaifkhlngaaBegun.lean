/- begun: does eval do anything yet? -/
import Derived.Test.YtkfjcaifkhlngaaLets
namespace Go.Proofs.Ytkfjcaifkhlngaa
open Go.RowKit
set_option linter.unusedVariables false

/-- A filter without parts. -/
theorem lets_bare (v : Vs) (al : List (Int × Int)) (w : World) (o k l h : Int) (t : ByteArray) (r : Bool) (ho : 1 ≤ o ∧ o ≤ 4) (ht : t.size ≤ 1000) (hv : Has Any w v al) (hr : Ev.Ft.lets al v.tag (.leaf o k l h t) = r) :
    Calls Try.prog 13 #[.agg #[.int .i64 o, .int .i64 k, .int .i64 l, .int .i64 h, .string t, .slice none 0 0], v.val] w fun e w' => e = .returned (.bool r) ∧ Below w.heap.size w w' := by
  rw [← hr]
  exact lets13 (.leaf o k l h t) v al w o k l h t none 0 (by simp [Ev.Ft.deep]) ⟨ho.1, ho.2, ht⟩ ⟨rfl, rfl, rfl, rfl, rfl, rfl, rfl⟩ hv

/-- A version with one attribute. -/
theorem has_one {w : World} {v : Vs} {b : Nat} {k x : Int} (hl : v.len = 1) (ht : v.tag.size ≤ 1000) (ha : v.ao = some ⟨b, 0, none⟩) (h0 : w.cell? ⟨b, 0, none⟩ = some (.int .i64 k)) (h1 : w.cell? ⟨b, 1, none⟩ = some (.int .i64 x)) : Has Any w v [(k, x)] := by
  refine ⟨by simp [hl], by omega, ht, fun _ => ⟨b, ha, trivial, World.block_lt_of_cell? w ⟨b, 0, none⟩ h0, fun j hj => ?_⟩⟩
  simp only [List.length_cons, List.length_nil] at hj
  obtain rfl : j = 0 := by omega
  exact ⟨h0, h1⟩

/-- A version without attributes. -/
theorem has_none {w : World} {v : Vs} (hl : v.len = 0) (ht : v.tag.size ≤ 1000) : Has Any w v [] := ⟨by simp [hl], by omega, ht, fun h => by omega⟩

/-- A version's eight cells. -/
def Boxed (w : World) (b : Nat) (v : Vs) : Prop :=
  w.cell? ⟨b, 0, none⟩ = some (.int .i64 v.it) ∧ w.cell? ⟨b, 1, none⟩ = some (.int .i64 v.L) ∧ w.cell? ⟨b, 2, none⟩ = some (.int .i64 v.R) ∧ w.cell? ⟨b, 3, none⟩ = some (.int .i64 v.N) ∧
  w.cell? ⟨b, 4, none⟩ = some (.bool v.dead) ∧ w.cell? ⟨b, 5, none⟩ = some (.slice v.ao v.len v.cap) ∧ w.cell? ⟨b, 6, none⟩ = some (.string v.tag) ∧ w.cell? ⟨b, 7, none⟩ = some (.string v.body)

set_option maxHeartbeats 1000000 in
theorem begun9 (w : World) : Calls Try.prog 9 #[] w fun e w' => e = .returned (.bool true) ∧ Below w.heap.size w w' := by
  go_enter Try.func9, Try.ntmps9
  go_wp2_with fail
  obtain ⟨v, hv⟩ : ∃ v : Vs, v = ⟨1, 1, 1, 1, false, some ⟨w.heap.size, 0, none⟩, 1, 1, ⟨#[97, 98]⟩, ⟨#[]⟩⟩ := ⟨_, rfl⟩
  obtain ⟨W, hW⟩ : ∃ W, W = (w.alloc (.cells #[.int .i64 1, .int .i64 5] 40)).alloc (.cells #[.int .i64 1, .int .i64 1, .int .i64 1, .int .i64 1, .bool false, .slice (some ⟨w.heap.size, 0, none⟩) 1 1, .string ⟨#[97, 98]⟩, .string ⟨#[]⟩] 34) := ⟨_, rfl⟩
  rw [← hW]
  have hbW : Below w.heap.size w W := by rw [hW]; exact ((Below.refl _ _).alloc (Nat.le_refl _) _).alloc (by simp) _
  have hB : Boxed W (w.heap.size + 1) v := by subst hv; rw [hW]; unfold Boxed; simp
  have hH : Has Any W v [(1, 5)] := by subst hv; rw [hW]; exact has_one rfl (by show (2 : Nat) ≤ 1000; omega) rfl (by simp) (by simp)
  have hsz : W.heap.size = w.heap.size + 2 := by rw [hW]; simp
  have m0 : w.heap.size ≤ W.heap.size := by omega
  have m1 : w.heap.size + 1 < W.heap.size := by omega
  have c1 := fun w' hb => lets_bare v [(1, 5)] w' 2 1 5 5 ⟨#[]⟩ true (by omega) (by decide) (hH.below hb) (by subst hv; rfl)
  have c2 := fun w' hb => lets_bare v [(1, 5)] w' 2 2 0 0 ⟨#[]⟩ false (by omega) (by decide) (hH.below hb) (by subst hv; rfl)
  have c3 := fun w' hb => lets_bare v [(1, 5)] w' 4 0 0 0 ⟨#[97]⟩ true (by omega) (by decide) (hH.below hb) (by subst hv; show Ev.begins ⟨#[97, 98]⟩ ⟨#[97]⟩ = true; decide +kernel)
  obtain ⟨g0, g1, g2, g3, g4, g5, g6, g7⟩ := hB
  subst hv
  unfold Vs.val at c1 c2 c3
  simp only at g0 g1 g2 g3 g4 g5 g6 g7 c1 c2 c3
  clear hW hH hsz
  refine (c1 _ (Below.refl _ _)).mono ?_
  rintro e w1 ⟨rfl, hb1⟩
  have hcl1 := fun b o (h : b < W.heap.size) => hb1.cell (p := ⟨b, o, none⟩) h
  go_wp2_with fail
  refine (c2 _ hb1).mono ?_
  rintro e w2 ⟨rfl, hb2⟩
  have hb2' := hb1.trans (hb2.mono hb1.size)
  have hcl2 := fun b o (h : b < W.heap.size) => hb2'.cell (p := ⟨b, o, none⟩) h
  clear hcl1
  go_wp2_with fail
  refine (c3 _ hb2').mono ?_
  rintro e w3 ⟨rfl, hb3⟩
  have hb3' := hb2'.trans (hb3.mono hb2'.size)
  clear hcl2 c1 c2 c3
  go_wp2
  go_ret
  exact ⟨rfl, hbW.trans (hb3'.mono m0)⟩

end Go.Proofs.Ytkfjcaifkhlngaa
