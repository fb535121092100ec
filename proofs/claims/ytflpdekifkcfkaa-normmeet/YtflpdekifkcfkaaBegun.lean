/- norm does something: begun. -/
import Derived.Test.YtflpdekifkcfkaaRow
import Derived.Test.YtflpdekifkcfkaaNlets
namespace Go.Proofs.Ytflpdekifkcfkaa
open Go.RowKit
set_option linter.unusedVariables false

def bgA : Ev.Bx := ⟨fun _ => Ev.nul, ⟨#[97]⟩, []⟩
def bgB : Ev.Bx := ⟨fun _ => Ev.nul, ⟨#[97, 98]⟩, []⟩
def bgC : Ev.Bx := ⟨Ev.four Ev.nul Ev.nul Ev.nul Ev.nul, ⟨#[97, 98]⟩, []⟩

theorem bg_meet : Ev.meet bgA bgB = some bgC := by
  rw [meet_good, if_pos (by decide +kernel)]
  rfl

theorem bg_ok (s : Nat → Ev.Sd) (hs : ∀ i, i < 4 → s i = Ev.nul) (t : ByteArray) (ht : t.size ≤ 1000) : (⟨s, t, []⟩ : Ev.Bx).ok 0 :=
  ⟨fun i hi => by show (s i).ok; rw [hs i hi]; exact Ev.nul_ok, ht, by simp, by simp⟩

theorem bg_four (i : Nat) (h : i < 4) : Ev.four Ev.nul Ev.nul Ev.nul Ev.nul i = Ev.nul := by
  match i, h with
  | 0, _ => rfl
  | 1, _ => rfl
  | 2, _ => rfl
  | 3, _ => rfl

theorem bg_lets : bgC.lets [] ⟨#[97, 98, 99]⟩ = true := by decide +kernel

def bgF : Ev.Ft := .non (.leaf 2 1 5 5 ⟨#[]⟩)
def bgL : List Ev.Bx := [Ev.ofKey 1 2 0 0, Ev.ofKey 1 1 0 4, Ev.ofKey 1 1 6 99]

theorem bg_row : bgF.row false = some bgL := rfl

set_option maxHeartbeats 4000000 in
theorem begun9 (w : World) : Calls Try.prog 9 #[] w fun e w' => e = .returned (.bool true) ∧ Below w.heap.size w w' := by
  obtain ⟨W, hW⟩ : ∃ W, W = w.alloc (.cells #[.int .i64 2, .int .i64 1, .int .i64 5, .int .i64 5, .string ⟨#[]⟩, .slice none 0 0] 26) := ⟨_, rfl⟩
  have hbW : Below w.heap.size w W := by rw [hW]; exact (Below.refl _ _).alloc (Nat.le_refl _) _
  have c := of12 bgF W 7 0 0 0 ⟨#[]⟩ (some ⟨w.heap.size, 0, none⟩) 1 (by decide) ⟨by omega, by omega, by decide, by omega, by omega, by omega, by omega, by omega⟩
    ⟨rfl, rfl, rfl, rfl, rfl, w.heap.size, 2, 1, 5, 5, ⟨#[]⟩, none, 0, rfl, rfl, trivial, by rw [hW]; unfold Six; simp, ⟨rfl, rfl, rfl, rfl, rfl, rfl, rfl⟩⟩
  rw [bg_row] at c
  rw [hW] at c
  unfold RPost at c
  simp only [Option.isSome_some, Option.getD_some] at c
  have HW : Hid (W = w.alloc (.cells #[.int .i64 2, .int .i64 1, .int .i64 5, .int .i64 5, .string ⟨#[]⟩, .slice none 0 0] 26)) := hW
  clear hW
  go_enter Try.func9, Try.ntmps9
  go_wp2_with fail
  refine c.mono ?_
  rintro e w1 ⟨v, rfl, r1, hb1⟩
  rw [← HW.out] at hb1 r1
  clear c HW
  obtain ⟨a1, z1, rfl⟩ := r1.slice
  have hw1 : Below w.heap.size w w1 := hbW.trans (hb1.mono hbW.size)
  have cm := fun w' => meet19 bgA bgB none none 0 0 0 0 0 0 w' (bg_ok _ (fun _ _ => rfl) _ (by decide)) (bg_ok _ (fun _ _ => rfl) _ (by decide)) (by omega) (by omega) (Nt.empty 0 w') (Nt.empty 0 w')
  rw [bg_meet] at cm
  unfold MPost Bval bgA bgB bgC at cm
  simp only [Option.isSome_some, Option.getD_some, Ev.four, Ev.nul, List.length_nil] at cm
  clear hb1 hbW
  have hl : bgL.length = 3 := rfl
  rw [hl] at r1 ⊢
  go_wp2_with fail
  refine (cm _).mono ?_
  rintro e w2 ⟨hb2, o, cap, rfl, hn2⟩
  have r2 := r1.below hb2
  have hw2 : Below w.heap.size w w2 := hw1.trans (hb2.mono hw1.size)
  obtain ⟨g, xo, xc, rfl, _, hg, _, hc0⟩ := r2.at 0 (by decide)
  obtain ⟨g', yo, yc, e', _, _, _, hc1⟩ := r2.at 1 (by decide)
  cases e'
  have p3 : w2.cell? ⟨g, 3, none⟩ = some (.int .i64 2) := hc0 3 _ rfl
  have p17 : w2.cell? ⟨g, 17, none⟩ = some (.int .i64 1) := hc1 3 _ rfl
  have p18 : w2.cell? ⟨g, 18, none⟩ = some (.int .i64 0) := hc1 4 _ rfl
  have p19 : w2.cell? ⟨g, 19, none⟩ = some (.int .i64 4) := hc1 5 _ rfl
  have hs2 := hw2.size
  clear hc0 hc1 r2 r1 cm hb2 hn2 hw1 hl
  have cl := fun w' => lets17 bgC o cap 0 ⟨0, 0, 0, 0, false, none, 0, 0, ⟨#[97, 98, 99]⟩, ⟨#[]⟩⟩ [] w' (bg_ok _ bg_four _ (by decide)) (by omega) (fun h => absurd h (by decide)) ⟨rfl, by simp, by decide, fun h => absurd h (by simp)⟩
  rw [bg_lets] at cl
  unfold Bval Vs.val bgC at cl
  simp only [Ev.four, Ev.nul, List.length_nil] at cl
  go_wp2_with fail
  refine (cl _).mono ?_
  rintro e w3 ⟨rfl, hb3⟩
  have hw3 : Below w.heap.size w w3 := (hw2.alloc hs2 _).trans (hb3.mono (by simp; omega))
  clear cl
  go_wp2
  go_ret
  exact ⟨rfl, hw3⟩

end Go.Proofs.Ytflpdekifkcfkaa
