/- cover does something: begun. -/
import Derived.Test.YtflpdekifkcfkabCvc
namespace Go.Proofs.Ytflpdekifkcfkab
open Go.RowKit
set_option linter.unusedVariables false

def bgA : Ev.Bx := ⟨fun _ => Ev.nul, ⟨#[97]⟩, []⟩
def bgB : Ev.Bx := ⟨fun _ => Ev.nul, ⟨#[97, 98]⟩, []⟩

theorem bg_ok (t : ByteArray) (ht : t.size ≤ 1000) : (⟨fun _ => Ev.nul, t, []⟩ : Ev.Bx).ok 0 :=
  ⟨fun i hi => Ev.nul_ok, ht, by simp, by simp⟩

theorem bg_in : Ev.within bgB bgA = true := by decide +kernel
def bgF : Ev.Ft := .leaf 3 1 0 9 ⟨#[]⟩
def bgG : Ev.Ft := .leaf 2 1 5 5 ⟨#[]⟩
def bgH : Ev.Ft := .leaf 1 0 0 0 ⟨#[]⟩
theorem bg_one : Ev.covers (bgF.row false) (bgG.row false) = true := by decide +kernel
theorem bg_two : Ev.covers (bgG.row false) (bgH.row false) = false := by decide +kernel
theorem bg_fine (op key lo hi : Int) (h1 : 1 ≤ op) (h2 : op ≤ 4) (h3 : 0 ≤ key) (h4 : key ≤ 3) (h5 : 0 ≤ lo) (h6 : lo ≤ hi) (h7 : hi ≤ 99) : (Ev.Ft.leaf op key lo hi ⟨#[]⟩).fine := ⟨h1, h2, by decide, h3, h4, h5, h6, h7⟩

set_option maxHeartbeats 4000000 in
theorem begun8 (w : World) : Calls Try.prog 8 #[] w fun e w' => e = .returned (.bool true) ∧ Below w.heap.size w w' := by
  have c1 := covers11 bgF bgG w 3 1 0 9 ⟨#[]⟩ none 0 2 1 5 5 ⟨#[]⟩ none 0 (by decide) (by decide) (bg_fine _ _ _ _ (by omega) (by omega) (by omega) (by omega) (by omega) (by omega) (by omega)) (bg_fine _ _ _ _ (by omega) (by omega) (by omega) (by omega) (by omega) (by omega) (by omega)) ⟨rfl, rfl, rfl, rfl, rfl, rfl, rfl⟩ ⟨rfl, rfl, rfl, rfl, rfl, rfl, rfl⟩
  have c2 := fun w => covers11 bgG bgH w 2 1 5 5 ⟨#[]⟩ none 0 1 0 0 0 ⟨#[]⟩ none 0 (by decide) (by decide) (bg_fine _ _ _ _ (by omega) (by omega) (by omega) (by omega) (by omega) (by omega) (by omega)) (bg_fine _ _ _ _ (by omega) (by omega) (by omega) (by omega) (by omega) (by omega) (by omega)) ⟨rfl, rfl, rfl, rfl, rfl, rfl, rfl⟩ ⟨rfl, rfl, rfl, rfl, rfl, rfl, rfl⟩
  have c3 := fun w => within14 bgB bgA none none 0 0 0 0 w (bg_ok _ (by decide)) (bg_ok _ (by decide)) (by omega) (by omega) (fun h => absurd h (by decide)) (fun h => absurd h (by decide))
  unfold CPost at c1 c2
  rw [bg_one] at c1
  rw [bg_two] at c2
  rw [bg_in] at c3
  unfold bgF bgG at c1
  unfold bgG bgH at c2
  unfold Bval bgA bgB at c3
  simp only [Ev.Ft.row, Option.isSome_some, Bool.and_self, Ev.nul, List.length_nil] at c1 c2 c3
  go_enter Try.func8, Try.ntmps8
  go_wp2_with fail
  refine c1.mono ?_
  rintro e w1 ⟨rfl, hb1⟩
  clear c1
  go_wp2_with fail
  refine (c2 _).mono ?_
  rintro e w2 ⟨rfl, hb2⟩
  clear c2
  go_wp2_with fail
  refine (c3 _).mono ?_
  rintro e w3 ⟨rfl, hb3⟩
  clear c3
  go_wp2
  go_ret
  exact ⟨rfl, (hb1.trans (hb2.mono hb1.size)).trans (hb3.mono (by have := hb1.size; have := hb2.size; omega))⟩

end Go.Proofs.Ytflpdekifkcfkab
