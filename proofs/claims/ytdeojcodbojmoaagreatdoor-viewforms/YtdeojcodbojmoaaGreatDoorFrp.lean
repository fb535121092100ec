/- The views of ViewForms, and which of them may be. -/
import Derived.Test.YtdeojcodbojmoaaGreatDoorMyb
import Derived.Test.YtdeojcodbojmoaaGreatDoorBgn
import Derived.Test.YtdeojcodbojmoaaGreatDoorRvw
import Derived.Test.YtdeojcodbojmoaaGreatDoorEpg
import Derived.ArgAppend
namespace Go.Proofs.YtdeojcodbojmoaaGreatDoor
open Go.RowKit
set_option maxRecDepth 100000
set_option linter.unusedVariables false

/-- Blocks laid one behind the other. -/
def allocs (w : World) : List (Array Value × TypeId) → World
  | [] => w
  | x :: r => allocs (w.alloc (.cells x.1 x.2)) r

theorem allocs_size (l : List (Array Value × TypeId)) : ∀ w : World, (allocs w l).heap.size = w.heap.size + l.length := by
  induction l with
  | nil => intro w; rfl
  | cons x r ih => intro w; simp only [allocs, ih, List.length_cons]; simp; omega

theorem allocs_below (l : List (Array Value × TypeId)) : ∀ w : World, Below w.heap.size w (allocs w l) := by
  induction l with
  | nil => intro w; exact Below.refl _ _
  | cons x r ih =>
    intro w
    exact ((Below.refl _ w).alloc (Nat.le_refl _) _).trans ((ih _).mono (by simp))

theorem allocs_cell (l : List (Array Value × TypeId)) : ∀ (w : World) (i : Nat) (c : Array Value) (t : TypeId), l[i]? = some (c, t) → ∀ j, (allocs w l).cell? ⟨w.heap.size + i, j, none⟩ = c[j]? := by
  induction l with
  | nil => intro w i c t h; simp at h
  | cons x r ih =>
    intro w i c t h j
    cases i with
    | zero =>
      simp at h
      subst h
      simp only [allocs]
      have hb := (allocs_below r (w.alloc (.cells c t))).cell (p := ⟨w.heap.size + 0, j, none⟩) (by simp)
      rw [hb]
      simp
    | succ i =>
      simp only [allocs]
      have e : w.heap.size + (i + 1) = (w.alloc (.cells x.1 x.2)).heap.size + i := by simp; omega
      rw [e]
      exact ih _ i c t (by simpa using h) j

def h0 : Hd := ⟨1, 1, 1, 1⟩
def g0 : Vw := ⟨1, 0, ⟨#[]⟩, [], []⟩
def g1 : Vw := ⟨2, 1, ⟨#[42]⟩, [], [0, 0]⟩
def g2 : Vw := ⟨1, 1000000, ⟨#[94, 97, 38, 64, 49, 61, 53]⟩, [h0], [7, 1000000]⟩
def goods : List Vw := [g0, g1, g2]
def bads : List Vw := [⟨0, 0, ⟨#[]⟩, [], []⟩, ⟨3, 0, ⟨#[]⟩, [], []⟩, ⟨1, 0, ⟨#[42]⟩, [], []⟩, ⟨1, 0, ⟨#[]⟩, [h0], []⟩, ⟨1, 0, ⟨#[]⟩, [], [0, 0]⟩, ⟨1, 1, ⟨#[]⟩, [], [0, 0]⟩, ⟨1, 1, ⟨#[42]⟩, [], []⟩, ⟨1, 1, ⟨#[42]⟩, [], [0]⟩, ⟨1, 1, ⟨#[42]⟩, [], [0, -1]⟩, ⟨1, 1, ⟨#[42]⟩, [], [0, 1000001]⟩, ⟨1, -1, ⟨#[42]⟩, [], [0, 0]⟩, ⟨1, 1000001, ⟨#[42]⟩, [], [0, 0]⟩, ⟨1, 1, ⟨#[97]⟩, [], [0, 0]⟩, ⟨1, 1, ⟨#[42]⟩, [h0, h0], [0, 0]⟩]

theorem good_may (k : Nat) (h : k < goods.length) : mayV goods[k] 2 = true := by
  match k, h with
  | 0, _ => show mayV g0 2 = true; unfold mayV; rw [show g0.Rev = 0 from rfl, if_pos rfl]; simp [g0, sv]
  | 1, _ => exact (by decide +kernel : mayV g1 2 = true)
  | 2, _ => exact (by decide +kernel : mayV g2 2 = true)

theorem sv_f {v : Vw} {b : Vw} (h : ¬ v.f.toList = b.f.toList) : sv v b = false := by simp [sv, h]
theorem bad_may (k : Nat) (h : k < bads.length) : mayV bads[k] 2 = false := by
  match k, h with
  | 0, _ => exact (by decide +kernel : mayV ⟨0, 0, ⟨#[]⟩, [], []⟩ 2 = false)
  | 1, _ => exact (by decide +kernel : mayV ⟨3, 0, ⟨#[]⟩, [], []⟩ 2 = false)
  | 2, _ =>
    show mayV ⟨1, 0, ⟨#[42]⟩, [], []⟩ 2 = false
    unfold mayV
    simp only [if_true]
    rw [sv_f (by rw [ByteArray.toList_eq, ByteArray.toList_eq]; decide)]
    rfl
  | 3, _ =>
    show mayV ⟨1, 0, ⟨#[]⟩, [h0], []⟩ 2 = false
    unfold mayV
    simp only [if_true]
    simp [sv]
  | 4, _ =>
    show mayV ⟨1, 0, ⟨#[]⟩, [], [0, 0]⟩ 2 = false
    unfold mayV
    simp only [if_true]
    simp [sv]
  | 5, _ => exact (by decide +kernel : mayV ⟨1, 1, ⟨#[]⟩, [], [0, 0]⟩ 2 = false)
  | 6, _ => exact (by decide +kernel : mayV ⟨1, 1, ⟨#[42]⟩, [], []⟩ 2 = false)
  | 7, _ => exact (by decide +kernel : mayV ⟨1, 1, ⟨#[42]⟩, [], [0]⟩ 2 = false)
  | 8, _ => exact (by decide +kernel : mayV ⟨1, 1, ⟨#[42]⟩, [], [0, -1]⟩ 2 = false)
  | 9, _ => exact (by decide +kernel : mayV ⟨1, 1, ⟨#[42]⟩, [], [0, 1000001]⟩ 2 = false)
  | 10, _ => exact (by decide +kernel : mayV ⟨1, -1, ⟨#[42]⟩, [], [0, 0]⟩ 2 = false)
  | 11, _ => exact (by decide +kernel : mayV ⟨1, 1000001, ⟨#[42]⟩, [], [0, 0]⟩ 2 = false)
  | 12, _ => exact (by decide +kernel : mayV ⟨1, 1, ⟨#[97]⟩, [], [0, 0]⟩ 2 = false)
  | 13, _ => exact (by decide +kernel : mayV ⟨1, 1, ⟨#[42]⟩, [h0, h0], [0, 0]⟩ 2 = false)

set_option maxHeartbeats 1000000 in
/-- view.Epochs of no views. -/
theorem epochs_nil (w : World) : Calls Tryz.prog 20 #[.slice none 0 0, .int .i64 3] w fun r w' => (∃ a, r = .returned (.slice a 3 3)) ∧ Below w.heap.size w w' := by
  obtain ⟨M, hM, _, hm⟩ := makeN w 3 (by omega) (by omega)
  have hm' : (Instr.makeSlice 23 (.int .i64 3) (.int .i64 3)).run Tryz.prog w = .ok (.slice (some ⟨w.heap.size, 0, none⟩) 3 3) (w.alloc (.cells M 3)) := hm
  clear hm hM
  go_enter Tryz.func20, Tryz.ntmps20
  go_wp2_with fail
  refine wp_loop_rounds 1 ?_
  rw [rounds_succ]
  go_wp2
  go_ret
  exact ⟨⟨_, rfl⟩, (Below.refl _ w).alloc (Nat.le_refl _) _⟩

end Go.Proofs.YtdeojcodbojmoaaGreatDoor
