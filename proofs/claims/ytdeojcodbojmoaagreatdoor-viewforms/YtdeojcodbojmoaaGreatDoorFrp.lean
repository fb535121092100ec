/- The views of ViewForms, and which of them may be. -/
import Derived.Test.YtdeojcodbojmoaaGreatDoorMyb
import Derived.Test.YtdeojcodbojmoaaGreatDoorBgn
import Derived.Laws.MakeOwn
import Derived.ArgAppend
namespace Go.Proofs.YtdeojcodbojmoaaGreatDoor
open Go.RowKit
set_option maxRecDepth 100000
set_option linter.unusedVariables false

/-- A slice that reads as a row of views. -/
def RVf (w : World) (o : Option Addr) (n oc : Nat) (l : List Vw) : Prop := ∃ ps, ps.map (·.2) = l ∧ RowV w.heap.size w o n oc ps

theorem RVf.below {w w' : World} {o : Option Addr} {n oc : Nat} {l : List Vw} (h : RVf w o n oc l) (hb : Below w.heap.size w w') : RVf w' o n oc l := by
  obtain ⟨ps, e, hr⟩ := h
  have h1 := hr.below (Nat.le_refl _) hb
  exact ⟨ps, e, h1.len, h1.le, h1.lid, h1.row.mono (fun b hb' _ => hb'), h1.lv.mono (fun b hb' _ => hb')⟩

/-- The cells of one of them. -/
theorem RVf.at {w : World} {o : Option Addr} {n oc : Nat} {l : List Vw} (h : RVf w o n oc l) (i : Nat) (hi : i < l.length) : ∃ (b off : Nat) (c : Vc), o = some ⟨b, off, none⟩ ∧ b < w.heap.size ∧ Lv (fun k => k < w.heap.size) w c l[i] ∧
    w.cell? ⟨b, off + i * 5, none⟩ = some (.int .i64 c.R) ∧ w.cell? ⟨b, off + i * 5 + 1, none⟩ = some (.int .i64 c.Rev) ∧ w.cell? ⟨b, off + i * 5 + 2, none⟩ = some (.string c.f) ∧ w.cell? ⟨b, off + i * 5 + 3, none⟩ = some (.slice c.sa c.sn c.sc) ∧ w.cell? ⟨b, off + i * 5 + 4, none⟩ = some (.slice c.ea c.en c.ec) := by
  obtain ⟨ps, rfl, hr⟩ := h
  have hi' : i < ps.length := by simpa using hi
  obtain ⟨b, off, e, _, hb, hc⟩ := hr.row.2.2 (by have := hr.len; omega)
  obtain ⟨f0, f1, f2, f3, f4⟩ := view_at (P := Any) hc i hi'
  refine ⟨b, off, (ps[i]).1, e, hb, ?_, f0, f1, f2, f3, f4⟩
  have := hr.lv _ (List.getElem_mem hi')
  simpa using this

theorem makeF (W : World) (n : Nat) (h1 : 1 ≤ n) (h5 : n ≤ 5) : ∃ M : Array Value, M.size = n ∧ (∀ i, i < n → M[i]? = some (.int .i64 0)) ∧ (Instr.makeSlice 23 (.int .i64 n) (.int .i64 n)).run Tryz.prog W = .ok (.slice (some ⟨W.heap.size, 0, none⟩) n n) (W.alloc (.cells M 3)) := by
  obtain ⟨i0, hi, hz0, hz1, hz2⟩ := info_parts Tryz.info3
  have h := run_make (P := Tryz.prog) W 23 3 i0 (.int .i64 0) Tryz.underlying23 hi hz0 .i64 .i64 (n : Int) (n : Int) (by omega) (by omega) (by rw [hz2]; omega) (by omega)
  rw [hz1, Nat.mul_one] at h
  refine ⟨madeCells (Value.int .i64 0).cells n, ?_, ?_, by simpa using h⟩
  · rw [size_madeCells]
  · have hn : n = 1 ∨ n = 2 ∨ n = 3 ∨ n = 4 ∨ n = 5 := by omega
    rcases hn with rfl | rfl | rfl | rfl | rfl
    · have e : madeCells (Value.int .i64 0).cells 1 = #[.int .i64 0] := by kernel_rfl
      rw [e]; intro i hi; match i, hi with
      | 0, _ => rfl
    · have e : madeCells (Value.int .i64 0).cells 2 = #[.int .i64 0, .int .i64 0] := by kernel_rfl
      rw [e]; intro i hi; match i, hi with
      | 0, _ => rfl
      | 1, _ => rfl
    · have e : madeCells (Value.int .i64 0).cells 3 = #[.int .i64 0, .int .i64 0, .int .i64 0] := by kernel_rfl
      rw [e]; intro i hi; match i, hi with
      | 0, _ => rfl
      | 1, _ => rfl
      | 2, _ => rfl
    · have e : madeCells (Value.int .i64 0).cells 4 = #[.int .i64 0, .int .i64 0, .int .i64 0, .int .i64 0] := by kernel_rfl
      rw [e]; intro i hi; match i, hi with
      | 0, _ => rfl
      | 1, _ => rfl
      | 2, _ => rfl
      | 3, _ => rfl
    · have e : madeCells (Value.int .i64 0).cells 5 = #[.int .i64 0, .int .i64 0, .int .i64 0, .int .i64 0, .int .i64 0] := by kernel_rfl
      rw [e]; intro i hi; match i, hi with
      | 0, _ => rfl
      | 1, _ => rfl
      | 2, _ => rfl
      | 3, _ => rfl
      | 4, _ => rfl


/-- Blocks laid one behind the other. -/
def allocs (w : World) : List (Array Value × TypeId) → World
  | [] => w
  | x :: r => allocs (w.alloc (.cells x.1 x.2)) r

theorem allocs_size (l : List (Array Value × TypeId)) : ∀ w : World, (allocs w l).heap.size = w.heap.size + l.length := by
  induction l with
  | nil => intro w; rfl
  | cons x r ih => intro w; simp only [allocs, ih, List.length_cons]; simp; omega

theorem allocs_below (l : List (Array Value × TypeId)) : ∀ w : World, Below w.heap.size w (allocs w l) := by
  induction l with
  | nil => intro w; exact Below.refl _ _
  | cons x r ih =>
    intro w
    exact ((Below.refl _ w).alloc (Nat.le_refl _) _).trans ((ih _).mono (by simp))

theorem allocs_cell (l : List (Array Value × TypeId)) : ∀ (w : World) (i : Nat) (c : Array Value) (t : TypeId), l[i]? = some (c, t) → ∀ j, (allocs w l).cell? ⟨w.heap.size + i, j, none⟩ = c[j]? := by
  induction l with
  | nil => intro w i c t h; simp at h
  | cons x r ih =>
    intro w i c t h j
    cases i with
    | zero =>
      simp at h
      subst h
      simp only [allocs]
      have hb := (allocs_below r (w.alloc (.cells c t))).cell (p := ⟨w.heap.size + 0, j, none⟩) (by simp)
      rw [hb]
      simp
    | succ i =>
      simp only [allocs]
      have e : w.heap.size + (i + 1) = (w.alloc (.cells x.1 x.2)).heap.size + i := by simp; omega
      rw [e]
      exact ih _ i c t (by simpa using h) j

def h0 : Hd := ⟨1, 1, 1, 1⟩
def g0 : Vw := ⟨1, 0, ⟨#[]⟩, [], []⟩
def g1 : Vw := ⟨2, 1, ⟨#[42]⟩, [], [0, 0]⟩
def g2 : Vw := ⟨1, 1000000, ⟨#[94, 97, 38, 64, 49, 61, 53]⟩, [h0], [7, 1000000]⟩
def goods : List Vw := [g0, g1, g2]
def bads : List Vw := [⟨0, 0, ⟨#[]⟩, [], []⟩, ⟨3, 0, ⟨#[]⟩, [], []⟩, ⟨1, 0, ⟨#[42]⟩, [], []⟩, ⟨1, 0, ⟨#[]⟩, [h0], []⟩, ⟨1, 0, ⟨#[]⟩, [], [0, 0]⟩, ⟨1, 1, ⟨#[]⟩, [], [0, 0]⟩, ⟨1, 1, ⟨#[42]⟩, [], []⟩, ⟨1, 1, ⟨#[42]⟩, [], [0]⟩, ⟨1, 1, ⟨#[42]⟩, [], [0, -1]⟩, ⟨1, 1, ⟨#[42]⟩, [], [0, 1000001]⟩, ⟨1, -1, ⟨#[42]⟩, [], [0, 0]⟩, ⟨1, 1000001, ⟨#[42]⟩, [], [0, 0]⟩, ⟨1, 1, ⟨#[97]⟩, [], [0, 0]⟩, ⟨1, 1, ⟨#[42]⟩, [h0, h0], [0, 0]⟩]

theorem good_may (k : Nat) (h : k < goods.length) : mayV goods[k] 2 = true := by
  match k, h with
  | 0, _ => show mayV g0 2 = true; unfold mayV; rw [show g0.Rev = 0 from rfl, if_pos rfl]; simp [g0, sv]
  | 1, _ => exact (by decide +kernel : mayV g1 2 = true)
  | 2, _ => exact (by decide +kernel : mayV g2 2 = true)

theorem sv_f {v : Vw} {b : Vw} (h : ¬ v.f.toList = b.f.toList) : sv v b = false := by simp [sv, h]
theorem bad_may (k : Nat) (h : k < bads.length) : mayV bads[k] 2 = false := by
  match k, h with
  | 0, _ => exact (by decide +kernel : mayV ⟨0, 0, ⟨#[]⟩, [], []⟩ 2 = false)
  | 1, _ => exact (by decide +kernel : mayV ⟨3, 0, ⟨#[]⟩, [], []⟩ 2 = false)
  | 2, _ =>
    show mayV ⟨1, 0, ⟨#[42]⟩, [], []⟩ 2 = false
    unfold mayV
    simp only [if_true]
    rw [sv_f (by rw [ByteArray.toList_eq, ByteArray.toList_eq]; decide)]
    rfl
  | 3, _ =>
    show mayV ⟨1, 0, ⟨#[]⟩, [h0], []⟩ 2 = false
    unfold mayV
    simp only [if_true]
    simp [sv]
  | 4, _ =>
    show mayV ⟨1, 0, ⟨#[]⟩, [], [0, 0]⟩ 2 = false
    unfold mayV
    simp only [if_true]
    simp [sv]
  | 5, _ => exact (by decide +kernel : mayV ⟨1, 1, ⟨#[]⟩, [], [0, 0]⟩ 2 = false)
  | 6, _ => exact (by decide +kernel : mayV ⟨1, 1, ⟨#[42]⟩, [], []⟩ 2 = false)
  | 7, _ => exact (by decide +kernel : mayV ⟨1, 1, ⟨#[42]⟩, [], [0]⟩ 2 = false)
  | 8, _ => exact (by decide +kernel : mayV ⟨1, 1, ⟨#[42]⟩, [], [0, -1]⟩ 2 = false)
  | 9, _ => exact (by decide +kernel : mayV ⟨1, 1, ⟨#[42]⟩, [], [0, 1000001]⟩ 2 = false)
  | 10, _ => exact (by decide +kernel : mayV ⟨1, -1, ⟨#[42]⟩, [], [0, 0]⟩ 2 = false)
  | 11, _ => exact (by decide +kernel : mayV ⟨1, 1000001, ⟨#[42]⟩, [], [0, 0]⟩ 2 = false)
  | 12, _ => exact (by decide +kernel : mayV ⟨1, 1, ⟨#[97]⟩, [], [0, 0]⟩ 2 = false)
  | 13, _ => exact (by decide +kernel : mayV ⟨1, 1, ⟨#[42]⟩, [h0, h0], [0, 0]⟩ 2 = false)

set_option maxHeartbeats 1000000 in
/-- view.Epochs of no views. -/
theorem epochs_nil (w : World) : Calls Tryz.prog 20 #[.slice none 0 0, .int .i64 3] w fun r w' => (∃ a, r = .returned (.slice a 3 3)) ∧ Below w.heap.size w w' := by
  obtain ⟨M, hM, _, hm⟩ := makeF w 3 (by omega) (by omega)
  have hm' : (Instr.makeSlice 23 (.int .i64 3) (.int .i64 3)).run Tryz.prog w = .ok (.slice (some ⟨w.heap.size, 0, none⟩) 3 3) (w.alloc (.cells M 3)) := hm
  clear hm hM
  go_enter Tryz.func20, Tryz.ntmps20
  go_wp2_with fail
  refine wp_loop_rounds 1 ?_
  rw [rounds_succ]
  go_wp2
  go_ret
  exact ⟨⟨_, rfl⟩, (Below.refl _ w).alloc (Nat.le_refl _) _⟩

end Go.Proofs.YtdeojcodbojmoaaGreatDoor
