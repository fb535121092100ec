/- ViewForms: how its views lie. -/
import Derived.Test.YtdeojcodbojmoaaGreatDoorFrp
namespace Go.Proofs.YtdeojcodbojmoaaGreatDoor
open Go.RowKit
set_option maxRecDepth 100000
set_option linter.unusedVariables false

theorem one_int {P : Nat → Prop} {W : World} {b : Nat} {x : Int} (hp : P b) (h0 : W.cell? ⟨b, 0, none⟩ = some (.int .i64 x)) : Rds P W 1 (some ⟨b, 0, none⟩) 1 1 (icells [x]) := by
  refine .inr ⟨by decide, by decide, by decide, rfl, b, 0, rfl, hp, World.block_lt_of_cell? W ⟨b, 0, none⟩ h0, fun j u hu => ?_⟩
  rw [Nat.zero_add]
  match j, hu with
  | 0, hu => simp [icells] at hu; subst hu; exact h0

theorem one_head {P : Nat → Prop} {W : World} {b : Nat} (hp : P b) (c0 : W.cell? ⟨b, 0, none⟩ = some (.int .i64 1)) (c1 : W.cell? ⟨b, 1, none⟩ = some (.int .i64 1)) (c2 : W.cell? ⟨b, 2, none⟩ = some (.int .i64 1)) (c3 : W.cell? ⟨b, 3, none⟩ = some (.int .i64 1)) : Rds P W 4 (some ⟨b, 0, none⟩) 1 1 (hcells [h0]) := by
  refine .inr ⟨by decide, by decide, by decide, rfl, b, 0, rfl, hp, World.block_lt_of_cell? W ⟨b, 0, none⟩ c0, fun j u hu => ?_⟩
  rw [Nat.zero_add]
  match j, hu with
  | 0, hu => simp [hcells, Hd.vals, h0] at hu; subst hu; exact c0
  | 1, hu => simp [hcells, Hd.vals, h0] at hu; subst hu; exact c1
  | 2, hu => simp [hcells, Hd.vals, h0] at hu; subst hu; exact c2
  | 3, hu => simp [hcells, Hd.vals, h0] at hu; subst hu; exact c3

def psG (B : Nat) : List (Vc × Vw) := [(⟨1, 0, ⟨#[]⟩, none, 0, 0, none, 0, 0⟩, g0), (⟨2, 1, ⟨#[42]⟩, none, 0, 0, some ⟨B + 1, 0, none⟩, 2, 2⟩, g1), (⟨1, 1000000, ⟨#[94, 97, 38, 64, 49, 61, 53]⟩, some ⟨B, 0, none⟩, 1, 1, some ⟨B + 1 + 1, 0, none⟩, 2, 2⟩, g2)]
def psB (B g cap D : Nat) : List (Vc × Vw) := [(⟨0, 0, ⟨#[]⟩, none, 0, 0, none, 0, 0⟩, ⟨0, 0, ⟨#[]⟩, [], []⟩), (⟨3, 0, ⟨#[]⟩, none, 0, 0, none, 0, 0⟩, ⟨3, 0, ⟨#[]⟩, [], []⟩), (⟨1, 0, ⟨#[42]⟩, none, 0, 0, none, 0, 0⟩, ⟨1, 0, ⟨#[42]⟩, [], []⟩), (⟨1, 0, ⟨#[]⟩, some ⟨B, 0, none⟩, 1, 1, none, 0, 0⟩, ⟨1, 0, ⟨#[]⟩, [h0], []⟩), (⟨1, 0, ⟨#[]⟩, none, 0, 0, some ⟨B + 1 + 1 + 1 + 1, 0, none⟩, 2, 2⟩, ⟨1, 0, ⟨#[]⟩, [], [0, 0]⟩), (⟨1, 1, ⟨#[]⟩, none, 0, 0, some ⟨B + 1 + 1 + 1 + 1 + 1, 0, none⟩, 2, 2⟩, ⟨1, 1, ⟨#[]⟩, [], [0, 0]⟩), (⟨1, 1, ⟨#[42]⟩, none, 0, 0, none, 0, 0⟩, ⟨1, 1, ⟨#[42]⟩, [], []⟩), (⟨1, 1, ⟨#[42]⟩, none, 0, 0, some ⟨B + 1 + 1 + 1 + 1 + 1 + 1, 0, none⟩, 1, 1⟩, ⟨1, 1, ⟨#[42]⟩, [], [0]⟩), (⟨1, 1, ⟨#[42]⟩, none, 0, 0, some ⟨B + 1 + 1 + 1 + 1 + 1 + 1 + 1, 0, none⟩, 2, 2⟩, ⟨1, 1, ⟨#[42]⟩, [], [0, -1]⟩), (⟨1, 1, ⟨#[42]⟩, none, 0, 0, some ⟨B + 1 + 1 + 1 + 1 + 1 + 1 + 1 + 1, 0, none⟩, 2, 2⟩, ⟨1, 1, ⟨#[42]⟩, [], [0, 1000001]⟩), (⟨1, -1, ⟨#[42]⟩, none, 0, 0, some ⟨B + 1 + 1 + 1 + 1 + 1 + 1 + 1 + 1 + 1, 0, none⟩, 2, 2⟩, ⟨1, -1, ⟨#[42]⟩, [], [0, 0]⟩), (⟨1, 1000001, ⟨#[42]⟩, none, 0, 0, some ⟨B + 1 + 1 + 1 + 1 + 1 + 1 + 1 + 1 + 1 + 1, 0, none⟩, 2, 2⟩, ⟨1, 1000001, ⟨#[42]⟩, [], [0, 0]⟩), (⟨1, 1, ⟨#[97]⟩, none, 0, 0, some ⟨B + 1 + 1 + 1 + 1 + 1 + 1 + 1 + 1 + 1 + 1 + 1, 0, none⟩, 2, 2⟩, ⟨1, 1, ⟨#[97]⟩, [], [0, 0]⟩), (⟨1, 1, ⟨#[42]⟩, some ⟨g, 0, none⟩, 2, cap, some ⟨D, 0, none⟩, 2, 2⟩, ⟨1, 1, ⟨#[42]⟩, [h0, h0], [0, 0]⟩)]
def L1 (B : Nat) : List (Array Value × TypeId) := [(#[.int .i64 1, .int .i64 1, .int .i64 1, .int .i64 1], 45), (#[.int .i64 0, .int .i64 0], 3), (#[.int .i64 7, .int .i64 1000000], 3), ((pcells (psG B)).toArray, 25), (#[.int .i64 0, .int .i64 0], 3), (#[.int .i64 0, .int .i64 0], 3), (#[.int .i64 0], 3), (#[.int .i64 0, .int .i64 (-1)], 3), (#[.int .i64 0, .int .i64 1000001], 3), (#[.int .i64 0, .int .i64 0], 3), (#[.int .i64 0, .int .i64 0], 3), (#[.int .i64 0, .int .i64 0], 3)]

theorem w1_h (w1 : World) : ∀ j u, (hcells [h0])[j]? = some u → (allocs w1 (L1 w1.heap.size)).cell? ((⟨w1.heap.size, 0, none⟩ : Addr).add j) = some u := by
  intro j u hu
  have e : (⟨w1.heap.size, 0, none⟩ : Addr).add j = ⟨w1.heap.size + 0, j, none⟩ := by simp [Addr.add]; exact fun h => h.symm
  rw [e, allocs_cell (L1 w1.heap.size) w1 0 _ _ rfl j]
  simpa [hcells, Hd.vals, h0] using hu

set_option maxHeartbeats 2000000 in
theorem rows_G (B : Nat) (W : World) (hB : B + 12 ≤ W.heap.size) (hc : ∀ i c t, (L1 B)[i]? = some (c, t) → ∀ j, W.cell? ⟨B + i, j, none⟩ = c[j]?) : RVf W (some ⟨B + 1 + 1 + 1, 0, none⟩) 3 3 goods := by
  refine ⟨psG B, rfl, rfl, by decide, by decide, ⟨rfl, by decide, fun _ => ⟨B + 1 + 1 + 1, 0, rfl, by show _ < _; omega, by omega, fun j u hu => ?_⟩⟩, fun p hp => ?_⟩
  · rw [Nat.zero_add]
    refine (hc 3 _ _ rfl j).trans ?_
    simpa using hu
  · simp only [psG, List.mem_cons, List.not_mem_nil, or_false] at hp
    rcases hp with rfl | rfl | rfl
    · exact ⟨rfl, rfl, rfl, Nat.le_of_ble_eq_true rfl, rfl, rfl, (Rds.nil _ _ _), (Rds.nil _ _ _)⟩
    · exact ⟨rfl, rfl, rfl, Nat.le_of_ble_eq_true rfl, rfl, rfl, (Rds.nil _ _ _), (two_ints (by show _ < _; omega) (hc 1 _ _ rfl 0) (hc 1 _ _ rfl 1))⟩
    · exact ⟨rfl, rfl, rfl, Nat.le_of_ble_eq_true rfl, rfl, rfl, (one_head (by show _ < _; omega) (hc 0 _ _ rfl 0) (hc 0 _ _ rfl 1) (hc 0 _ _ rfl 2) (hc 0 _ _ rfl 3)), (two_ints (by show _ < _; omega) (hc 2 _ _ rfl 0) (hc 2 _ _ rfl 1))⟩

set_option maxHeartbeats 4000000 in
theorem rows_B (B g cap D : Nat) (W : World) (hB : B + 12 ≤ W.heap.size) (hc : ∀ i c t, (L1 B)[i]? = some (c, t) → ∀ j, W.cell? ⟨B + i, j, none⟩ = c[j]?) (hh : Rds (fun k => k < W.heap.size) W 4 (some ⟨g, 0, none⟩) 2 cap (hcells [h0, h0])) (hd : Rds (fun k => k < W.heap.size) W 1 (some ⟨D, 0, none⟩) 2 2 (icells [0, 0])) (hD : D + 1 < W.heap.size) (hr : ∀ j, W.cell? ⟨D + 1, j, none⟩ = (pcells (psB B g cap D)).toArray[j]?) : RVf W (some ⟨D + 1, 0, none⟩) 14 14 bads := by
  refine ⟨psB B g cap D, rfl, rfl, by decide, by decide, ⟨rfl, by decide, fun _ => ⟨D + 1, 0, rfl, hD, hD, fun j u hu => ?_⟩⟩, fun p hp => ?_⟩
  · rw [Nat.zero_add]
    refine (hr j).trans ?_
    simpa using hu
  · simp only [psB, List.mem_cons, List.not_mem_nil, or_false] at hp
    rcases hp with rfl | rfl | rfl | rfl | rfl | rfl | rfl | rfl | rfl | rfl | rfl | rfl | rfl | rfl
    · exact ⟨rfl, rfl, rfl, Nat.le_of_ble_eq_true rfl, rfl, rfl, (Rds.nil _ _ _), (Rds.nil _ _ _)⟩
    · exact ⟨rfl, rfl, rfl, Nat.le_of_ble_eq_true rfl, rfl, rfl, (Rds.nil _ _ _), (Rds.nil _ _ _)⟩
    · exact ⟨rfl, rfl, rfl, Nat.le_of_ble_eq_true rfl, rfl, rfl, (Rds.nil _ _ _), (Rds.nil _ _ _)⟩
    · exact ⟨rfl, rfl, rfl, Nat.le_of_ble_eq_true rfl, rfl, rfl, (one_head (by show _ < _; omega) (hc 0 _ _ rfl 0) (hc 0 _ _ rfl 1) (hc 0 _ _ rfl 2) (hc 0 _ _ rfl 3)), (Rds.nil _ _ _)⟩
    · exact ⟨rfl, rfl, rfl, Nat.le_of_ble_eq_true rfl, rfl, rfl, (Rds.nil _ _ _), (two_ints (by show _ < _; omega) (hc 4 _ _ rfl 0) (hc 4 _ _ rfl 1))⟩
    · exact ⟨rfl, rfl, rfl, Nat.le_of_ble_eq_true rfl, rfl, rfl, (Rds.nil _ _ _), (two_ints (by show _ < _; omega) (hc 5 _ _ rfl 0) (hc 5 _ _ rfl 1))⟩
    · exact ⟨rfl, rfl, rfl, Nat.le_of_ble_eq_true rfl, rfl, rfl, (Rds.nil _ _ _), (Rds.nil _ _ _)⟩
    · exact ⟨rfl, rfl, rfl, Nat.le_of_ble_eq_true rfl, rfl, rfl, (Rds.nil _ _ _), (one_int (by show _ < _; omega) (hc 6 _ _ rfl 0))⟩
    · exact ⟨rfl, rfl, rfl, Nat.le_of_ble_eq_true rfl, rfl, rfl, (Rds.nil _ _ _), (two_ints (by show _ < _; omega) (hc 7 _ _ rfl 0) (hc 7 _ _ rfl 1))⟩
    · exact ⟨rfl, rfl, rfl, Nat.le_of_ble_eq_true rfl, rfl, rfl, (Rds.nil _ _ _), (two_ints (by show _ < _; omega) (hc 8 _ _ rfl 0) (hc 8 _ _ rfl 1))⟩
    · exact ⟨rfl, rfl, rfl, Nat.le_of_ble_eq_true rfl, rfl, rfl, (Rds.nil _ _ _), (two_ints (by show _ < _; omega) (hc 9 _ _ rfl 0) (hc 9 _ _ rfl 1))⟩
    · exact ⟨rfl, rfl, rfl, Nat.le_of_ble_eq_true rfl, rfl, rfl, (Rds.nil _ _ _), (two_ints (by show _ < _; omega) (hc 10 _ _ rfl 0) (hc 10 _ _ rfl 1))⟩
    · exact ⟨rfl, rfl, rfl, Nat.le_of_ble_eq_true rfl, rfl, rfl, (Rds.nil _ _ _), (two_ints (by show _ < _; omega) (hc 11 _ _ rfl 0) (hc 11 _ _ rfl 1))⟩
    · exact ⟨rfl, rfl, rfl, Nat.le_of_ble_eq_true rfl, rfl, rfl, hh, hd⟩

/-- What the loops stand on. -/
structure RG (w : World) (o o' : Option Addr) (wr : World) : Prop where
  vars : Vars wr
  good : RVf wr o 3 3 goods
  bad : RVf wr o' 14 14 bads
  bel : Below w.heap.size w wr

theorem RG.below {w wr w' : World} {o o' : Option Addr} (h : RG w o o' wr) (hb : Below wr.heap.size wr w') : RG w o o' w' :=
  ⟨h.vars.below hb h.vars.lt, h.good.below hb, h.bad.below hb, h.bel.trans (hb.mono h.bel.size)⟩

theorem grown_below {w w' : World} (h : w.grownBy w' none) : Below w.heap.size w w' :=
  (Kept.grown (P := Any) h (fun k _ e => by cases e)).below (Nat.le_refl _) (fun _ _ => trivial)

set_option maxHeartbeats 4000000 in
theorem forms_start (w w1 w2 : World) (hv : Vars w) (hb1 : Below w.heap.size w w1) (g cap : Nat) (hg1 : w1.heap.size + 1 + 1 + 1 + 1 + 1 + 1 + 1 + 1 + 1 + 1 + 1 + 1 ≤ g) (hg2 : g < w2.heap.size) (hown : w2.ownsRow (w1.heap.size + 1 + 1 + 1 + 1 + 1 + 1 + 1 + 1 + 1 + 1 + 1 + 1) 45 4 (.slice (some ⟨g, 0, none⟩) 2 cap) 2 (hcells [h0] ++ hcells [h0])) (hgr : (allocs w1 (L1 w1.heap.size)).grownBy w2 none) :
    RG w (some ⟨w1.heap.size + 1 + 1 + 1, 0, none⟩) (some ⟨w2.heap.size + 1, 0, none⟩) ((w2.alloc (.cells #[.int .i64 0, .int .i64 0] 3)).alloc (.cells (pcells (psB w1.heap.size g cap w2.heap.size)).toArray 25)) := by
  have hsz : (allocs w1 (L1 w1.heap.size)).heap.size = w1.heap.size + 12 := allocs_size _ _
  have hb2 := grown_below hgr
  have hs2 : w1.heap.size + 12 ≤ w2.heap.size := by have := hb2.size; omega
  obtain ⟨W, hW⟩ : ∃ W, W = (w2.alloc (.cells #[.int .i64 0, .int .i64 0] 3)).alloc (.cells (pcells (psB w1.heap.size g cap w2.heap.size)).toArray 25) := ⟨_, rfl⟩
  rw [← hW]
  have hb3 : Below w2.heap.size w2 W := by rw [hW]; exact ((Below.refl _ w2).alloc (Nat.le_refl _) _).alloc (by simp) _
  have hWs : W.heap.size = w2.heap.size + 2 := by rw [hW]; simp
  have hc : ∀ i c t, (L1 w1.heap.size)[i]? = some (c, t) → ∀ j, W.cell? ⟨w1.heap.size + i, j, none⟩ = c[j]? := fun i c t hi j => by
    have hil : i < 12 := (List.getElem?_eq_some_iff.1 hi).1
    rw [hb3.cell (p := ⟨w1.heap.size + i, j, none⟩) (by show w1.heap.size + i < _; omega), hb2.cell (p := ⟨w1.heap.size + i, j, none⟩) (by show w1.heap.size + i < _; omega)]
    exact allocs_cell _ w1 i c t hi j
  have hh : Rds (fun k => k < W.heap.size) W 4 (some ⟨g, 0, none⟩) 2 cap (hcells [h0, h0]) := by
    have := Rds.of_own (ao := some ⟨g, 0, none⟩) (cap := cap) hown (by decide) (.inl (by decide))
    exact ((this.mono (P' := Any) (fun _ _ _ => trivial)).below hb3).mono (fun b hb _ => hb)
  have d0 : ∀ j, W.cell? ⟨w2.heap.size, j, none⟩ = (#[.int .i64 0, .int .i64 0] : Array Value)[j]? := fun j => by rw [hW, World.cell?_alloc_past _ _ _ (hn := by simp)]; simp
  have dr : ∀ j, W.cell? ⟨w2.heap.size + 1, j, none⟩ = (pcells (psB w1.heap.size g cap w2.heap.size)).toArray[j]? := fun j => by rw [hW, World.cell?_alloc_at _ _ _ _ (by simp)]
  have hbw : Below w.heap.size w W := hb1.trans (((allocs_below (L1 w1.heap.size) w1).trans ((hb2.trans (hb3.mono hb2.size)).mono (by omega))).mono hb1.size)
  exact ⟨hv.below hbw hv.lt, rows_G w1.heap.size W (by omega) hc, rows_B w1.heap.size g cap w2.heap.size W (by omega) hc hh (two_ints (by show _ < _; omega) (d0 0) (d0 1)) (by omega) dr, hbw⟩

end Go.Proofs.YtdeojcodbojmoaaGreatDoor
