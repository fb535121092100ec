/- What is kept in memory; rows of cells. -/
import Derived.Test.YtdeojcodbojmoaaGreatDoorProg
import Derived.Test.YtdeojcodbojmoaaGreatDoorRowsOf
import Derived.Below
import Derived.WalkKit
import Derived.Deep.RegionHeld3
import Derived.BigQuiet
import Derived.Deep.QuietTactic
namespace Go.Proofs.YtdeojcodbojmoaaGreatDoor
open Go.RowKit
set_option maxRecDepth 100000
set_option linter.unusedVariables false

/-- The blocks of P that were there are as they were; the streams are as they were; no block has gone. -/
structure Kept (P : Nat → Prop) (w w' : World) : Prop where
  os : w'.os = w.os
  tape : w'.tape = w.tape
  output : w'.output = w.output
  size : w.heap.size ≤ w'.heap.size
  block : ∀ k, k < w.heap.size → P k → w'.heap[k]? = w.heap[k]?

theorem Kept.refl (P : Nat → Prop) (w : World) : Kept P w w := ⟨rfl, rfl, rfl, Nat.le_refl _, fun _ _ _ => rfl⟩

theorem Kept.trans {P : Nat → Prop} {a b c : World} (h : Kept P a b) (k : Kept P b c) : Kept P a c :=
  ⟨k.os.trans h.os, k.tape.trans h.tape, k.output.trans h.output, Nat.le_trans h.size k.size, fun i hi hp => (k.block i (Nat.lt_of_lt_of_le hi h.size) hp).trans (h.block i hi hp)⟩

theorem Kept.of_below {P : Nat → Prop} {w w' : World} (h : Below w.heap.size w w') : Kept P w w' := ⟨h.os, h.tape, h.output, h.size, fun k hk _ => h.block k hk⟩

theorem Kept.mono {P P' : Nat → Prop} {w w' : World} (h : Kept P w w') (hp : ∀ k, k < w.heap.size → P' k → P k) : Kept P' w w' := ⟨h.os, h.tape, h.output, h.size, fun k hk q => h.block k hk (hp k hk q)⟩

theorem Kept.below {P : Nat → Prop} {w w' : World} {B : Nat} (h : Kept P w w') (hB : B ≤ w.heap.size) (hp : ∀ k, k < B → P k) : Below B w w' :=
  ⟨h.os, h.tape, h.output, h.size, fun k hk => h.block k (Nat.lt_of_lt_of_le hk hB) (hp k hk)⟩

theorem Kept.drew {P : Nat → Prop} {a w : World} (h : Kept P a w) : Kept P a w.drew := ⟨h.os, h.tape, h.output, h.size, h.block⟩

theorem Kept.alloc {P : Nat → Prop} {a w : World} (h : Kept P a w) (o : Obj) : Kept P a (w.alloc o) :=
  h.trans ⟨rfl, rfl, rfl, by simp, fun k hk _ => Below.heap_alloc _ _ _ hk⟩

theorem Kept.setCell {P : Nat → Prop} {a w : World} (h : Kept P a w) {p : Addr} (hp : ∀ k, k < a.heap.size → P k → k ≠ p.block) (u : Value) : Kept P a (w.setCell p u) :=
  ⟨h.os, h.tape, h.output, Nat.le_trans h.size (by simp [World.setCell]), fun k hk q => (Below.heap_setCell _ _ _ _ (hp k hk q)).trans (h.block k hk q)⟩

theorem Kept.cell {P : Nat → Prop} {w w' : World} (h : Kept P w w') {b o : Nat} (hb : b < w.heap.size) (hp : P b) : w'.cell? ⟨b, o, none⟩ = w.cell? ⟨b, o, none⟩ := World.cell?_of_block (w := w) (h.block b hb hp)

theorem Kept.frozen {P : Nat → Prop} {w w' : World} (h : Kept P w w') {b o : Nat} (hb : b < w.heap.size) (hp : P b) : w'.frozen? ⟨b, o, none⟩ = w.frozen? ⟨b, o, none⟩ := World.frozen?_of_block (w := w) (h.block b hb hp)

theorem bcel {W w1 : World} (hb : Below W.heap.size W w1) : (∀ b o, b < W.heap.size → w1.cell? ⟨b, o, none⟩ = W.cell? ⟨b, o, none⟩) ∧ (∀ b o, b < W.heap.size → w1.frozen? ⟨b, o, none⟩ = W.frozen? ⟨b, o, none⟩) :=
  ⟨fun b o h => hb.cell (p := ⟨b, o, none⟩) h, fun b o h => hb.frozen (p := ⟨b, o, none⟩) h⟩

/-- All blocks. -/
def Any : Nat → Prop := fun _ => True

/-- All blocks but one. -/
def But (pb : Nat) : Nat → Prop := fun k => k ≠ pb

theorem Kept.drewN {P : Nat → Prop} {a w : World} (h : Kept P a w) (q : Nat) : Kept P a (w.drewN q) := ⟨h.os, h.tape, h.output, h.size, h.block⟩

theorem Kept.grown {P : Nat → Prop} {w w' : World} {row : Option Nat} (h : w.grownBy w' row) (hp : ∀ k, P k → some k ≠ row) : Kept P w w' := ⟨h.os, h.tape, h.output, h.size, fun k hk q => h.block k hk (hp k q)⟩

/-- A slice reads as these cells, k of them an element; its block is of P. -/
def Rds (P : Nat → Prop) (w : World) (k : Nat) (ao : Option Addr) (n cap : Nat) (xs : List Value) : Prop :=
  (n = 0 ∧ ao = none ∧ cap = 0 ∧ xs = []) ∨ (0 < n ∧ n ≤ cap ∧ n ≤ 1000 ∧ xs.length = n * k ∧ ∃ b off, ao = some ⟨b, off, none⟩ ∧ P b ∧ b < w.heap.size ∧ ∀ j u, xs[j]? = some u → w.cell? ⟨b, off + j, none⟩ = some u)

theorem Rds.kept {P : Nat → Prop} {w w' : World} {k : Nat} {ao : Option Addr} {n cap : Nat} {xs : List Value} (h : Rds P w k ao n cap xs) (hk : Kept P w w') : Rds P w' k ao n cap xs := by
  rcases h with h | ⟨h1, h2, h3, h4, b, off, e, hp, hb, hc⟩
  · exact .inl h
  · exact .inr ⟨h1, h2, h3, h4, b, off, e, hp, Nat.lt_of_lt_of_le hb hk.size, fun j u hu => (hk.cell hb hp).trans (hc j u hu)⟩

theorem Rds.mono {P P' : Nat → Prop} {w : World} {k : Nat} {ao : Option Addr} {n cap : Nat} {xs : List Value} (h : Rds P w k ao n cap xs) (hp' : ∀ b, b < w.heap.size → P b → P' b) : Rds P' w k ao n cap xs := by
  rcases h with h | ⟨h1, h2, h3, h4, b, off, e, hp, hb, hc⟩
  · exact .inl h
  · exact .inr ⟨h1, h2, h3, h4, b, off, e, hp' b hb hp, hb, hc⟩

theorem Rds.below {w w' : World} {P : Nat → Prop} {k : Nat} {ao : Option Addr} {n cap : Nat} {xs : List Value} (h : Rds P w k ao n cap xs) (hb : Below w.heap.size w w') : Rds P w' k ao n cap xs := h.kept (Kept.of_below hb)

theorem Rds.nil (P : Nat → Prop) (w : World) (k : Nat) : Rds P w k none 0 0 [] := .inl ⟨rfl, rfl, rfl, rfl⟩

theorem Rds.le {P : Nat → Prop} {w : World} {k : Nat} {ao : Option Addr} {n cap : Nat} {xs : List Value} (h : Rds P w k ao n cap xs) : n ≤ 1000 := by
  rcases h with h | h <;> omega

theorem Rds.len {P : Nat → Prop} {w : World} {k : Nat} {ao : Option Addr} {n cap : Nat} {xs : List Value} (h : Rds P w k ao n cap xs) : xs.length = n * k := by
  rcases h with ⟨rfl, _, _, rfl⟩ | h
  · simp
  · exact h.2.2.2.1

/-- What is owned is read. -/
theorem Rds.of_own {w : World} {base : Nat} {e : TypeId} {k : Nat} {ao : Option Addr} {n cap : Nat} {xs : List Value} (h : w.ownsRow base e k (.slice ao n cap) n xs) (hn : n ≤ 1000) (hk : 0 < n ∨ ao = none) : Rds (fun b => base ≤ b) w k ao n cap xs := by
  obtain ⟨hl, h⟩ := h
  rcases h with ⟨e1, rfl⟩ | ⟨g, c, cur, e1, hg, hh, h1, h2, h3, h4⟩
  · cases e1
    exact .inl ⟨rfl, rfl, rfl, by simpa using hl⟩
  · cases e1
    rcases hk with hk | hk
    · refine .inr ⟨hk, h1, hn, hl, g, 0, rfl, hg, ?_, ?_⟩
      · rcases Nat.lt_or_ge g w.heap.size with hlt | hge
        · exact hlt
        · rw [Array.getElem?_eq_none hge] at hh; cases hh
      · intro j u hu
        have hj : j < n * k := by rw [← hl]; exact (List.getElem?_eq_some_iff.1 hu).1
        rw [Nat.zero_add]
        have e2 : w.cell? ⟨g, j, none⟩ = cur[j]? := by simp [World.cell?, hh]
        rw [e2, ← Array.getElem?_toList]
        rw [← h4, List.getElem?_take] at hu
        rw [if_pos hj] at hu
        exact hu
    · cases hk

end Go.Proofs.YtdeojcodbojmoaaGreatDoor
