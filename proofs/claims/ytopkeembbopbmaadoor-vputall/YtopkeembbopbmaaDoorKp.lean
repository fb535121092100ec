/- What is kept in memory; rows of cells. -/
import Derived.Test.YtopkeembbopbmaaDoorProg
import Derived.Below
import Derived.WalkKit
import Derived.Deep.RegionHeld3
import Derived.BigQuiet
import Derived.Deep.QuietTactic
namespace Go.Proofs.YtopkeembbopbmaaDoor
open Go.RowKit
set_option maxRecDepth 100000
set_option linter.unusedVariables false

/-- The blocks of P that were there are as they were; the streams are as they were; no block has gone. -/
structure Kept (P : Nat → Prop) (w w' : World) : Prop where
  os : w'.os = w.os
  tape : w'.tape = w.tape
  output : w'.output = w.output
  size : w.heap.size ≤ w'.heap.size
  block : ∀ k, k < w.heap.size → P k → w'.heap[k]? = w.heap[k]?

theorem Kept.refl (P : Nat → Prop) (w : World) : Kept P w w := ⟨rfl, rfl, rfl, Nat.le_refl _, fun _ _ _ => rfl⟩

theorem Kept.trans {P : Nat → Prop} {a b c : World} (h : Kept P a b) (k : Kept P b c) : Kept P a c :=
  ⟨k.os.trans h.os, k.tape.trans h.tape, k.output.trans h.output, Nat.le_trans h.size k.size, fun i hi hp => (k.block i (Nat.lt_of_lt_of_le hi h.size) hp).trans (h.block i hi hp)⟩

theorem Kept.of_below {P : Nat → Prop} {w w' : World} (h : Below w.heap.size w w') : Kept P w w' := ⟨h.os, h.tape, h.output, h.size, fun k hk _ => h.block k hk⟩

theorem Kept.mono {P P' : Nat → Prop} {w w' : World} (h : Kept P w w') (hp : ∀ k, k < w.heap.size → P' k → P k) : Kept P' w w' := ⟨h.os, h.tape, h.output, h.size, fun k hk q => h.block k hk (hp k hk q)⟩

theorem Kept.below {P : Nat → Prop} {w w' : World} {B : Nat} (h : Kept P w w') (hB : B ≤ w.heap.size) (hp : ∀ k, k < B → P k) : Below B w w' :=
  ⟨h.os, h.tape, h.output, h.size, fun k hk => h.block k (Nat.lt_of_lt_of_le hk hB) (hp k hk)⟩

theorem Kept.drew {P : Nat → Prop} {a w : World} (h : Kept P a w) : Kept P a w.drew := ⟨h.os, h.tape, h.output, h.size, h.block⟩

theorem Kept.alloc {P : Nat → Prop} {a w : World} (h : Kept P a w) (o : Obj) : Kept P a (w.alloc o) :=
  h.trans ⟨rfl, rfl, rfl, by simp, fun k hk _ => Below.heap_alloc _ _ _ hk⟩

theorem Kept.setCell {P : Nat → Prop} {a w : World} (h : Kept P a w) {p : Addr} (hp : ∀ k, k < a.heap.size → P k → k ≠ p.block) (u : Value) : Kept P a (w.setCell p u) :=
  ⟨h.os, h.tape, h.output, Nat.le_trans h.size (by simp [World.setCell]), fun k hk q => (Below.heap_setCell _ _ _ _ (hp k hk q)).trans (h.block k hk q)⟩

theorem Kept.cell {P : Nat → Prop} {w w' : World} (h : Kept P w w') {b o : Nat} (hb : b < w.heap.size) (hp : P b) : w'.cell? ⟨b, o, none⟩ = w.cell? ⟨b, o, none⟩ := World.cell?_of_block (w := w) (h.block b hb hp)

theorem Kept.frozen {P : Nat → Prop} {w w' : World} (h : Kept P w w') {b o : Nat} (hb : b < w.heap.size) (hp : P b) : w'.frozen? ⟨b, o, none⟩ = w.frozen? ⟨b, o, none⟩ := World.frozen?_of_block (w := w) (h.block b hb hp)

theorem bcel {W w1 : World} (hb : Below W.heap.size W w1) : (∀ b o, b < W.heap.size → w1.cell? ⟨b, o, none⟩ = W.cell? ⟨b, o, none⟩) ∧ (∀ b o, b < W.heap.size → w1.frozen? ⟨b, o, none⟩ = W.frozen? ⟨b, o, none⟩) :=
  ⟨fun b o h => hb.cell (p := ⟨b, o, none⟩) h, fun b o h => hb.frozen (p := ⟨b, o, none⟩) h⟩

/-- All blocks. -/
def Any : Nat → Prop := fun _ => True

/-- All blocks but one. -/
def But (pb : Nat) : Nat → Prop := fun k => k ≠ pb

theorem Kept.drewN {P : Nat → Prop} {a w : World} (h : Kept P a w) (q : Nat) : Kept P a (w.drewN q) := ⟨h.os, h.tape, h.output, h.size, h.block⟩

theorem Kept.grown {P : Nat → Prop} {w w' : World} {row : Option Nat} (h : w.grownBy w' row) (hp : ∀ k, P k → some k ≠ row) : Kept P w w' := ⟨h.os, h.tape, h.output, h.size, fun k hk q => h.block k hk (hp k q)⟩

end Go.Proofs.YtopkeembbopbmaaDoor
