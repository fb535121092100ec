/- What is kept in memory; rows of cells. -/
/- Views as plain mathematics, and how they lie in memory. -/
/- Rows of numbers and of heads that are held against each other. -/
/- Rows of the same replicas, merged: plain mathematics. -/
/- Two views held against each other. -/
import Derived.Test.YtdeojcodbojmoaaGreatDoorProg
import Derived.Test.YtdeojcodbojmoaaGreatDoorJab
import Derived.Below
import Derived.WalkKit
import Derived.Deep.RegionHeld3
import Derived.BigQuiet
import Derived.Deep.QuietTactic
namespace Go.Proofs.YtdeojcodbojmoaaGreatDoor
open Go.RowKit
set_option maxRecDepth 100000
set_option linter.unusedVariables false

/-- The blocks of P that were there are as they were; the streams are as they were; no block has gone. -/
structure Kept (P : Nat → Prop) (w w' : World) : Prop where
  os : w'.os = w.os
  tape : w'.tape = w.tape
  output : w'.output = w.output
  size : w.heap.size ≤ w'.heap.size
  block : ∀ k, k < w.heap.size → P k → w'.heap[k]? = w.heap[k]?

theorem Kept.refl (P : Nat → Prop) (w : World) : Kept P w w := ⟨rfl, rfl, rfl, Nat.le_refl _, fun _ _ _ => rfl⟩

theorem Kept.trans {P : Nat → Prop} {a b c : World} (h : Kept P a b) (k : Kept P b c) : Kept P a c :=
  ⟨k.os.trans h.os, k.tape.trans h.tape, k.output.trans h.output, Nat.le_trans h.size k.size, fun i hi hp => (k.block i (Nat.lt_of_lt_of_le hi h.size) hp).trans (h.block i hi hp)⟩

theorem Kept.of_below {P : Nat → Prop} {w w' : World} (h : Below w.heap.size w w') : Kept P w w' := ⟨h.os, h.tape, h.output, h.size, fun k hk _ => h.block k hk⟩

theorem Kept.mono {P P' : Nat → Prop} {w w' : World} (h : Kept P w w') (hp : ∀ k, k < w.heap.size → P' k → P k) : Kept P' w w' := ⟨h.os, h.tape, h.output, h.size, fun k hk q => h.block k hk (hp k hk q)⟩

theorem Kept.below {P : Nat → Prop} {w w' : World} {B : Nat} (h : Kept P w w') (hB : B ≤ w.heap.size) (hp : ∀ k, k < B → P k) : Below B w w' :=
  ⟨h.os, h.tape, h.output, h.size, fun k hk => h.block k (Nat.lt_of_lt_of_le hk hB) (hp k hk)⟩

theorem Kept.drew {P : Nat → Prop} {a w : World} (h : Kept P a w) : Kept P a w.drew := ⟨h.os, h.tape, h.output, h.size, h.block⟩

theorem Kept.alloc {P : Nat → Prop} {a w : World} (h : Kept P a w) (o : Obj) : Kept P a (w.alloc o) :=
  h.trans ⟨rfl, rfl, rfl, by simp, fun k hk _ => Below.heap_alloc _ _ _ hk⟩

theorem Kept.setCell {P : Nat → Prop} {a w : World} (h : Kept P a w) {p : Addr} (hp : ∀ k, k < a.heap.size → P k → k ≠ p.block) (u : Value) : Kept P a (w.setCell p u) :=
  ⟨h.os, h.tape, h.output, Nat.le_trans h.size (by simp [World.setCell]), fun k hk q => (Below.heap_setCell _ _ _ _ (hp k hk q)).trans (h.block k hk q)⟩

theorem Kept.cell {P : Nat → Prop} {w w' : World} (h : Kept P w w') {b o : Nat} (hb : b < w.heap.size) (hp : P b) : w'.cell? ⟨b, o, none⟩ = w.cell? ⟨b, o, none⟩ := World.cell?_of_block (w := w) (h.block b hb hp)

theorem Kept.frozen {P : Nat → Prop} {w w' : World} (h : Kept P w w') {b o : Nat} (hb : b < w.heap.size) (hp : P b) : w'.frozen? ⟨b, o, none⟩ = w.frozen? ⟨b, o, none⟩ := World.frozen?_of_block (w := w) (h.block b hb hp)

theorem bcel {W w1 : World} (hb : Below W.heap.size W w1) : (∀ b o, b < W.heap.size → w1.cell? ⟨b, o, none⟩ = W.cell? ⟨b, o, none⟩) ∧ (∀ b o, b < W.heap.size → w1.frozen? ⟨b, o, none⟩ = W.frozen? ⟨b, o, none⟩) :=
  ⟨fun b o h => hb.cell (p := ⟨b, o, none⟩) h, fun b o h => hb.frozen (p := ⟨b, o, none⟩) h⟩

/-- All blocks. -/
def Any : Nat → Prop := fun _ => True

/-- All blocks but one. -/
def But (pb : Nat) : Nat → Prop := fun k => k ≠ pb

theorem Kept.drewN {P : Nat → Prop} {a w : World} (h : Kept P a w) (q : Nat) : Kept P a (w.drewN q) := ⟨h.os, h.tape, h.output, h.size, h.block⟩

theorem Kept.grown {P : Nat → Prop} {w w' : World} {row : Option Nat} (h : w.grownBy w' row) (hp : ∀ k, P k → some k ≠ row) : Kept P w w' := ⟨h.os, h.tape, h.output, h.size, fun k hk q => h.block k hk (hp k q)⟩

/-- A slice reads as these cells, k of them an element; its block is of P. -/
def Rds (P : Nat → Prop) (w : World) (k : Nat) (ao : Option Addr) (n cap : Nat) (xs : List Value) : Prop :=
  (n = 0 ∧ ao = none ∧ cap = 0 ∧ xs = []) ∨ (0 < n ∧ n ≤ cap ∧ n ≤ 1000 ∧ xs.length = n * k ∧ ∃ b off, ao = some ⟨b, off, none⟩ ∧ P b ∧ b < w.heap.size ∧ ∀ j u, xs[j]? = some u → w.cell? ⟨b, off + j, none⟩ = some u)

theorem Rds.kept {P : Nat → Prop} {w w' : World} {k : Nat} {ao : Option Addr} {n cap : Nat} {xs : List Value} (h : Rds P w k ao n cap xs) (hk : Kept P w w') : Rds P w' k ao n cap xs := by
  rcases h with h | ⟨h1, h2, h3, h4, b, off, e, hp, hb, hc⟩
  · exact .inl h
  · exact .inr ⟨h1, h2, h3, h4, b, off, e, hp, Nat.lt_of_lt_of_le hb hk.size, fun j u hu => (hk.cell hb hp).trans (hc j u hu)⟩

theorem Rds.mono {P P' : Nat → Prop} {w : World} {k : Nat} {ao : Option Addr} {n cap : Nat} {xs : List Value} (h : Rds P w k ao n cap xs) (hp' : ∀ b, b < w.heap.size → P b → P' b) : Rds P' w k ao n cap xs := by
  rcases h with h | ⟨h1, h2, h3, h4, b, off, e, hp, hb, hc⟩
  · exact .inl h
  · exact .inr ⟨h1, h2, h3, h4, b, off, e, hp' b hb hp, hb, hc⟩

theorem Rds.below {w w' : World} {P : Nat → Prop} {k : Nat} {ao : Option Addr} {n cap : Nat} {xs : List Value} (h : Rds P w k ao n cap xs) (hb : Below w.heap.size w w') : Rds P w' k ao n cap xs := h.kept (Kept.of_below hb)

theorem Rds.nil (P : Nat → Prop) (w : World) (k : Nat) : Rds P w k none 0 0 [] := .inl ⟨rfl, rfl, rfl, rfl⟩

theorem Rds.le {P : Nat → Prop} {w : World} {k : Nat} {ao : Option Addr} {n cap : Nat} {xs : List Value} (h : Rds P w k ao n cap xs) : n ≤ 1000 := by
  rcases h with h | h <;> omega

theorem Rds.len {P : Nat → Prop} {w : World} {k : Nat} {ao : Option Addr} {n cap : Nat} {xs : List Value} (h : Rds P w k ao n cap xs) : xs.length = n * k := by
  rcases h with ⟨rfl, _, _, rfl⟩ | h
  · simp
  · exact h.2.2.2.1

/-- What is owned is read. -/
theorem Rds.of_own {w : World} {base : Nat} {e : TypeId} {k : Nat} {ao : Option Addr} {n cap : Nat} {xs : List Value} (h : w.ownsRow base e k (.slice ao n cap) n xs) (hn : n ≤ 1000) (hk : 0 < n ∨ ao = none) : Rds (fun b => base ≤ b) w k ao n cap xs := by
  obtain ⟨hl, h⟩ := h
  rcases h with ⟨e1, rfl⟩ | ⟨g, c, cur, e1, hg, hh, h1, h2, h3, h4⟩
  · cases e1
    exact .inl ⟨rfl, rfl, rfl, by simpa using hl⟩
  · cases e1
    rcases hk with hk | hk
    · refine .inr ⟨hk, h1, hn, hl, g, 0, rfl, hg, ?_, ?_⟩
      · rcases Nat.lt_or_ge g w.heap.size with hlt | hge
        · exact hlt
        · rw [Array.getElem?_eq_none hge] at hh; cases hh
      · intro j u hu
        have hj : j < n * k := by rw [← hl]; exact (List.getElem?_eq_some_iff.1 hu).1
        rw [Nat.zero_add]
        have e2 : w.cell? ⟨g, j, none⟩ = cur[j]? := by simp [World.cell?, hh]
        rw [e2, ← Array.getElem?_toList]
        rw [← h4, List.getElem?_take] at hu
        rw [if_pos hj] at hu
        exact hu
    · cases hk

end Go.Proofs.YtdeojcodbojmoaaGreatDoor
namespace Go.Proofs.YtdeojcodbojmoaaGreatDoor
open Go.RowKit
set_option maxRecDepth 100000
set_option linter.unusedVariables false

/-- A head: the last stamp that was seen of a thing. -/
structure Hd where
  it : Int
  L : Int
  R : Int
  N : Int
  deriving DecidableEq

/-- A view. -/
structure Vw where
  R : Int
  Rev : Int
  f : ByteArray
  sn : List Hd
  ep : List Int

def Hd.vals (h : Hd) : List Value := [.int .i64 h.it, .int .i64 h.L, .int .i64 h.R, .int .i64 h.N]
def hcells : List Hd → List Value
  | [] => []
  | h :: r => h.vals ++ hcells r
def icells (l : List Int) : List Value := l.map (Value.int .i64)

theorem hcells_length (l : List Hd) : (hcells l).length = l.length * 4 := by
  induction l with
  | nil => rfl
  | cons h r ih => simp [hcells, Hd.vals, ih]; omega

theorem icells_length (l : List Int) : (icells l).length = l.length := by simp [icells]

theorem hcells_append (l m : List Hd) : hcells (l ++ m) = hcells l ++ hcells m := by
  induction l with
  | nil => rfl
  | cons x r ih => simp [hcells, ih]

theorem hcells_get (l : List Hd) (i q : Nat) (hi : i < l.length) (hq : q < 4) : (hcells l)[i * 4 + q]? = (l[i]).vals[q]? := by
  induction l generalizing i with
  | nil => simp at hi
  | cons y r ih =>
    cases i with
    | zero =>
      simp only [hcells, Nat.zero_mul, Nat.zero_add]
      rw [List.getElem?_append_left (by simp [Hd.vals]; omega)]
      rfl
    | succ i =>
      simp only [hcells]
      rw [List.getElem?_append_right (by simp [Hd.vals]; omega)]
      have e : (i + 1) * 4 + q - (y.vals).length = i * 4 + q := by simp [Hd.vals]; omega
      rw [e]
      exact ih i (by simpa using hi)

/-- A view's cells. -/
structure Vc where
  R : Int
  Rev : Int
  f : ByteArray
  sa : Option Addr
  sn : Nat
  sc : Nat
  ea : Option Addr
  en : Nat
  ec : Nat

def Vc.vals (c : Vc) : List Value := [.int .i64 c.R, .int .i64 c.Rev, .string c.f, .slice c.sa c.sn c.sc, .slice c.ea c.en c.ec]
def pcells : List (Vc × Vw) → List Value
  | [] => []
  | p :: r => p.1.vals ++ pcells r

theorem pcells_length (l : List (Vc × Vw)) : (pcells l).length = l.length * 5 := by
  induction l with
  | nil => rfl
  | cons h r ih => simp [pcells, Vc.vals, ih]; omega

theorem pcells_append (l m : List (Vc × Vw)) : pcells (l ++ m) = pcells l ++ pcells m := by
  induction l with
  | nil => rfl
  | cons x r ih => simp [pcells, ih]

theorem pcells_get (l : List (Vc × Vw)) (i q : Nat) (hi : i < l.length) (hq : q < 5) : (pcells l)[i * 5 + q]? = (l[i]).1.vals[q]? := by
  induction l generalizing i with
  | nil => simp at hi
  | cons y r ih =>
    cases i with
    | zero =>
      simp only [pcells, Nat.zero_mul, Nat.zero_add]
      rw [List.getElem?_append_left (by simp [Vc.vals]; omega)]
      rfl
    | succ i =>
      simp only [pcells]
      rw [List.getElem?_append_right (by simp [Vc.vals]; omega)]
      have e : (i + 1) * 5 + q - (y.1.vals).length = i * 5 + q := by simp [Vc.vals]; omega
      rw [e]
      exact ih i (by simpa using hi)

/-- Cells are a view; its blocks are of P. -/
structure Lv (P : Nat → Prop) (w : World) (c : Vc) (v : Vw) : Prop where
  R : c.R = v.R
  Rev : c.Rev = v.Rev
  f : c.f = v.f
  fs : v.f.size ≤ 1000
  sn : c.sn = v.sn.length
  en : c.en = v.ep.length
  heads : Rds P w 4 c.sa c.sn c.sc (hcells v.sn)
  ints : Rds P w 1 c.ea c.en c.ec (icells v.ep)

theorem Lv.kept {P : Nat → Prop} {w w' : World} {c : Vc} {v : Vw} (h : Lv P w c v) (hk : Kept P w w') : Lv P w' c v := ⟨h.R, h.Rev, h.f, h.fs, h.sn, h.en, h.heads.kept hk, h.ints.kept hk⟩
theorem Lv.mono {P P' : Nat → Prop} {w : World} {c : Vc} {v : Vw} (h : Lv P w c v) (hp : ∀ b, b < w.heap.size → P b → P' b) : Lv P' w c v := ⟨h.R, h.Rev, h.f, h.fs, h.sn, h.en, h.heads.mono hp, h.ints.mono hp⟩
theorem Lv.below {P : Nat → Prop} {w w' : World} {c : Vc} {v : Vw} (h : Lv P w c v) (hb : Below w.heap.size w w') : Lv P w' c v := h.kept (Kept.of_below hb)

/-- The same of a slice that may be empty anyhow. -/
def Rdz (P : Nat → Prop) (w : World) (k : Nat) (ao : Option Addr) (n : Nat) (xs : List Value) : Prop :=
  xs.length = n * k ∧ n ≤ 1000 ∧ (0 < n → ∃ b off, ao = some ⟨b, off, none⟩ ∧ P b ∧ b < w.heap.size ∧ ∀ j u, xs[j]? = some u → w.cell? ⟨b, off + j, none⟩ = some u)

theorem Rds.z {P : Nat → Prop} {w : World} {k : Nat} {ao : Option Addr} {n cap : Nat} {xs : List Value} (h : Rds P w k ao n cap xs) : Rdz P w k ao n xs := by
  refine ⟨h.len, h.le, fun h0 => ?_⟩
  rcases h with h | ⟨_, _, _, _, h⟩
  · omega
  · exact h

theorem Rdz.kept {P : Nat → Prop} {w w' : World} {k : Nat} {ao : Option Addr} {n : Nat} {xs : List Value} (h : Rdz P w k ao n xs) (hk : Kept P w w') : Rdz P w' k ao n xs := by
  refine ⟨h.1, h.2.1, fun h0 => ?_⟩
  obtain ⟨b, off, e, hp, hb, hc⟩ := h.2.2 h0
  exact ⟨b, off, e, hp, Nat.lt_of_lt_of_le hb hk.size, fun j u hu => (hk.cell hb hp).trans (hc j u hu)⟩

theorem Rdz.mono {P P' : Nat → Prop} {w : World} {k : Nat} {ao : Option Addr} {n : Nat} {xs : List Value} (h : Rdz P w k ao n xs) (hp' : ∀ b, b < w.heap.size → P b → P' b) : Rdz P' w k ao n xs := by
  refine ⟨h.1, h.2.1, fun h0 => ?_⟩
  obtain ⟨b, off, e, hp, hb, hc⟩ := h.2.2 h0
  exact ⟨b, off, e, hp' b hb hp, hb, hc⟩

/-- Each of them is. -/
def Lvs (P : Nat → Prop) (w : World) (ps : List (Vc × Vw)) : Prop := ∀ p ∈ ps, Lv P w p.1 p.2
theorem Lvs.kept {P : Nat → Prop} {w w' : World} {ps : List (Vc × Vw)} (h : Lvs P w ps) (hk : Kept P w w') : Lvs P w' ps := fun p hp => (h p hp).kept hk
theorem Lvs.mono {P P' : Nat → Prop} {w : World} {ps : List (Vc × Vw)} (h : Lvs P w ps) (hp' : ∀ b, b < w.heap.size → P b → P' b) : Lvs P' w ps := fun p hp => (h p hp).mono hp'
theorem Lvs.below {P : Nat → Prop} {w w' : World} {ps : List (Vc × Vw)} (h : Lvs P w ps) (hb : Below w.heap.size w w') : Lvs P w' ps := h.kept (Kept.of_below hb)
theorem Lvs.append {P : Nat → Prop} {w : World} {ps qs : List (Vc × Vw)} (h : Lvs P w ps) (k : Lvs P w qs) : Lvs P w (ps ++ qs) := fun p hp => (List.mem_append.1 hp).elim (h p) (k p)

/-- The views of two rows, by replica: the greater Rev; of the same, the first row's. -/
def mg : List Vw → List Vw → List Vw
  | [], b => b
  | x :: a, [] => x :: a
  | x :: a, y :: b =>
    if x.R = y.R then (if y.Rev ≤ x.Rev then x :: mg a b else y :: mg a b)
    else if x.R < y.R then x :: mg a (y :: b) else y :: mg (x :: a) b
termination_by a b => a.length + b.length

theorem mg_nil (b : List Vw) : mg [] b = b := by rw [mg]
theorem mg_nil' (a : List Vw) : mg a [] = a := by cases a <;> rw [mg]
theorem mg_first {x y : Vw} {a b : List Vw} (h : x.R = y.R) (h' : y.Rev ≤ x.Rev) : mg (x :: a) (y :: b) = x :: mg a b := by rw [mg, if_pos h, if_pos h']
theorem mg_second {x y : Vw} {a b : List Vw} (h : x.R = y.R) (h' : ¬ y.Rev ≤ x.Rev) : mg (x :: a) (y :: b) = y :: mg a b := by rw [mg, if_pos h, if_neg h']
theorem mg_less {x y : Vw} {a b : List Vw} (h : x.R < y.R) : mg (x :: a) (y :: b) = x :: mg a (y :: b) := by rw [mg, if_neg (by omega), if_pos h]
theorem mg_more {x y : Vw} {a b : List Vw} (h : ¬ x.R = y.R) (h' : ¬ x.R < y.R) : mg (x :: a) (y :: b) = y :: mg (x :: a) b := by rw [mg, if_neg h, if_neg h']

/-- Are two views alike? -/
def sv (a b : Vw) : Bool := a.R == b.R && (a.Rev == b.Rev && (a.f.toList == b.f.toList && (decide (a.sn = b.sn) && decide (a.ep = b.ep))))
theorem sv_self (a : Vw) : sv a a = true := by simp [sv]
theorem sv_no1 {a b : Vw} (h : (a.R == b.R) = false) : sv a b = false := by simp [sv, h]
theorem sv_no2 {a b : Vw} (h : (a.Rev == b.Rev) = false) : sv a b = false := by simp [sv, h]
theorem sv_no3 {a b : Vw} (h : (a.f.toList == b.f.toList) = false) : sv a b = false := by simp [sv, h]
theorem sv_no4 {a b : Vw} (h : decide (a.sn = b.sn) = false) : sv a b = false := by simp [sv, h]
theorem sv_last {a b : Vw} (h1 : (a.R == b.R) = true) (h2 : (a.Rev == b.Rev) = true) (h3 : (a.f.toList == b.f.toList) = true) (h4 : decide (a.sn = b.sn) = true) : sv a b = decide (a.ep = b.ep) := by simp [sv, h1, h2, h3, h4]

/-- Of two views of one replica. -/
def pick (x y : Vw) : Vw := if y.Rev ≤ x.Rev then x else y

/-- Rows of the same replicas are merged one by one. -/
theorem mg_zip (a b : List Vw) (h : a.map (·.R) = b.map (·.R)) : mg a b = List.zipWith pick a b := by
  induction a generalizing b with
  | nil => cases b with
    | nil => rw [mg_nil]; rfl
    | cons y b => simp at h
  | cons x a ih => cases b with
    | nil => simp at h
    | cons y b =>
      simp only [List.map_cons, List.cons.injEq] at h
      by_cases h' : y.Rev ≤ x.Rev
      · rw [mg_first h.1 h', ih b h.2, List.zipWith_cons_cons]; unfold pick; rw [if_pos h']
      · rw [mg_second h.1 h', ih b h.2, List.zipWith_cons_cons]; unfold pick; rw [if_neg h']

end Go.Proofs.YtdeojcodbojmoaaGreatDoor
namespace Go.Proofs.YtdeojcodbojmoaaGreatDoor
open Go.RowKit
set_option maxRecDepth 100000
set_option linter.unusedVariables false

theorem bel_dN {B : Nat} {a w : World} (h : Below B a w) (q : Nat) : Below B a (w.drewN q) := ⟨h.os, h.tape, h.output, h.size, h.block⟩

/-- A row of numbers, of heads, read one by one. -/
theorem int_at {w : World} {b off : Nat} {l : List Int} (hc : ∀ j u, (icells l)[j]? = some u → w.cell? ⟨b, off + j, none⟩ = some u) (i : Nat) (hi : i < l.length) : w.cell? ⟨b, off + i, none⟩ = some (.int .i64 l[i]) :=
  hc i _ (by simp [icells, hi])

theorem head_at {w : World} {b off : Nat} {l : List Hd} (hc : ∀ j u, (hcells l)[j]? = some u → w.cell? ⟨b, off + j, none⟩ = some u) (i : Nat) (hi : i < l.length) :
    w.cell? ⟨b, off + i * 4, none⟩ = some (.int .i64 (l[i]).it) ∧ w.cell? ⟨b, off + i * 4 + 1, none⟩ = some (.int .i64 (l[i]).L) ∧ w.cell? ⟨b, off + i * 4 + 2, none⟩ = some (.int .i64 (l[i]).R) ∧ w.cell? ⟨b, off + i * 4 + 3, none⟩ = some (.int .i64 (l[i]).N) := by
  have h : ∀ q (hq : q < 4) u, (l[i]).vals[q]? = some u → w.cell? ⟨b, off + i * 4 + q, none⟩ = some u := fun q hq u hu => by
    have := hc (i * 4 + q) u (by rw [hcells_get l i q hi hq]; exact hu)
    rw [← Nat.add_assoc] at this
    exact this
  exact ⟨h 0 (by omega) _ rfl, h 1 (by omega) _ rfl, h 2 (by omega) _ rfl, h 3 (by omega) _ rfl⟩

/-- The first k are alike. -/
def Alike {α : Type} (l m : List α) (k : Nat) : Prop := ∀ j (h1 : j < l.length) (h2 : j < m.length), j < k → l[j] = m[j]
theorem Alike.zero {α : Type} (l m : List α) : Alike l m 0 := fun j _ _ h => by omega
theorem Alike.succ {α : Type} {l m : List α} {k : Nat} (h : Alike l m k) (h1 : k < l.length) (h2 : k < m.length) (e : l[k] = m[k]) : Alike l m (k + 1) := fun j a b hj => by
  by_cases hjk : j < k
  · exact h j a b hjk
  · have : j = k := by omega
    subst this
    exact e
theorem Alike.all {α : Type} {l m : List α} {k : Nat} (h : Alike l m k) (hk : l.length ≤ k) (hl : l.length = m.length) : l = m := List.ext_getElem hl (fun j a b => h j a b (by omega))
set_option maxHeartbeats 1000000 in
/-- Two heads that differ are told apart. -/
theorem hd_ne (x y : Hd) (h : x ≠ y) (w : World) : (Op.equalIn 10000 45 (.agg #[.int .i64 x.it, .int .i64 x.L, .int .i64 x.R, .int .i64 x.N]) (.agg #[.int .i64 y.it, .int .i64 y.L, .int .i64 y.R, .int .i64 y.N])).run Tryz.prog w = .ok false w := by
  obtain ⟨xi, xL, xR, xN⟩ := x
  obtain ⟨yi, yL, yR, yN⟩ := y
  simp only
  by_cases h0 : xi = yi
  · subst h0
    by_cases h1 : xL = yL
    · subst h1
      by_cases h2 : xR = yR
      · subst h2
        have h3 : (xN == yN) = false := by simp at h; simpa using h
        clear h
        go_simp
      · have h3 : (xR == yR) = false := by simpa using h2
        clear h h2
        go_simp
    · have h3 : (xL == yL) = false := by simpa using h1
      clear h h1
      go_simp
  · have h3 : (xi == yi) = false := by simpa using h0
    clear h h0
    go_simp

set_option maxHeartbeats 1000000 in
theorem ints19 (w : World) (P1 P2 : Nat → Prop) (a1 a2 : Option Addr) (c1 c2 : Nat) (l m : List Int) (r1 : Rdz P1 w 1 a1 l.length (icells l)) (r2 : Rdz P2 w 1 a2 m.length (icells m)) :
    Calls Tryz.prog 19 #[.slice a1 l.length c1, .slice a2 m.length c2] w fun e w' => e = .returned (.bool (decide (l = m))) ∧ Below w.heap.size w w' := by
  have hl1 := r1.2.1
  have hl2 := r2.2.1
  by_cases hl : l.length = m.length
  · have hne : ((l.length : Int) != (m.length : Int)) = false := by rw [hl]; simp
    have HL : Hid (l.length = m.length) := hl
    clear hl
    go_enter Tryz.func19, Tryz.ntmps19
    go_wp2
    go_loopw [5] (fun i wr => ∃ k : Nat, k ≤ l.length ∧ i = .int .i64 k ∧ Alike l m k ∧ Below w.heap.size w wr) (fun i _ => l.length - (intOf i).toNat)
    case atStart => exact ⟨0, Nat.zero_le _, rfl, Alike.zero _ _, Below.refl _ _⟩
    case round =>
      obtain ⟨k, hk, rfl, hal, hbel⟩ := hrel
      by_cases hlt : k < l.length
      · have hk1 : k < l.length := hlt
        have hk2 : k < m.length := by rw [← HL.out]; exact hlt
        obtain ⟨b1, o1, rfl, _, hb1, hc1⟩ := r1.2.2 (by omega)
        obtain ⟨b2, o2, rfl, _, hb2, hc2⟩ := r2.2.2 (by omega)
        have f0 := int_at (w := wr) (fun j u hu => (hbel.cell (p := ⟨b1, o1 + j, none⟩) hb1).trans (hc1 j u hu)) k hk1
        have g0 := int_at (w := wr) (fun j u hu => (hbel.cell (p := ⟨b2, o2 + j, none⟩) hb2).trans (hc2 j u hu)) k hk2
        have HC : Hid (_ ∧ _) := ⟨hal, hbel⟩
        have HKm : Hid (l[k] = m[k] → Alike l m (k + 1)) := fun e => hal.succ hk1 hk2 e
        have HKn : Hid (l[k] ≠ m[k] → decide (l = m) = false) := fun e => decide_eq_false (fun x => by subst x; exact e rfl)
        clear hc1 hc2 hal hbel
        generalize l[k] = x at *
        generalize m[k] = y at *
        by_cases hxy : x = y
        · subst hxy
          go_wp2_with fail
          go_quiet (fail)
          go_wp2
          go_roundw
          case rel => exact ⟨k + 1, by omega, by go_num, HKm.out (by simp), bel_dN HC.out.2 _⟩
          case measure => simp [intOf]; omega
        · have hne2 : (x != y) = true := by simpa using hxy
          go_wp2_with fail
          go_quiet (fail)
          go_wp2
          go_ret
          exact ⟨by rw [HKn.out hxy]; rfl, bel_dN HC.out.2 _⟩
      · go_wp2
        go_ret
        exact ⟨by rw [decide_eq_true (hal.all (by omega) HL.out)]; rfl, hbel⟩
  · have hne : ((l.length : Int) != (m.length : Int)) = true := by simp; omega
    have hd : decide (l = m) = false := decide_eq_false (fun e => hl (by rw [e]))
    rw [hd]
    clear hl hd
    go_enter Tryz.func19, Tryz.ntmps19
    go_wp2
    go_ret
    exact ⟨rfl, Below.refl _ _⟩

set_option maxHeartbeats 1000000 in
theorem ints32 (w : World) (P1 P2 : Nat → Prop) (a1 a2 : Option Addr) (c1 c2 : Nat) (l m : List Int) (r1 : Rdz P1 w 1 a1 l.length (icells l)) (r2 : Rdz P2 w 1 a2 m.length (icells m)) :
    Calls Tryz.prog 32 #[.slice a1 l.length c1, .slice a2 m.length c2] w fun e w' => e = .returned (.bool (decide (l = m))) ∧ Below w.heap.size w w' := by
  have hl1 := r1.2.1
  have hl2 := r2.2.1
  by_cases hl : l.length = m.length
  · have hne : ((l.length : Int) != (m.length : Int)) = false := by rw [hl]; simp
    have HL : Hid (l.length = m.length) := hl
    clear hl
    go_enter Tryz.func32, Tryz.ntmps32
    go_wp2
    go_loopw [13] (fun i wr => ∃ k : Nat, k ≤ l.length ∧ i = .int .i64 k ∧ Alike l m k ∧ Below w.heap.size w wr) (fun i _ => l.length - (intOf i).toNat)
    case atStart => exact ⟨0, Nat.zero_le _, rfl, Alike.zero _ _, Below.refl _ _⟩
    case round =>
      obtain ⟨k, hk, rfl, hal, hbel⟩ := hrel
      by_cases hlt : k < l.length
      · have hk1 : k < l.length := hlt
        have hk2 : k < m.length := by rw [← HL.out]; exact hlt
        obtain ⟨b1, o1, rfl, _, hb1, hc1⟩ := r1.2.2 (by omega)
        obtain ⟨b2, o2, rfl, _, hb2, hc2⟩ := r2.2.2 (by omega)
        have f0 := int_at (w := wr) (fun j u hu => (hbel.cell (p := ⟨b1, o1 + j, none⟩) hb1).trans (hc1 j u hu)) k hk1
        have g0 := int_at (w := wr) (fun j u hu => (hbel.cell (p := ⟨b2, o2 + j, none⟩) hb2).trans (hc2 j u hu)) k hk2
        have HC : Hid (_ ∧ _) := ⟨hal, hbel⟩
        have HKm : Hid (l[k] = m[k] → Alike l m (k + 1)) := fun e => hal.succ hk1 hk2 e
        have HKn : Hid (l[k] ≠ m[k] → decide (l = m) = false) := fun e => decide_eq_false (fun x => by subst x; exact e rfl)
        clear hc1 hc2 hal hbel
        generalize l[k] = x at *
        generalize m[k] = y at *
        by_cases hxy : x = y
        · subst hxy
          go_wp2_with fail
          go_quiet (fail)
          go_wp2
          go_roundw
          case rel => exact ⟨k + 1, by omega, by go_num, HKm.out (by simp), bel_dN HC.out.2 _⟩
          case measure => simp [intOf]; omega
        · have hne2 : (x != y) = true := by simpa using hxy
          go_wp2_with fail
          go_quiet (fail)
          go_wp2
          go_ret
          exact ⟨by rw [HKn.out hxy]; rfl, bel_dN HC.out.2 _⟩
      · go_wp2
        go_ret
        exact ⟨by rw [decide_eq_true (hal.all (by omega) HL.out)]; rfl, hbel⟩
  · have hne : ((l.length : Int) != (m.length : Int)) = true := by simp; omega
    have hd : decide (l = m) = false := decide_eq_false (fun e => hl (by rw [e]))
    rw [hd]
    clear hl hd
    go_enter Tryz.func32, Tryz.ntmps32
    go_wp2
    go_ret
    exact ⟨rfl, Below.refl _ _⟩

set_option maxHeartbeats 1000000 in
theorem heads33 (w : World) (P1 P2 : Nat → Prop) (a1 a2 : Option Addr) (c1 c2 : Nat) (l m : List Hd) (r1 : Rdz P1 w 4 a1 l.length (hcells l)) (r2 : Rdz P2 w 4 a2 m.length (hcells m)) :
    Calls Tryz.prog 33 #[.slice a1 l.length c1, .slice a2 m.length c2] w fun e w' => e = .returned (.bool (decide (l = m))) ∧ Below w.heap.size w w' := by
  have hl1 := r1.2.1
  have hl2 := r2.2.1
  by_cases hl : l.length = m.length
  · have hne : ((l.length : Int) != (m.length : Int)) = false := by rw [hl]; simp
    have HL : Hid (l.length = m.length) := hl
    clear hl
    go_enter Tryz.func33, Tryz.ntmps33
    go_wp2
    go_loopw [5] (fun i wr => ∃ k : Nat, k ≤ l.length ∧ i = .int .i64 k ∧ Alike l m k ∧ Below w.heap.size w wr) (fun i _ => l.length - (intOf i).toNat)
    case atStart => exact ⟨0, Nat.zero_le _, rfl, Alike.zero _ _, Below.refl _ _⟩
    case round =>
      obtain ⟨k, hk, rfl, hal, hbel⟩ := hrel
      by_cases hlt : k < l.length
      · have hk1 : k < l.length := hlt
        have hk2 : k < m.length := by rw [← HL.out]; exact hlt
        obtain ⟨b1, o1, rfl, _, hb1, hc1⟩ := r1.2.2 (by omega)
        obtain ⟨b2, o2, rfl, _, hb2, hc2⟩ := r2.2.2 (by omega)
        obtain ⟨f0, f1, f2, f3⟩ := head_at (w := wr) (fun j u hu => (hbel.cell (p := ⟨b1, o1 + j, none⟩) hb1).trans (hc1 j u hu)) k hk1
        obtain ⟨g0, g1, g2, g3⟩ := head_at (w := wr) (fun j u hu => (hbel.cell (p := ⟨b2, o2 + j, none⟩) hb2).trans (hc2 j u hu)) k hk2
        have HC : Hid (_ ∧ _) := ⟨hal, hbel⟩
        have HKm : Hid (l[k] = m[k] → Alike l m (k + 1)) := fun e => hal.succ hk1 hk2 e
        have HKn : Hid (l[k] ≠ m[k] → decide (l = m) = false) := fun e => decide_eq_false (fun x => by subst x; exact e rfl)
        clear hc1 hc2 hal hbel
        generalize l[k] = x at *
        generalize m[k] = y at *
        by_cases hxy : x = y
        · subst hxy
          go_wp2_with fail
          go_quiet (fail)
          go_wp2
          go_roundw
          case rel => exact ⟨k + 1, by omega, by go_num, HKm.out (by simp), bel_dN HC.out.2 _⟩
          case measure => simp [intOf]; omega
        · have hne2 : (x != y) = true := by simpa using hxy
          have he := fun w => hd_ne x y hxy w
          go_wp2_with fail
          go_quiet (fail)
          go_wp2
          go_ret
          exact ⟨by rw [HKn.out hxy]; rfl, bel_dN HC.out.2 _⟩
      · go_wp2
        go_ret
        exact ⟨by rw [decide_eq_true (hal.all (by omega) HL.out)]; rfl, hbel⟩
  · have hne : ((l.length : Int) != (m.length : Int)) = true := by simp; omega
    have hd : decide (l = m) = false := decide_eq_false (fun e => hl (by rw [e]))
    rw [hd]
    clear hl hd
    go_enter Tryz.func33, Tryz.ntmps33
    go_wp2
    go_ret
    exact ⟨rfl, Below.refl _ _⟩

set_option maxHeartbeats 1000000 in
theorem heads31 (w : World) (P1 P2 : Nat → Prop) (a1 a2 : Option Addr) (c1 c2 : Nat) (l m : List Hd) (r1 : Rdz P1 w 4 a1 l.length (hcells l)) (r2 : Rdz P2 w 4 a2 m.length (hcells m)) :
    Calls Tryz.prog 31 #[.slice a1 l.length c1, .slice a2 m.length c2] w fun e w' => e = .returned (.bool (decide (l = m))) ∧ Below w.heap.size w w' := by
  have hl1 := r1.2.1
  have hl2 := r2.2.1
  by_cases hl : l.length = m.length
  · have hne : ((l.length : Int) != (m.length : Int)) = false := by rw [hl]; simp
    have HL : Hid (l.length = m.length) := hl
    clear hl
    go_enter Tryz.func31, Tryz.ntmps31
    go_wp2
    go_loopw [13] (fun i wr => ∃ k : Nat, k ≤ l.length ∧ i = .int .i64 k ∧ Alike l m k ∧ Below w.heap.size w wr) (fun i _ => l.length - (intOf i).toNat)
    case atStart => exact ⟨0, Nat.zero_le _, rfl, Alike.zero _ _, Below.refl _ _⟩
    case round =>
      obtain ⟨k, hk, rfl, hal, hbel⟩ := hrel
      by_cases hlt : k < l.length
      · have hk1 : k < l.length := hlt
        have hk2 : k < m.length := by rw [← HL.out]; exact hlt
        obtain ⟨b1, o1, rfl, _, hb1, hc1⟩ := r1.2.2 (by omega)
        obtain ⟨b2, o2, rfl, _, hb2, hc2⟩ := r2.2.2 (by omega)
        obtain ⟨f0, f1, f2, f3⟩ := head_at (w := wr) (fun j u hu => (hbel.cell (p := ⟨b1, o1 + j, none⟩) hb1).trans (hc1 j u hu)) k hk1
        obtain ⟨g0, g1, g2, g3⟩ := head_at (w := wr) (fun j u hu => (hbel.cell (p := ⟨b2, o2 + j, none⟩) hb2).trans (hc2 j u hu)) k hk2
        have HC : Hid (_ ∧ _) := ⟨hal, hbel⟩
        have HKm : Hid (l[k] = m[k] → Alike l m (k + 1)) := fun e => hal.succ hk1 hk2 e
        have HKn : Hid (l[k] ≠ m[k] → decide (l = m) = false) := fun e => decide_eq_false (fun x => by subst x; exact e rfl)
        clear hc1 hc2 hal hbel
        generalize l[k] = x at *
        generalize m[k] = y at *
        by_cases hxy : x = y
        · subst hxy
          go_wp2_with fail
          go_quiet (fail)
          go_wp2
          go_roundw
          case rel => exact ⟨k + 1, by omega, by go_num, HKm.out (by simp), bel_dN HC.out.2 _⟩
          case measure => simp [intOf]; omega
        · have hne2 : (x != y) = true := by simpa using hxy
          have he := fun w => hd_ne x y hxy w
          go_wp2_with fail
          go_quiet (fail)
          go_wp2
          go_ret
          exact ⟨by rw [HKn.out hxy]; rfl, bel_dN HC.out.2 _⟩
      · go_wp2
        go_ret
        exact ⟨by rw [decide_eq_true (hal.all (by omega) HL.out)]; rfl, hbel⟩
  · have hne : ((l.length : Int) != (m.length : Int)) = true := by simp; omega
    have hd : decide (l = m) = false := decide_eq_false (fun e => hl (by rw [e]))
    rw [hd]
    clear hl hd
    go_enter Tryz.func31, Tryz.ntmps31
    go_wp2
    go_ret
    exact ⟨rfl, Below.refl _ _⟩

end Go.Proofs.YtdeojcodbojmoaaGreatDoor
namespace Go.Proofs.YtdeojcodbojmoaaGreatDoor
set_option linter.unusedVariables false

theorem pick_self (x : Vw) : pick x x = x := by unfold pick; split <;> rfl
theorem pick_R {x y : Vw} (h : x.R = y.R) : (pick x y).R = x.R := by unfold pick; split <;> simp_all
theorem pick_back (x y : Vw) : pick (pick x y) x = pick x y := by
  unfold pick
  by_cases h : y.Rev ≤ x.Rev
  · rw [if_pos h]; rw [if_pos (Int.le_refl _)]
  · rw [if_neg h, if_pos (by omega)]

theorem zip_self (l : List Vw) : List.zipWith pick l l = l := by
  induction l with
  | nil => rfl
  | cons x l ih => rw [List.zipWith_cons_cons, pick_self, ih]

theorem zip_R (a b : List Vw) (h : a.map (·.R) = b.map (·.R)) : (List.zipWith pick a b).map (·.R) = a.map (·.R) := by
  induction a generalizing b with
  | nil => cases b <;> rfl
  | cons x a ih => cases b with
    | nil => simp at h
    | cons y b =>
      simp only [List.map_cons, List.cons.injEq] at h
      rw [List.zipWith_cons_cons, List.map_cons, List.map_cons, pick_R h.1, ih b h.2]

theorem zip_back (a b : List Vw) (h : a.length = b.length) : List.zipWith pick (List.zipWith pick a b) a = List.zipWith pick a b := by
  induction a generalizing b with
  | nil => cases b <;> rfl
  | cons x a ih => cases b with
    | nil => simp at h
    | cons y b =>
      simp only [List.length_cons, Nat.add_right_cancel_iff] at h
      rw [List.zipWith_cons_cons, List.zipWith_cons_cons, pick_back, ih b h]

theorem zip_len (a b : List Vw) (h : a.length = b.length) : (List.zipWith pick a b).length = a.length := by simp [h]

theorem mg_self (l : List Vw) : mg l l = l := by rw [mg_zip l l rfl, zip_self]
theorem mg_back (a b : List Vw) (h : a.map (·.R) = b.map (·.R)) : mg (List.zipWith pick a b) a = List.zipWith pick a b := by
  have hl : a.length = b.length := by have := congrArg List.length h; simpa using this
  rw [mg_zip _ _ (zip_R a b h), zip_back a b hl]

end Go.Proofs.YtdeojcodbojmoaaGreatDoor
namespace Go.Proofs.YtdeojcodbojmoaaGreatDoor
open Go.RowKit
set_option maxRecDepth 100000
set_option linter.unusedVariables false

set_option maxHeartbeats 1000000 in
theorem same15 (P1 P2 : Nat → Prop) (c1 c2 : Vc) (v1 v2 : Vw) (w : World) (l1 : Lv P1 w c1 v1) (l2 : Lv P2 w c2 v2) :
    Calls Tryz.prog 15 #[.agg #[.int .i64 c1.R, .int .i64 c1.Rev, .string c1.f, .slice c1.sa c1.sn c1.sc, .slice c1.ea c1.en c1.ec], .agg #[.int .i64 c2.R, .int .i64 c2.Rev, .string c2.f, .slice c2.sa c2.sn c2.sc, .slice c2.ea c2.en c2.ec]] w fun e w' => e = .returned (.bool (sv v1 v2)) ∧ Below w.heap.size w w' := by
  obtain ⟨R1, V1, f1, a1, n1, z1, b1, m1, y1⟩ := c1
  obtain ⟨R2, V2, f2, a2, n2, z2, b2, m2, y2⟩ := c2
  obtain ⟨r1, g1, t1, x1, u1⟩ := v1
  obtain ⟨r2, g2, t2, x2, u2⟩ := v2
  obtain ⟨e1, e2, e3, s1, e4, e5, k1, k2⟩ := l1
  obtain ⟨e1', e2', e3', s2, e4', e5', k1', k2'⟩ := l2
  simp only at *
  subst e1 e2 e3 e4 e5 e1' e2' e3' e4' e5'
  have hs1 : ∀ w', Below w.heap.size w w' → Calls Tryz.prog 33 #[.slice a1 x1.length z1, .slice a2 x2.length z2] w' fun e w'' => e = .returned (.bool (decide (x1 = x2))) ∧ Below w'.heap.size w' w'' := fun w' hb => heads33 w' P1 P2 a1 a2 z1 z2 x1 x2 (k1.below hb).z (k1'.below hb).z
  have hs2 : ∀ w', Below w.heap.size w w' → Calls Tryz.prog 19 #[.slice b1 u1.length y1, .slice b2 u2.length y2] w' fun e w'' => e = .returned (.bool (decide (u1 = u2))) ∧ Below w'.heap.size w' w'' := fun w' hb => ints19 w' P1 P2 b1 b2 y1 y2 u1 u2 (k2.below hb).z (k2'.below hb).z
  clear k1 k2 k1' k2' s1 s2
  have hbW : ∀ o1 o2 : Obj, Below w.heap.size w ((w.alloc o1).alloc o2) := fun o1 o2 => ((Below.refl _ w).alloc (Nat.le_refl _) _).alloc (by simp) _
  by_cases q1 : R1 = R2
  · have d1 : (R1 == R2) = true := by simpa using q1
    have D1 : Hid ((R1 == R2) = true) := d1
    clear q1
    by_cases q2 : V1 = V2
    · have d2 : (V1 == V2) = true := by simpa using q2
      have D2 : Hid ((V1 == V2) = true) := d2
      clear q2
      by_cases q3 : f1.toList = f2.toList
      · have d3 : (f1.toList == f2.toList) = true := by simpa using q3
        have D3 : Hid ((f1.toList == f2.toList) = true) := d3
        clear q3
        have C1 := fun o1 o2 => hs1 _ (hbW o1 o2)
        have HS : Hid (_ ∧ _) := ⟨hs2, hbW⟩
        clear hs1 hs2 hbW
        go_enter Tryz.func15, Tryz.ntmps15
        go_wp2_with fail
        refine (C1 _ _).mono ?_
        rintro e w1 ⟨rfl, hb1⟩
        clear C1
        have hb0 : Below w.heap.size w w1 := (HS.out.2 _ _).trans (hb1.mono (by simp <;> omega))
        have hsz := hb1.size
        simp at hsz
        have c1 : ∀ i, w1.cell? ⟨w.heap.size, i, none⟩ = (#[.int .i64 R1, .int .i64 V1, .string f1, .slice a1 x1.length z1, .slice b1 u1.length y1] : Array Value)[i]? := fun i => by
          rw [hb1.cell (p := ⟨w.heap.size, i, none⟩) (by simp <;> omega), World.cell?_alloc_past _ _ _ (hn := by simp)]; simp
        have c2 : ∀ i, w1.cell? ⟨w.heap.size + 1, i, none⟩ = (#[.int .i64 R2, .int .i64 V2, .string f2, .slice a2 x2.length z2, .slice b2 u2.length y2] : Array Value)[i]? := fun i => by
          rw [hb1.cell (p := ⟨w.heap.size + 1, i, none⟩) (by simp), World.cell?_alloc_at _ _ _ _ (by simp)]
        have C2 := HS.out.1 w1 hb0
        have HB : Hid (Below w.heap.size w w1) := hb0
        clear HS hb0 hb1
        by_cases q4 : x1 = x2
        · have d4 : decide (x1 = x2) = true := decide_eq_true q4
          have D4 : Hid (decide (x1 = x2) = true) := d4
          clear q4
          go_wp2_with fail
          refine C2.mono ?_
          rintro e w2 ⟨rfl, hb2⟩
          clear C2
          go_wp2
          go_ret
          exact ⟨by rw [sv_last D1.out D2.out D3.out D4.out]; rfl, HB.out.trans (hb2.mono HB.out.size)⟩
        · have d4 : decide (x1 = x2) = false := decide_eq_false q4
          have D4 : Hid (decide (x1 = x2) = false) := d4
          clear q4 C2
          go_wp2
          go_ret
          exact ⟨by rw [sv_no4 D4.out]; rfl, HB.out⟩
      · have d3 : (f1.toList == f2.toList) = false := by simpa using q3
        have D3 : Hid ((f1.toList == f2.toList) = false) := d3
        clear q3 hs1 hs2
        go_enter Tryz.func15, Tryz.ntmps15
        go_wp2
        go_ret
        exact ⟨by rw [sv_no3 D3.out]; rfl, hbW _ _⟩
    · have d2 : (V1 == V2) = false := by simpa using q2
      have D2 : Hid ((V1 == V2) = false) := d2
      clear q2 hs1 hs2
      go_enter Tryz.func15, Tryz.ntmps15
      go_wp2
      go_ret
      exact ⟨by rw [sv_no2 D2.out]; rfl, hbW _ _⟩
  · have d1 : (R1 == R2) = false := by simpa using q1
    have D1 : Hid ((R1 == R2) = false) := d1
    clear q1 hs1 hs2
    go_enter Tryz.func15, Tryz.ntmps15
    go_wp2
    go_ret
    exact ⟨by rw [sv_no1 D1.out]; rfl, hbW _ _⟩

set_option maxHeartbeats 1000000 in
theorem same14 (P1 P2 : Nat → Prop) (c1 c2 : Vc) (v1 v2 : Vw) (w : World) (l1 : Lv P1 w c1 v1) (l2 : Lv P2 w c2 v2) :
    Calls Tryz.prog 14 #[.agg #[.int .i64 c1.R, .int .i64 c1.Rev, .string c1.f, .slice c1.sa c1.sn c1.sc, .slice c1.ea c1.en c1.ec], .agg #[.int .i64 c2.R, .int .i64 c2.Rev, .string c2.f, .slice c2.sa c2.sn c2.sc, .slice c2.ea c2.en c2.ec]] w fun e w' => e = .returned (.bool (sv v1 v2)) ∧ Below w.heap.size w w' := by
  obtain ⟨R1, V1, f1, a1, n1, z1, b1, m1, y1⟩ := c1
  obtain ⟨R2, V2, f2, a2, n2, z2, b2, m2, y2⟩ := c2
  obtain ⟨r1, g1, t1, x1, u1⟩ := v1
  obtain ⟨r2, g2, t2, x2, u2⟩ := v2
  obtain ⟨e1, e2, e3, s1, e4, e5, k1, k2⟩ := l1
  obtain ⟨e1', e2', e3', s2, e4', e5', k1', k2'⟩ := l2
  simp only at *
  subst e1 e2 e3 e4 e5 e1' e2' e3' e4' e5'
  have hs1 : ∀ w', Below w.heap.size w w' → Calls Tryz.prog 31 #[.slice a1 x1.length z1, .slice a2 x2.length z2] w' fun e w'' => e = .returned (.bool (decide (x1 = x2))) ∧ Below w'.heap.size w' w'' := fun w' hb => heads31 w' P1 P2 a1 a2 z1 z2 x1 x2 (k1.below hb).z (k1'.below hb).z
  have hs2 : ∀ w', Below w.heap.size w w' → Calls Tryz.prog 32 #[.slice b1 u1.length y1, .slice b2 u2.length y2] w' fun e w'' => e = .returned (.bool (decide (u1 = u2))) ∧ Below w'.heap.size w' w'' := fun w' hb => ints32 w' P1 P2 b1 b2 y1 y2 u1 u2 (k2.below hb).z (k2'.below hb).z
  clear k1 k2 k1' k2' s1 s2
  have hbW : ∀ o1 o2 : Obj, Below w.heap.size w ((w.alloc o1).alloc o2) := fun o1 o2 => ((Below.refl _ w).alloc (Nat.le_refl _) _).alloc (by simp) _
  by_cases q1 : R1 = R2
  · have d1 : (R1 == R2) = true := by simpa using q1
    have D1 : Hid ((R1 == R2) = true) := d1
    clear q1
    by_cases q2 : V1 = V2
    · have d2 : (V1 == V2) = true := by simpa using q2
      have D2 : Hid ((V1 == V2) = true) := d2
      clear q2
      by_cases q3 : f1.toList = f2.toList
      · have d3 : (f1.toList == f2.toList) = true := by simpa using q3
        have D3 : Hid ((f1.toList == f2.toList) = true) := d3
        clear q3
        have C1 := fun o1 o2 => hs1 _ (hbW o1 o2)
        have HS : Hid (_ ∧ _) := ⟨hs2, hbW⟩
        clear hs1 hs2 hbW
        go_enter Tryz.func14, Tryz.ntmps14
        go_wp2_with fail
        refine (C1 _ _).mono ?_
        rintro e w1 ⟨rfl, hb1⟩
        clear C1
        have hb0 : Below w.heap.size w w1 := (HS.out.2 _ _).trans (hb1.mono (by simp <;> omega))
        have hsz := hb1.size
        simp at hsz
        have c1 : ∀ i, w1.cell? ⟨w.heap.size, i, none⟩ = (#[.int .i64 R1, .int .i64 V1, .string f1, .slice a1 x1.length z1, .slice b1 u1.length y1] : Array Value)[i]? := fun i => by
          rw [hb1.cell (p := ⟨w.heap.size, i, none⟩) (by simp <;> omega), World.cell?_alloc_past _ _ _ (hn := by simp)]; simp
        have c2 : ∀ i, w1.cell? ⟨w.heap.size + 1, i, none⟩ = (#[.int .i64 R2, .int .i64 V2, .string f2, .slice a2 x2.length z2, .slice b2 u2.length y2] : Array Value)[i]? := fun i => by
          rw [hb1.cell (p := ⟨w.heap.size + 1, i, none⟩) (by simp), World.cell?_alloc_at _ _ _ _ (by simp)]
        have C2 := HS.out.1 w1 hb0
        have HB : Hid (Below w.heap.size w w1) := hb0
        clear HS hb0 hb1
        by_cases q4 : x1 = x2
        · have d4 : decide (x1 = x2) = true := decide_eq_true q4
          have D4 : Hid (decide (x1 = x2) = true) := d4
          clear q4
          go_wp2_with fail
          refine C2.mono ?_
          rintro e w2 ⟨rfl, hb2⟩
          clear C2
          go_wp2
          go_ret
          exact ⟨by rw [sv_last D1.out D2.out D3.out D4.out]; rfl, HB.out.trans (hb2.mono HB.out.size)⟩
        · have d4 : decide (x1 = x2) = false := decide_eq_false q4
          have D4 : Hid (decide (x1 = x2) = false) := d4
          clear q4 C2
          go_wp2
          go_ret
          exact ⟨by rw [sv_no4 D4.out]; rfl, HB.out⟩
      · have d3 : (f1.toList == f2.toList) = false := by simpa using q3
        have D3 : Hid ((f1.toList == f2.toList) = false) := d3
        clear q3 hs1 hs2
        go_enter Tryz.func14, Tryz.ntmps14
        go_wp2
        go_ret
        exact ⟨by rw [sv_no3 D3.out]; rfl, hbW _ _⟩
    · have d2 : (V1 == V2) = false := by simpa using q2
      have D2 : Hid ((V1 == V2) = false) := d2
      clear q2 hs1 hs2
      go_enter Tryz.func14, Tryz.ntmps14
      go_wp2
      go_ret
      exact ⟨by rw [sv_no2 D2.out]; rfl, hbW _ _⟩
  · have d1 : (R1 == R2) = false := by simpa using q1
    have D1 : Hid ((R1 == R2) = false) := d1
    clear q1 hs1 hs2
    go_enter Tryz.func14, Tryz.ntmps14
    go_wp2
    go_ret
    exact ⟨by rw [sv_no1 D1.out]; rfl, hbW _ _⟩

end Go.Proofs.YtdeojcodbojmoaaGreatDoor
