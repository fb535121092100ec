/- Views as plain mathematics, and how they lie in memory. -/
import Derived.Test.YtdeojcodbojmoaaGreatDoorKp
namespace Go.Proofs.YtdeojcodbojmoaaGreatDoor
open Go.RowKit
set_option maxRecDepth 100000
set_option linter.unusedVariables false

/-- A head: the last stamp that was seen of a thing. -/
structure Hd where
  it : Int
  L : Int
  R : Int
  N : Int
  deriving DecidableEq

/-- A view. -/
structure Vw where
  R : Int
  Rev : Int
  f : ByteArray
  sn : List Hd
  ep : List Int

def Hd.vals (h : Hd) : List Value := [.int .i64 h.it, .int .i64 h.L, .int .i64 h.R, .int .i64 h.N]
def hcells : List Hd → List Value
  | [] => []
  | h :: r => h.vals ++ hcells r
def icells (l : List Int) : List Value := l.map (Value.int .i64)

theorem hcells_length (l : List Hd) : (hcells l).length = l.length * 4 := by
  induction l with
  | nil => rfl
  | cons h r ih => simp [hcells, Hd.vals, ih]; omega

theorem icells_length (l : List Int) : (icells l).length = l.length := by simp [icells]

theorem hcells_append (l m : List Hd) : hcells (l ++ m) = hcells l ++ hcells m := by
  induction l with
  | nil => rfl
  | cons x r ih => simp [hcells, ih]

theorem hcells_get (l : List Hd) (i q : Nat) (hi : i < l.length) (hq : q < 4) : (hcells l)[i * 4 + q]? = (l[i]).vals[q]? := by
  induction l generalizing i with
  | nil => simp at hi
  | cons y r ih =>
    cases i with
    | zero =>
      simp only [hcells, Nat.zero_mul, Nat.zero_add]
      rw [List.getElem?_append_left (by simp [Hd.vals]; omega)]
      rfl
    | succ i =>
      simp only [hcells]
      rw [List.getElem?_append_right (by simp [Hd.vals]; omega)]
      have e : (i + 1) * 4 + q - (y.vals).length = i * 4 + q := by simp [Hd.vals]; omega
      rw [e]
      exact ih i (by simpa using hi)

/-- A view's cells. -/
structure Vc where
  R : Int
  Rev : Int
  f : ByteArray
  sa : Option Addr
  sn : Nat
  sc : Nat
  ea : Option Addr
  en : Nat
  ec : Nat

def Vc.vals (c : Vc) : List Value := [.int .i64 c.R, .int .i64 c.Rev, .string c.f, .slice c.sa c.sn c.sc, .slice c.ea c.en c.ec]
def pcells : List (Vc × Vw) → List Value
  | [] => []
  | p :: r => p.1.vals ++ pcells r

theorem pcells_length (l : List (Vc × Vw)) : (pcells l).length = l.length * 5 := by
  induction l with
  | nil => rfl
  | cons h r ih => simp [pcells, Vc.vals, ih]; omega

theorem pcells_append (l m : List (Vc × Vw)) : pcells (l ++ m) = pcells l ++ pcells m := by
  induction l with
  | nil => rfl
  | cons x r ih => simp [pcells, ih]

theorem pcells_get (l : List (Vc × Vw)) (i q : Nat) (hi : i < l.length) (hq : q < 5) : (pcells l)[i * 5 + q]? = (l[i]).1.vals[q]? := by
  induction l generalizing i with
  | nil => simp at hi
  | cons y r ih =>
    cases i with
    | zero =>
      simp only [pcells, Nat.zero_mul, Nat.zero_add]
      rw [List.getElem?_append_left (by simp [Vc.vals]; omega)]
      rfl
    | succ i =>
      simp only [pcells]
      rw [List.getElem?_append_right (by simp [Vc.vals]; omega)]
      have e : (i + 1) * 5 + q - (y.1.vals).length = i * 5 + q := by simp [Vc.vals]; omega
      rw [e]
      exact ih i (by simpa using hi)

/-- Cells are a view; its blocks are of P. -/
structure Lv (P : Nat → Prop) (w : World) (c : Vc) (v : Vw) : Prop where
  R : c.R = v.R
  Rev : c.Rev = v.Rev
  f : c.f = v.f
  fs : v.f.size ≤ 1000
  sn : c.sn = v.sn.length
  en : c.en = v.ep.length
  heads : Rds P w 4 c.sa c.sn c.sc (hcells v.sn)
  ints : Rds P w 1 c.ea c.en c.ec (icells v.ep)

theorem Lv.kept {P : Nat → Prop} {w w' : World} {c : Vc} {v : Vw} (h : Lv P w c v) (hk : Kept P w w') : Lv P w' c v := ⟨h.R, h.Rev, h.f, h.fs, h.sn, h.en, h.heads.kept hk, h.ints.kept hk⟩
theorem Lv.mono {P P' : Nat → Prop} {w : World} {c : Vc} {v : Vw} (h : Lv P w c v) (hp : ∀ b, b < w.heap.size → P b → P' b) : Lv P' w c v := ⟨h.R, h.Rev, h.f, h.fs, h.sn, h.en, h.heads.mono hp, h.ints.mono hp⟩
theorem Lv.below {P : Nat → Prop} {w w' : World} {c : Vc} {v : Vw} (h : Lv P w c v) (hb : Below w.heap.size w w') : Lv P w' c v := h.kept (Kept.of_below hb)

/-- The same of a slice that may be empty anyhow. -/
def Rdz (P : Nat → Prop) (w : World) (k : Nat) (ao : Option Addr) (n : Nat) (xs : List Value) : Prop :=
  xs.length = n * k ∧ n ≤ 1000 ∧ (0 < n → ∃ b off, ao = some ⟨b, off, none⟩ ∧ P b ∧ b < w.heap.size ∧ ∀ j u, xs[j]? = some u → w.cell? ⟨b, off + j, none⟩ = some u)

theorem Rds.z {P : Nat → Prop} {w : World} {k : Nat} {ao : Option Addr} {n cap : Nat} {xs : List Value} (h : Rds P w k ao n cap xs) : Rdz P w k ao n xs := by
  refine ⟨h.len, h.le, fun h0 => ?_⟩
  rcases h with h | ⟨_, _, _, _, h⟩
  · omega
  · exact h

theorem Rdz.kept {P : Nat → Prop} {w w' : World} {k : Nat} {ao : Option Addr} {n : Nat} {xs : List Value} (h : Rdz P w k ao n xs) (hk : Kept P w w') : Rdz P w' k ao n xs := by
  refine ⟨h.1, h.2.1, fun h0 => ?_⟩
  obtain ⟨b, off, e, hp, hb, hc⟩ := h.2.2 h0
  exact ⟨b, off, e, hp, Nat.lt_of_lt_of_le hb hk.size, fun j u hu => (hk.cell hb hp).trans (hc j u hu)⟩

theorem Rdz.mono {P P' : Nat → Prop} {w : World} {k : Nat} {ao : Option Addr} {n : Nat} {xs : List Value} (h : Rdz P w k ao n xs) (hp' : ∀ b, b < w.heap.size → P b → P' b) : Rdz P' w k ao n xs := by
  refine ⟨h.1, h.2.1, fun h0 => ?_⟩
  obtain ⟨b, off, e, hp, hb, hc⟩ := h.2.2 h0
  exact ⟨b, off, e, hp' b hb hp, hb, hc⟩

/-- Each of them is. -/
def Lvs (P : Nat → Prop) (w : World) (ps : List (Vc × Vw)) : Prop := ∀ p ∈ ps, Lv P w p.1 p.2
theorem Lvs.kept {P : Nat → Prop} {w w' : World} {ps : List (Vc × Vw)} (h : Lvs P w ps) (hk : Kept P w w') : Lvs P w' ps := fun p hp => (h p hp).kept hk
theorem Lvs.mono {P P' : Nat → Prop} {w : World} {ps : List (Vc × Vw)} (h : Lvs P w ps) (hp' : ∀ b, b < w.heap.size → P b → P' b) : Lvs P' w ps := fun p hp => (h p hp).mono hp'
theorem Lvs.below {P : Nat → Prop} {w w' : World} {ps : List (Vc × Vw)} (h : Lvs P w ps) (hb : Below w.heap.size w w') : Lvs P w' ps := h.kept (Kept.of_below hb)
theorem Lvs.append {P : Nat → Prop} {w : World} {ps qs : List (Vc × Vw)} (h : Lvs P w ps) (k : Lvs P w qs) : Lvs P w (ps ++ qs) := fun p hp => (List.mem_append.1 hp).elim (h p) (k p)

/-- The views of two rows, by replica: the greater Rev; of the same, the first row's. -/
def mg : List Vw → List Vw → List Vw
  | [], b => b
  | x :: a, [] => x :: a
  | x :: a, y :: b =>
    if x.R = y.R then (if y.Rev ≤ x.Rev then x :: mg a b else y :: mg a b)
    else if x.R < y.R then x :: mg a (y :: b) else y :: mg (x :: a) b
termination_by a b => a.length + b.length

theorem mg_nil (b : List Vw) : mg [] b = b := by rw [mg]
theorem mg_nil' (a : List Vw) : mg a [] = a := by cases a <;> rw [mg]
theorem mg_first {x y : Vw} {a b : List Vw} (h : x.R = y.R) (h' : y.Rev ≤ x.Rev) : mg (x :: a) (y :: b) = x :: mg a b := by rw [mg, if_pos h, if_pos h']
theorem mg_second {x y : Vw} {a b : List Vw} (h : x.R = y.R) (h' : ¬ y.Rev ≤ x.Rev) : mg (x :: a) (y :: b) = y :: mg a b := by rw [mg, if_pos h, if_neg h']
theorem mg_less {x y : Vw} {a b : List Vw} (h : x.R < y.R) : mg (x :: a) (y :: b) = x :: mg a (y :: b) := by rw [mg, if_neg (by omega), if_pos h]
theorem mg_more {x y : Vw} {a b : List Vw} (h : ¬ x.R = y.R) (h' : ¬ x.R < y.R) : mg (x :: a) (y :: b) = y :: mg (x :: a) b := by rw [mg, if_neg h, if_neg h']

/-- Are two views alike? -/
def sv (a b : Vw) : Bool := a.R == b.R && (a.Rev == b.Rev && (a.f.toList == b.f.toList && (decide (a.sn = b.sn) && decide (a.ep = b.ep))))
theorem sv_self (a : Vw) : sv a a = true := by simp [sv]
theorem sv_no1 {a b : Vw} (h : (a.R == b.R) = false) : sv a b = false := by simp [sv, h]
theorem sv_no2 {a b : Vw} (h : (a.Rev == b.Rev) = false) : sv a b = false := by simp [sv, h]
theorem sv_no3 {a b : Vw} (h : (a.f.toList == b.f.toList) = false) : sv a b = false := by simp [sv, h]
theorem sv_no4 {a b : Vw} (h : decide (a.sn = b.sn) = false) : sv a b = false := by simp [sv, h]
theorem sv_last {a b : Vw} (h1 : (a.R == b.R) = true) (h2 : (a.Rev == b.Rev) = true) (h3 : (a.f.toList == b.f.toList) = true) (h4 : decide (a.sn = b.sn) = true) : sv a b = decide (a.ep = b.ep) := by simp [sv, h1, h2, h3, h4]

/-- Of two views of one replica. -/
def pick (x y : Vw) : Vw := if y.Rev ≤ x.Rev then x else y

/-- Rows of the same replicas are merged one by one. -/
theorem mg_zip (a b : List Vw) (h : a.map (·.R) = b.map (·.R)) : mg a b = List.zipWith pick a b := by
  induction a generalizing b with
  | nil => cases b with
    | nil => rw [mg_nil]; rfl
    | cons y b => simp at h
  | cons x a ih => cases b with
    | nil => simp at h
    | cons y b =>
      simp only [List.map_cons, List.cons.injEq] at h
      by_cases h' : y.Rev ≤ x.Rev
      · rw [mg_first h.1 h', ih b h.2, List.zipWith_cons_cons]; unfold pick; rw [if_pos h']
      · rw [mg_second h.1 h', ih b h.2, List.zipWith_cons_cons]; unfold pick; rw [if_neg h']

end Go.Proofs.YtdeojcodbojmoaaGreatDoor
