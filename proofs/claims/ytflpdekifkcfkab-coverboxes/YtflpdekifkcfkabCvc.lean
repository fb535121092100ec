/- cover.withinOne, cover.Covers: one filter within another. -/
import Derived.Test.YtflpdekifkcfkabCvb
import Derived.Test.YtflpdekifkcfkabBase
namespace Go.Proofs.Ytflpdekifkcfkab
open Go.RowKit
set_option linter.unusedVariables false

set_option maxHeartbeats 1000000 in
/-- The function value of cover.withinOne. -/
theorem wclosure (tb : Nat) (y x : Ev.Bx) (yo xo : Option Addr) (yc xc : Nat) (w : World) (hy : y.ok 32) (hx : x.ok 32) (ty : Txts Any w yo y.nots) (tx : Txts Any w xo x.nots) (hc : ∀ i u, (bcells (y, yo, yc))[i]? = some u → w.cell? ⟨tb, i, none⟩ = some u) (htb : tb < w.heap.size) :
    Calls Try.prog 39 #[.agg #[.int .i64 (x.s 0).how, .int .i64 (x.s 0).lo, .int .i64 (x.s 0).hi, .int .i64 (x.s 1).how, .int .i64 (x.s 1).lo, .int .i64 (x.s 1).hi, .int .i64 (x.s 2).how, .int .i64 (x.s 2).lo, .int .i64 (x.s 2).hi, .int .i64 (x.s 3).how, .int .i64 (x.s 3).lo, .int .i64 (x.s 3).hi, .string x.tag, .slice xo x.nots.length xc], .pointer (some ⟨tb, 0, none⟩)] w fun e w' => e = .returned (.bool (Ev.within y x)) ∧ Below w.heap.size w w' := by
  have q0 : w.cell? ⟨tb, 0, none⟩ = some (.int .i64 (y.s 0).how) := hc 0 _ rfl
  have q1 : w.cell? ⟨tb, 1, none⟩ = some (.int .i64 (y.s 0).lo) := hc 1 _ rfl
  have q2 : w.cell? ⟨tb, 2, none⟩ = some (.int .i64 (y.s 0).hi) := hc 2 _ rfl
  have q3 : w.cell? ⟨tb, 3, none⟩ = some (.int .i64 (y.s 1).how) := hc 3 _ rfl
  have q4 : w.cell? ⟨tb, 4, none⟩ = some (.int .i64 (y.s 1).lo) := hc 4 _ rfl
  have q5 : w.cell? ⟨tb, 5, none⟩ = some (.int .i64 (y.s 1).hi) := hc 5 _ rfl
  have q6 : w.cell? ⟨tb, 6, none⟩ = some (.int .i64 (y.s 2).how) := hc 6 _ rfl
  have q7 : w.cell? ⟨tb, 7, none⟩ = some (.int .i64 (y.s 2).lo) := hc 7 _ rfl
  have q8 : w.cell? ⟨tb, 8, none⟩ = some (.int .i64 (y.s 2).hi) := hc 8 _ rfl
  have q9 : w.cell? ⟨tb, 9, none⟩ = some (.int .i64 (y.s 3).how) := hc 9 _ rfl
  have q10 : w.cell? ⟨tb, 10, none⟩ = some (.int .i64 (y.s 3).lo) := hc 10 _ rfl
  have q11 : w.cell? ⟨tb, 11, none⟩ = some (.int .i64 (y.s 3).hi) := hc 11 _ rfl
  have q12 : w.cell? ⟨tb, 12, none⟩ = some (.string y.tag) := hc 12 _ rfl
  have q13 : w.cell? ⟨tb, 13, none⟩ = some (.slice yo y.nots.length yc) := hc 13 _ rfl
  obtain ⟨W, hW⟩ : ∃ W, W = w.alloc (.cells #[.int .i64 (x.s 0).how, .int .i64 (x.s 0).lo, .int .i64 (x.s 0).hi, .int .i64 (x.s 1).how, .int .i64 (x.s 1).lo, .int .i64 (x.s 1).hi, .int .i64 (x.s 2).how, .int .i64 (x.s 2).lo, .int .i64 (x.s 2).hi, .int .i64 (x.s 3).how, .int .i64 (x.s 3).lo, .int .i64 (x.s 3).hi, .string x.tag, .slice xo x.nots.length xc] 40) := ⟨_, rfl⟩
  have hbW : Below w.heap.size w W := by rw [hW]; exact (Below.refl _ _).alloc (Nat.le_refl _) _
  have c := within_any y x yo xo yc xc 32 32 W hy hx (by omega) (by omega) (ty.below hbW) (tx.below hbW)
  rw [hW] at c
  have HW : Hid (W = w.alloc (.cells #[.int .i64 (x.s 0).how, .int .i64 (x.s 0).lo, .int .i64 (x.s 0).hi, .int .i64 (x.s 1).how, .int .i64 (x.s 1).lo, .int .i64 (x.s 1).hi, .int .i64 (x.s 2).how, .int .i64 (x.s 2).lo, .int .i64 (x.s 2).hi, .int .i64 (x.s 3).how, .int .i64 (x.s 3).lo, .int .i64 (x.s 3).hi, .string x.tag, .slice xo x.nots.length xc] 40)) := hW
  clear hW hy hx ty tx hc
  go_enter Try.func39, Try.ntmps39
  go_wp2_with fail
  refine c.mono ?_
  rintro e w' ⟨rfl, hb⟩
  rw [← HW.out] at hb
  clear c
  go_wp2
  go_ret
  exact ⟨rfl, hbW.trans (hb.mono hbW.size)⟩

/-- None of the first k has y within it. -/
def NoneIn (y : Ev.Bx) (l : List Ev.Bx) (k : Nat) : Prop := ∀ j (hj : j < l.length), j < k → Ev.within y l[j] = false

theorem noneIn_all {y : Ev.Bx} {l : List Ev.Bx} (h : NoneIn y l l.length) : l.any (fun x => Ev.within y x) = false := by
  rw [← Bool.not_eq_true, List.any_eq_true]
  rintro ⟨x, hx, hb⟩
  obtain ⟨j, hj, rfl⟩ := List.getElem_of_mem hx
  rw [h j hj hj] at hb; cases hb

theorem someIn {y : Ev.Bx} {l : List Ev.Bx} {k : Nat} (hk : k < l.length) (h : Ev.within y l[k] = true) : l.any (fun x => Ev.within y x) = true := by
  rw [List.any_eq_true]; exact ⟨l[k], List.getElem_mem hk, h⟩

set_option maxRecDepth 100000 in
set_option maxHeartbeats 4000000 in
/-- slices.IndexFunc of boxes, with that function value. -/
theorem widx (tb : Nat) (y : Ev.Bx) (yo : Option Addr) (yc B : Nat) (ao : Option Addr) (cap : Nat) (l : List Ev.Bx) (w : World) (hl : l.length ≤ 1000) (hy : y.ok 32) (okl : ∀ x ∈ l, x.ok 32) (ty : Txts Any w yo y.nots) (row : RowB B w (.slice ao l.length cap) l) (hc : ∀ i u, (bcells (y, yo, yc))[i]? = some u → w.cell? ⟨tb, i, none⟩ = some u) (htb : tb < w.heap.size) :
    Calls Try.prog 51 #[.slice ao l.length cap, .func (.func 39) #[] #[.pointer (some ⟨tb, 0, none⟩)]] w fun e w' => ∃ r : Int, e = .returned (.int .i64 r) ∧ decide (0 ≤ r) = l.any (fun x => Ev.within y x) ∧ Below w.heap.size w w' := by
  have HX : Hid (y.ok 32 ∧ (∀ x ∈ l, x.ok 32) ∧ Txts Any w yo y.nots ∧ RowB B w (.slice ao l.length cap) l ∧ (∀ i u, (bcells (y, yo, yc))[i]? = some u → w.cell? ⟨tb, i, none⟩ = some u)) := ⟨hy, okl, ty, row, hc⟩
  clear hy okl ty row hc
  go_enter Try.func51, Try.ntmps51
  go_wp2_with fail
  go_loopg [5, 8] l.length (fun g _ i wr => ∃ k : Nat, k ≤ l.length ∧ g = l.length - k ∧ i = .int .i64 k ∧ Hid (NoneIn y l k) ∧ Hid (Below w.heap.size w wr))
  case atStart => exact ⟨0, Nat.zero_le _, rfl, rfl, fun j hj h => absurd h (Nat.not_lt_zero _), Below.refl _ _⟩
  case round =>
    obtain ⟨k, hk, hgk, rfl, HN, hbr⟩ := hrel
    have HGK : Hid (gk = l.length - k) := hgk
    clear hgk
    by_cases hlt : k < l.length
    · have hki : (k : Int) < (l.length : Int) := by omega
      obtain ⟨g, xo, xc, rfl, _, hg, nx, hcell⟩ := (HX.out.2.2.2.1.below hbr.out).at k hlt
      have ox := HX.out.2.1 _ (List.getElem_mem hlt)
      obtain ⟨bx, hbx⟩ : ∃ bx, bx = l[k] := ⟨_, rfl⟩
      rw [← hbx] at nx hcell ox
      have q0 : wr.cell? ⟨g, k * 14, none⟩ = some (.int .i64 (bx.s 0).how) := hcell 0 _ rfl
      have q1 : wr.cell? ⟨g, k * 14 + 1, none⟩ = some (.int .i64 (bx.s 0).lo) := hcell 1 _ rfl
      have q2 : wr.cell? ⟨g, k * 14 + 2, none⟩ = some (.int .i64 (bx.s 0).hi) := hcell 2 _ rfl
      have q3 : wr.cell? ⟨g, k * 14 + 3, none⟩ = some (.int .i64 (bx.s 1).how) := hcell 3 _ rfl
      have q4 : wr.cell? ⟨g, k * 14 + 4, none⟩ = some (.int .i64 (bx.s 1).lo) := hcell 4 _ rfl
      have q5 : wr.cell? ⟨g, k * 14 + 5, none⟩ = some (.int .i64 (bx.s 1).hi) := hcell 5 _ rfl
      have q6 : wr.cell? ⟨g, k * 14 + 6, none⟩ = some (.int .i64 (bx.s 2).how) := hcell 6 _ rfl
      have q7 : wr.cell? ⟨g, k * 14 + 7, none⟩ = some (.int .i64 (bx.s 2).lo) := hcell 7 _ rfl
      have q8 : wr.cell? ⟨g, k * 14 + 8, none⟩ = some (.int .i64 (bx.s 2).hi) := hcell 8 _ rfl
      have q9 : wr.cell? ⟨g, k * 14 + 9, none⟩ = some (.int .i64 (bx.s 3).how) := hcell 9 _ rfl
      have q10 : wr.cell? ⟨g, k * 14 + 10, none⟩ = some (.int .i64 (bx.s 3).lo) := hcell 10 _ rfl
      have q11 : wr.cell? ⟨g, k * 14 + 11, none⟩ = some (.int .i64 (bx.s 3).hi) := hcell 11 _ rfl
      have q12 : wr.cell? ⟨g, k * 14 + 12, none⟩ = some (.string bx.tag) := hcell 12 _ rfl
      have q13 : wr.cell? ⟨g, k * 14 + 13, none⟩ = some (.slice xo bx.nots.length xc) := hcell 13 _ rfl
      have c := wclosure tb y bx yo xo yc xc wr HX.out.1 ox (HX.out.2.2.1.below hbr.out) nx.txts (fun i u h => (hbr.out.cell (p := ⟨tb, i, none⟩) htb).trans (HX.out.2.2.2.2 i u h)) (Nat.lt_of_lt_of_le htb hbr.out.size)
      have HBX : Hid (bx = l[k]) := hbx
      clear hbx hcell nx ox
      cases hq : Ev.within y bx with
      | true =>
        rw [hq] at c
        have HF : Hid (l.any (fun x => Ev.within y x) = true) := someIn hlt (by rw [← HBX.out]; exact hq)
        clear hq
        go_wp2_with fail
        refine c.mono ?_
        rintro e w1 ⟨rfl, hb1⟩
        clear c
        go_wp2
        go_ret
        exact ⟨k, rfl, by rw [HF.out]; simp, hbr.out.trans (hb1.mono hbr.out.size)⟩
      | false =>
        rw [hq] at c
        have HF : Hid (NoneIn y l (k + 1)) := by
          intro j hj hjk
          by_cases e : j = k
          · subst e; rw [← HBX.out]; exact hq
          · exact HN.out j hj (by omega)
        clear hq
        go_wp2_with fail
        refine c.mono ?_
        rintro e w1 ⟨rfl, hb1⟩
        clear c
        go_wp2
        go_roundg (l.length - (k + 1))
        case measure => have := HGK.out; omega
        case rel => exact ⟨k + 1, by omega, rfl, by go_num, HF.out, hbr.out.trans (hb1.mono hbr.out.size)⟩
    · obtain rfl : k = l.length := by omega
      clear hk hlt
      go_wp2
      go_ret
      exact ⟨-1, rfl, by rw [noneIn_all HN.out]; rfl, hbr.out⟩

set_option maxHeartbeats 1000000 in
theorem wcontains (tb : Nat) (y : Ev.Bx) (yo : Option Addr) (yc B : Nat) (ao : Option Addr) (cap : Nat) (l : List Ev.Bx) (w : World) (hl : l.length ≤ 1000) (hy : y.ok 32) (okl : ∀ x ∈ l, x.ok 32) (ty : Txts Any w yo y.nots) (row : RowB B w (.slice ao l.length cap) l) (hc : ∀ i u, (bcells (y, yo, yc))[i]? = some u → w.cell? ⟨tb, i, none⟩ = some u) (htb : tb < w.heap.size) :
    Calls Try.prog 38 #[.slice ao l.length cap, .func (.func 39) #[] #[.pointer (some ⟨tb, 0, none⟩)]] w fun e w' => e = .returned (.bool (l.any (fun x => Ev.within y x))) ∧ Below w.heap.size w w' := by
  have c := widx tb y yo yc B ao cap l w hl hy okl ty row hc htb
  clear hy okl ty row hc
  go_enter Try.func38, Try.ntmps38
  go_wp2_with fail
  refine c.mono ?_
  rintro e w' ⟨r, rfl, hr, hb⟩
  have H : Hid (decide (0 ≤ r) = l.any (fun x => Ev.within y x)) := hr
  clear hr
  go_wp2
  go_ret
  exact ⟨by rw [← H.out]; rfl, hb⟩

set_option maxHeartbeats 1000000 in
/-- cover.withinOne. -/
theorem within_one (y : Ev.Bx) (yo : Option Addr) (yc B : Nat) (ao : Option Addr) (cap : Nat) (l : List Ev.Bx) (w : World) (hl : l.length ≤ 1000) (hy : y.ok 32) (okl : ∀ x ∈ l, x.ok 32) (ty : Txts Any w yo y.nots) (row : RowB B w (.slice ao l.length cap) l) :
    Calls Try.prog 23 #[.agg #[.int .i64 (y.s 0).how, .int .i64 (y.s 0).lo, .int .i64 (y.s 0).hi, .int .i64 (y.s 1).how, .int .i64 (y.s 1).lo, .int .i64 (y.s 1).hi, .int .i64 (y.s 2).how, .int .i64 (y.s 2).lo, .int .i64 (y.s 2).hi, .int .i64 (y.s 3).how, .int .i64 (y.s 3).lo, .int .i64 (y.s 3).hi, .string y.tag, .slice yo y.nots.length yc], .slice ao l.length cap] w fun e w' => e = .returned (.bool (l.any (fun x => Ev.within y x))) ∧ Below w.heap.size w w' := by
  obtain ⟨W, hW⟩ : ∃ W, W = w.alloc (.cells #[.int .i64 (y.s 0).how, .int .i64 (y.s 0).lo, .int .i64 (y.s 0).hi, .int .i64 (y.s 1).how, .int .i64 (y.s 1).lo, .int .i64 (y.s 1).hi, .int .i64 (y.s 2).how, .int .i64 (y.s 2).lo, .int .i64 (y.s 2).hi, .int .i64 (y.s 3).how, .int .i64 (y.s 3).lo, .int .i64 (y.s 3).hi, .string y.tag, .slice yo y.nots.length yc] 40) := ⟨_, rfl⟩
  have hbW : Below w.heap.size w W := by rw [hW]; exact (Below.refl _ _).alloc (Nat.le_refl _) _
  have c := wcontains w.heap.size y yo yc B ao cap l W hl hy okl (ty.below hbW) (row.below hbW) (fun i u h => by rw [hW, World.cell?_alloc_at _ _ _ _ (by simp)]; rw [← h]; simp [bcells]) (by rw [hW]; simp)
  rw [hW] at c
  have HW : Hid (W = w.alloc (.cells #[.int .i64 (y.s 0).how, .int .i64 (y.s 0).lo, .int .i64 (y.s 0).hi, .int .i64 (y.s 1).how, .int .i64 (y.s 1).lo, .int .i64 (y.s 1).hi, .int .i64 (y.s 2).how, .int .i64 (y.s 2).lo, .int .i64 (y.s 2).hi, .int .i64 (y.s 3).how, .int .i64 (y.s 3).lo, .int .i64 (y.s 3).hi, .string y.tag, .slice yo y.nots.length yc] 40)) := hW
  clear hW hy okl ty row
  go_enter Try.func23, Try.ntmps23
  go_wp2_with fail
  refine c.mono ?_
  rintro e w' ⟨rfl, hb⟩
  rw [← HW.out] at hb
  clear c
  go_wp2
  go_ret
  exact ⟨rfl, hbW.trans (hb.mono hbW.size)⟩

/-- The first k of b are within one of a. -/
def CovTo (a b : List Ev.Bx) (k : Nat) : Prop := ∀ j (hj : j < b.length), j < k → a.any (fun x => Ev.within b[j] x) = true

theorem covTo_all {a b : List Ev.Bx} (h : CovTo a b b.length) : Ev.cov a b = true := by
  unfold Ev.cov
  rw [List.all_eq_true]
  intro y hy
  obtain ⟨j, hj, rfl⟩ := List.getElem_of_mem hy
  exact h j hj hj

theorem covTo_step {a b : List Ev.Bx} {k : Nat} (h : CovTo a b k) (hk : k < b.length) (e : a.any (fun x => Ev.within b[k] x) = true) : CovTo a b (k + 1) := by
  intro j hj hlt
  by_cases ej : j = k
  · subst ej; exact e
  · exact h j hj (by omega)

theorem covTo_none {a b : List Ev.Bx} {k : Nat} (hk : k < b.length) (e : a.any (fun x => Ev.within b[k] x) = false) : Ev.cov a b = false := by
  unfold Ev.cov
  rw [← Bool.not_eq_true, List.all_eq_true]
  intro h
  rw [h _ (List.getElem_mem hk)] at e; cases e

/-- What Covers tells. -/
def CPost (w : World) (a b : Option (List Ev.Bx)) (e : Ending) (w' : World) : Prop :=
  e = .returned (.tuple #[.bool (Ev.covers a b), .bool (a.isSome && b.isSome)]) ∧ Below w.heap.size w w'

set_option maxRecDepth 100000 in
set_option maxHeartbeats 4000000 in
/-- cover.Covers. -/
theorem covers11 (f g : Ev.Ft) (w : World) (o1 k1 l1 h1 : Int) (t1 : ByteArray) (x1 : Option Addr) (n1 : Nat) (o2 k2 l2 h2 : Int) (t2 : ByteArray) (x2 : Option Addr) (n2 : Nat) (df : f.deep ≤ 6) (dg : g.deep ≤ 6) (hf : f.fine) (hg : g.fine) (lf : Lies Any w f o1 k1 l1 h1 t1 x1 n1) (lg : Lies Any w g o2 k2 l2 h2 t2 x2 n2) :
    Calls Try.prog 11 #[.agg #[.int .i64 o1, .int .i64 k1, .int .i64 l1, .int .i64 h1, .string t1, .slice x1 n1 n1], .agg #[.int .i64 o2, .int .i64 k2, .int .i64 l2, .int .i64 h2, .string t2, .slice x2 n2 n2]] w (CPost w (f.row false) (g.row false)) := by
  have ff := fits_row f false hf df
  have fg := fits_row g false hg dg
  obtain ⟨W, hW⟩ : ∃ W, W = (w.alloc (.cells #[.int .i64 o1, .int .i64 k1, .int .i64 l1, .int .i64 h1, .string t1, .slice x1 n1 n1] 26)).alloc (.cells #[.int .i64 o2, .int .i64 k2, .int .i64 l2, .int .i64 h2, .string t2, .slice x2 n2 n2] 26) := ⟨_, rfl⟩
  have hbW : Below w.heap.size w W := by rw [hW]; exact ((Below.refl _ _).alloc (Nat.le_refl _) _).alloc (by simp) _
  have c1 := of12 f W o1 k1 l1 h1 t1 x1 n1 df hf (lf.below hbW)
  have c2 := fun w' (hb : Below W.heap.size W w') => of12 g w' o2 k2 l2 h2 t2 x2 n2 dg hg ((lg.below hbW).below hb)
  have d2 : ∀ i, W.cell? ⟨w.heap.size + 1, i, none⟩ = (#[.int .i64 o2, .int .i64 k2, .int .i64 l2, .int .i64 h2, .string t2, .slice x2 n2 n2] : Array Value)[i]? := fun i => by rw [hW, World.cell?_alloc_at _ _ _ _ (by simp)]
  have hs : w.heap.size + 1 < W.heap.size := by rw [hW]; simp
  unfold RPost at c1 c2
  rw [hW] at c1
  have HW : Hid (W = _ ∧ Below w.heap.size w W) := ⟨hW, hbW⟩
  unfold CPost
  clear hW hbW lf lg hf hg df dg
  generalize f.row false = ra at *
  generalize g.row false = rb at *
  have HFF : Hid (Fits 32 ra ∧ Fits 32 rb) := ⟨ff, fg⟩
  clear ff fg
  go_enter Try.func11, Try.ntmps11
  go_wp2_with fail
  refine c1.mono ?_
  rintro e w1 ⟨v1, rfl, row1, hb1⟩
  rw [← HW.out.1] at hb1 row1
  obtain ⟨ao1, cp1, rfl⟩ := row1.slice
  clear c1
  cases ra with
  | none =>
    simp only [Option.isSome_none]
    clear c2
    go_wp2
    go_ret2
    exact ⟨rfl, HW.out.2.trans (hb1.mono HW.out.2.size)⟩
  | some a =>
    simp only [Option.isSome_some, Option.getD_some] at row1 ⊢
    have E2 : ∀ i, w1.cell? ⟨w.heap.size + 1, i, none⟩ = (#[.int .i64 o2, .int .i64 k2, .int .i64 l2, .int .i64 h2, .string t2, .slice x2 n2 n2] : Array Value)[i]? := fun i => (hb1.cell (p := ⟨w.heap.size + 1, i, none⟩) hs).trans (d2 i)
    have hs1 := hb1.size
    have hs1' : w.heap.size + 1 < w1.heap.size := by omega
    have c2' := c2 w1 hb1
    clear c2 d2
    go_wp2_with fail
    refine c2'.mono ?_
    rintro e w2 ⟨v2, rfl, row2, hb2⟩
    obtain ⟨ao2, cp2, rfl⟩ := row2.slice
    have hbw2 : Below w.heap.size w w2 := (HW.out.2.trans (hb1.mono HW.out.2.size)).trans (hb2.mono (by have := HW.out.2.size; omega))
    have HR : Hid (RowB W.heap.size w2 (.slice ao1 a.length cp1) a ∧ Below w.heap.size w w2) := ⟨row1.below hb2, hbw2⟩
    clear c2' E2 row1 hbw2 hb1 hb2
    cases rb with
    | none =>
      simp only [Option.isSome_none]
      clear row2
      go_wp2
      go_ret2
      exact ⟨rfl, HR.out.2⟩
    | some b =>
      simp only [Option.isSome_some, Option.getD_some] at row2 ⊢
      obtain ⟨la, oka⟩ := HFF.out.1 a rfl
      obtain ⟨lb, okb⟩ := HFF.out.2 b rfl
      have HRB : Hid (RowB w1.heap.size w2 (.slice ao2 b.length cp2) b ∧ (∀ x ∈ a, x.ok 32) ∧ (∀ x ∈ b, x.ok 32)) := ⟨row2, oka, okb⟩
      clear row2 oka okb HFF
      go_wp2_with fail
      go_loopg [26] b.length (fun gg i wr => ∃ k : Nat, k ≤ b.length ∧ gg = b.length - k ∧ i = .int .i64 k ∧ Hid (CovTo a b k) ∧ Hid (Below w2.heap.size w2 wr))
      case atStart => exact ⟨0, by omega, rfl, rfl, fun j hj h => by omega, Below.refl _ _⟩
      case round =>
        obtain ⟨k, hk, hgk, rfl, HT, hbr⟩ := hrel
        have HGK : Hid (gk = b.length - k) := hgk
        clear hgk
        by_cases hlt : k < b.length
        · have hki : (k : Int) < (b.length : Int) := by omega
          obtain ⟨gb, yo, yc, rfl, _, hgb, ny, hcell⟩ := (HRB.out.1.below hbr.out).at k hlt
          have oy := HRB.out.2.2 _ (List.getElem_mem hlt)
          obtain ⟨y, hy⟩ : ∃ y, y = b[k] := ⟨_, rfl⟩
          rw [← hy] at ny hcell oy
          have q0 : wr.cell? ⟨gb, k * 14, none⟩ = some (.int .i64 (y.s 0).how) := hcell 0 _ rfl
          have q1 : wr.cell? ⟨gb, k * 14 + 1, none⟩ = some (.int .i64 (y.s 0).lo) := hcell 1 _ rfl
          have q2 : wr.cell? ⟨gb, k * 14 + 2, none⟩ = some (.int .i64 (y.s 0).hi) := hcell 2 _ rfl
          have q3 : wr.cell? ⟨gb, k * 14 + 3, none⟩ = some (.int .i64 (y.s 1).how) := hcell 3 _ rfl
          have q4 : wr.cell? ⟨gb, k * 14 + 4, none⟩ = some (.int .i64 (y.s 1).lo) := hcell 4 _ rfl
          have q5 : wr.cell? ⟨gb, k * 14 + 5, none⟩ = some (.int .i64 (y.s 1).hi) := hcell 5 _ rfl
          have q6 : wr.cell? ⟨gb, k * 14 + 6, none⟩ = some (.int .i64 (y.s 2).how) := hcell 6 _ rfl
          have q7 : wr.cell? ⟨gb, k * 14 + 7, none⟩ = some (.int .i64 (y.s 2).lo) := hcell 7 _ rfl
          have q8 : wr.cell? ⟨gb, k * 14 + 8, none⟩ = some (.int .i64 (y.s 2).hi) := hcell 8 _ rfl
          have q9 : wr.cell? ⟨gb, k * 14 + 9, none⟩ = some (.int .i64 (y.s 3).how) := hcell 9 _ rfl
          have q10 : wr.cell? ⟨gb, k * 14 + 10, none⟩ = some (.int .i64 (y.s 3).lo) := hcell 10 _ rfl
          have q11 : wr.cell? ⟨gb, k * 14 + 11, none⟩ = some (.int .i64 (y.s 3).hi) := hcell 11 _ rfl
          have q12 : wr.cell? ⟨gb, k * 14 + 12, none⟩ = some (.string y.tag) := hcell 12 _ rfl
          have q13 : wr.cell? ⟨gb, k * 14 + 13, none⟩ = some (.slice yo y.nots.length yc) := hcell 13 _ rfl
          obtain ⟨V, hV⟩ : ∃ V, V = wr.alloc (.cells #[.int .i64 (y.s 0).how, .int .i64 (y.s 0).lo, .int .i64 (y.s 0).hi, .int .i64 (y.s 1).how, .int .i64 (y.s 1).lo, .int .i64 (y.s 1).hi, .int .i64 (y.s 2).how, .int .i64 (y.s 2).lo, .int .i64 (y.s 2).hi, .int .i64 (y.s 3).how, .int .i64 (y.s 3).lo, .int .i64 (y.s 3).hi, .string y.tag, .slice yo y.nots.length yc] 40) := ⟨_, rfl⟩
          have hbV : Below wr.heap.size wr V := by rw [hV]; exact (Below.refl _ _).alloc (Nat.le_refl _) _
          have c := within_one y yo yc _ ao1 cp1 a V (by omega) oy HRB.out.2.1 (ny.below hbV).txts ((HR.out.1.below hbr.out).below hbV)
          rw [hV] at c
          have HV : Hid (V = wr.alloc (.cells #[.int .i64 (y.s 0).how, .int .i64 (y.s 0).lo, .int .i64 (y.s 0).hi, .int .i64 (y.s 1).how, .int .i64 (y.s 1).lo, .int .i64 (y.s 1).hi, .int .i64 (y.s 2).how, .int .i64 (y.s 2).lo, .int .i64 (y.s 2).hi, .int .i64 (y.s 3).how, .int .i64 (y.s 3).lo, .int .i64 (y.s 3).hi, .string y.tag, .slice yo y.nots.length yc] 40) ∧ Below wr.heap.size wr V) := ⟨hV, hbV⟩
          obtain ⟨ry, hry⟩ : ∃ ry, ry = a.any (fun x => Ev.within y x) := ⟨_, rfl⟩
          rw [← hry] at c
          have HRY : Hid (a.any (fun x => Ev.within b[k] x) = ry) := by rw [← hy]; exact hry.symm
          clear hcell ny oy hV hbV hry hy
          cases ry with
          | true =>
            go_wp2_with fail
            refine c.mono ?_
            rintro e w3 ⟨rfl, hb3⟩
            rw [← HV.out.1] at hb3
            clear c
            go_wp2
            go_roundg (b.length - (k + 1))
            case measure => have := HGK.out; omega
            case rel => exact ⟨k + 1, by omega, rfl, by go_num, covTo_step HT.out hlt HRY.out, hbr.out.trans ((HV.out.2.trans (hb3.mono HV.out.2.size)).mono hbr.out.size)⟩
          | false =>
            go_wp2_with fail
            refine c.mono ?_
            rintro e w3 ⟨rfl, hb3⟩
            rw [← HV.out.1] at hb3
            clear c
            go_wp2
            go_ret2
            exact ⟨by rw [show Ev.covers (some a) (some b) = false from covTo_none hlt HRY.out]; rfl, HR.out.2.trans ((hbr.out.trans ((HV.out.2.trans (hb3.mono HV.out.2.size)).mono hbr.out.size)).mono HR.out.2.size)⟩
        · obtain rfl : k = b.length := by omega
          clear hk hlt
          go_wp2
          go_ret2
          exact ⟨by rw [show Ev.covers (some a) (some b) = true from covTo_all HT.out]; rfl, HR.out.2.trans (hbr.out.mono HR.out.2.size)⟩

end Go.Proofs.Ytflpdekifkcfkab
