/- norm.meets: each of the first with each of the second. -/
import Derived.Test.YtflpdekifkcfkabLeaf
import Derived.Test.YtflpdekifkcfkabMeetd
import Derived.OwnWalk
import Derived.ArgAppend
namespace Go.Proofs.Ytflpdekifkcfkab
open Go.RowKit
set_option linter.unusedVariables false

theorem grown_any {w w' : World} (h : w.grownBy w' none) (row : Option Nat) : w.grownBy w' row := ⟨h.os, h.tape, h.output, h.size, fun k hk _ => h.block k hk (by simp)⟩

/-- 'append' of one box: it is put where the row lies, or the row is laid anew. -/
theorem append_box' {w : World} {ops : Array Oper} {rest : List Oper} {o : Oper} {a : Act} {Q : Exit → Act → World → Prop} (hgd : o.guard = none) (s y : Operand)
    (ho : o.op = .call { callee := .builtin .append, args := #[s, y], argTypes := #[32, 32] })
    (B : Nat) (v : Value) (l : List Ev.Bx) (hs : a.eval s = v) (row : RowB B w v l) (x : El) (hx : Nt B w x.2.1 x.2.2 x.1.nots) (n : Nat) (hy : a.eval y = .slice (some ⟨n, 0, none⟩) 1 1)
    (hc : ∀ i u, (bcells x)[i]? = some u → w.cell? ⟨n, i, none⟩ = some u) (hl : l.length ≤ 10000) (hB : B ≤ w.heap.size)
    (h : ∀ v' w', RowB B w' v' (l ++ [x.1]) → w.grownBy w' v.ownBlock → (∀ k, v'.ownBlock = some k → v.ownBlock = some k ∨ w.heap.size ≤ k) → wpList Try.prog ops Q rest (a.put o.dst v') w') : wpList Try.prog ops Q (o :: rest) a w := by
  obtain ⟨es, h1, h2, h3⟩ := row
  obtain ⟨i0, hi, hz0, hz1, hz2⟩ := info_parts Try.info40
  have hn : ∀ j u, (bcells x)[j]? = some u → w.cell? ((⟨n, 0, none⟩ : Addr).add j) = some u := by
    intro j u hj
    have := hc j u hj
    simp only [Addr.add]
    split
    · rename_i h0; subst h0; exact this
    · simpa using this
  have h1c : ∀ u ∈ bcells x, u.oneCell' = true := fun u hu => cellsB_one [x] u (by simpa [cellsB] using hu)
  have hlen := h3.1
  rcases h3.2 with ⟨hv, hl0⟩ | ⟨g, cap, cur, hv, hg, hh, hc1, hc2, hc3, hc4⟩
  · refine wpList_append_grows w hgd s y 32 ho 40 i0 (.agg #[.int .i64 0, .int .i64 0, .int .i64 0, .int .i64 0, .int .i64 0, .int .i64 0, .int .i64 0, .int .i64 0, .int .i64 0, .int .i64 0, .int .i64 0, .int .i64 0, .string ⟨#[]⟩, .slice none 0 0]) 14 136 Try.underlying32 hi hz0 hz1 hz2 rfl (by decide) none 0 0 (cellsB es) (hs.trans hv) (fun _ => ⟨rfl, rfl⟩) (by rw [hlen, hl0]) (fun b hb => (by cases hb)) ⟨n, 0, none⟩ 1 1 (bcells x) hy rfl hn h1c (by omega) (by unfold maxLen; omega) (by omega) (fun v' w' g1 g2 => h v' w' ?_ (grown_any g2 _) (fun k hk => .inr (g1.lt k hk).1))
    exact RowB.snoc es x h1 h2 h3 (grown_any g2 _) (own_mono (by rw [hl0]; exact g1) hB) hx
  · by_cases hroom : l.length + 1 ≤ cap
    · subst hv
      exact wpList_append_fits w hgd s y 32 ho B 40 i0 14 Try.underlying32 hi hz1 g l.length cap (cellsB es) hs h3 ⟨n, 0, none⟩ 1 1 (bcells x) hy rfl hn h1c hroom (fun w' g1 g2 => h _ w' (RowB.snoc es x h1 h2 h3 g2 g1 hx) g2 (fun k hk => .inl hk))
    · refine wpList_append_grows w hgd s y 32 ho 40 i0 (.agg #[.int .i64 0, .int .i64 0, .int .i64 0, .int .i64 0, .int .i64 0, .int .i64 0, .int .i64 0, .int .i64 0, .int .i64 0, .int .i64 0, .int .i64 0, .int .i64 0, .string ⟨#[]⟩, .slice none 0 0]) 14 136 Try.underlying32 hi hz0 hz1 hz2 rfl (by decide) (some ⟨g, 0, none⟩) l.length cap (cellsB es) (hs.trans hv) (fun e => (by cases e)) hlen ?_ ⟨n, 0, none⟩ 1 1 (bcells x) hy rfl hn h1c (by omega) (by unfold maxLen; omega) (by omega) (fun v' w' g1 g2 => h v' w' ?_ (grown_any g2 _) (fun k hk => .inr (g1.lt k hk).1))
      · intro b hb j u hj
        cases hb
        subst hv
        exact h3.cells (g := g) rfl j u hj
      · exact RowB.snoc es x h1 h2 h3 (grown_any g2 _) (own_mono g1 hB) hx

theorem row_keep {B : Nat} {w w' : World} {v : Value} {l : List Ev.Bx} (h : RowB B w v l) (hg : w.grownBy w' v.ownBlock) {b : Nat} {c : Array Value} (hc : w.heap[b]? = some (.cells c 9 (0, 0))) : w'.heap[b]? = w.heap[b]? := by
  obtain ⟨es, h1, h2, h3⟩ := h
  have hlt : b < w.heap.size := by
    by_cases hlt : b < w.heap.size
    · exact hlt
    · rw [Array.getElem?_eq_none (by omega)] at hc; cases hc
  refine hg.block b hlt (fun e => ?_)
  rcases h3.2 with ⟨hv, hn⟩ | ⟨g, cap', cur, hv, _, hh, _⟩
  · subst hv; simp [Value.ownBlock] at e
  · subst hv
    simp only [Value.ownBlock, Option.some.injEq] at e
    subst e
    rw [hh] at hc
    simp at hc

theorem row_base {B : Nat} {w : World} {v : Value} {l : List Ev.Bx} (h : RowB B w v l) {k : Nat} (hk : v.ownBlock = some k) : B ≤ k := by
  obtain ⟨es, h1, h2, h3⟩ := h
  exact (h3.lt k hk).1

theorem length_meets (a b : List Ev.Bx) : (Ev.meets a b).length ≤ a.length * b.length := by
  induction a with
  | nil => simp [Ev.meets]
  | cons x r ih =>
    have e : Ev.meets (x :: r) b = (b.filterMap fun y => Ev.meet x y) ++ Ev.meets r b := rfl
    rw [e, List.length_append, List.length_cons, Nat.add_mul]
    have := List.length_filterMap_le (fun y => Ev.meet x y) b
    omega

/-- The Meets of the first k, and of the next one with the first j. -/
def upto (a b : List Ev.Bx) (k : Nat) (hk : k < a.length) (j : Nat) : List Ev.Bx := Ev.meets (a.take k) b ++ (b.take j).filterMap fun y => Ev.meet a[k] y

theorem upto_zero (a b : List Ev.Bx) (k : Nat) (hk : k < a.length) : upto a b k hk 0 = Ev.meets (a.take k) b := by simp [upto]

theorem upto_all (a b : List Ev.Bx) (k : Nat) (hk : k < a.length) : upto a b k hk b.length = Ev.meets (a.take (k + 1)) b := by
  unfold upto Ev.meets
  rw [List.take_length, List.take_succ_eq_append_getElem hk, List.flatMap_append]
  simp

theorem upto_none (a b : List Ev.Bx) (k : Nat) (hk : k < a.length) (j : Nat) (hj : j < b.length) (h : Ev.meet a[k] b[j] = none) : upto a b k hk (j + 1) = upto a b k hk j := by
  unfold upto
  rw [List.take_succ_eq_append_getElem hj, List.filterMap_append]
  simp [h]

theorem upto_some (a b : List Ev.Bx) (k : Nat) (hk : k < a.length) (j : Nat) (hj : j < b.length) (z : Ev.Bx) (h : Ev.meet a[k] b[j] = some z) : upto a b k hk (j + 1) = upto a b k hk j ++ [z] := by
  unfold upto
  rw [List.take_succ_eq_append_getElem hj, List.filterMap_append]
  simp [h]

theorem upto_len (a b : List Ev.Bx) (k : Nat) (hk : k < a.length) (j : Nat) : (upto a b k hk j).length ≤ a.length * b.length + b.length := by
  unfold upto
  rw [List.length_append]
  have h1 := length_meets (a.take k) b
  have h2 := List.length_filterMap_le (fun y => Ev.meet a[k] y) (b.take j)
  have h3 : (a.take k).length * b.length ≤ a.length * b.length := Nat.mul_le_mul_right _ (by simp; omega)
  have h4 : (b.take j).length ≤ b.length := by simp; omega
  omega

set_option maxRecDepth 100000 in
set_option maxHeartbeats 8000000 in
/-- norm.meets. -/
theorem meets61 (l1 l2 : List Ev.Bx) (a1 a2 : Option Addr) (c1 c2 n m B1 B2 : Nat) (w : World) (r1 : RowB B1 w (.slice a1 l1.length c1) l1) (r2 : RowB B2 w (.slice a2 l2.length c2) l2) (o1 : ∀ x ∈ l1, x.ok n) (o2 : ∀ x ∈ l2, x.ok m) (hn : n ≤ 500) (hm : m ≤ 500) (h1 : l1.length ≤ 16) (h2 : l2.length ≤ 16) :
    Calls Try.prog 59 #[.slice a1 l1.length c1, .slice a2 l2.length c2] w fun e w' => ∃ v, e = .returned v ∧ RowB w.heap.size w' v (Ev.meets l1 l2) ∧ Below w.heap.size w w' := by
  have hbound : ∀ k (hk : k < l1.length) j, (upto l1 l2 k hk j).length ≤ 272 := fun k hk j => Nat.le_trans (upto_len l1 l2 k hk j) (by
    have : l1.length * l2.length ≤ 16 * 16 := Nat.mul_le_mul h1 h2
    omega)
  go_enter Try.func59, Try.ntmps59
  go_wp2_with fail
  go_loopw [5, 14] (fun v i wr => ∃ k : Nat, k ≤ l1.length ∧ i = .int .i64 k ∧ RowB w.heap.size wr v (Ev.meets (l1.take k) l2) ∧ Below w.heap.size w wr) (fun _ i _ => l1.length - (intOf i).toNat)
  case atStart => exact ⟨0, by omega, rfl, RowB.nil _ _, Below.refl _ _⟩
  case round =>
    obtain ⟨k, hk, rfl, R, hbr⟩ := hrel
    obtain ⟨vo, vc, rfl⟩ := R.slice
    by_cases hlt : k < l1.length
    · have hb := hbound k hlt
      obtain ⟨g, xo, xc, rfl, _, hg, nx, hcell⟩ := (r1.below hbr).at k hlt
      have ox := o1 _ (List.getElem_mem hlt)
      obtain ⟨x, hx⟩ : ∃ x, x = l1[k] := ⟨_, rfl⟩
      rw [← hx] at nx hcell ox
      have HX : Hid (x = l1[k]) := hx
      clear hx hbound
      have q0 : wr.cell? ⟨g, k * 14, none⟩ = some (.int .i64 (x.s 0).how) := hcell 0 _ rfl
      have q1 : wr.cell? ⟨g, k * 14 + 1, none⟩ = some (.int .i64 (x.s 0).lo) := hcell 1 _ rfl
      have q2 : wr.cell? ⟨g, k * 14 + 2, none⟩ = some (.int .i64 (x.s 0).hi) := hcell 2 _ rfl
      have q3 : wr.cell? ⟨g, k * 14 + 3, none⟩ = some (.int .i64 (x.s 1).how) := hcell 3 _ rfl
      have q4 : wr.cell? ⟨g, k * 14 + 4, none⟩ = some (.int .i64 (x.s 1).lo) := hcell 4 _ rfl
      have q5 : wr.cell? ⟨g, k * 14 + 5, none⟩ = some (.int .i64 (x.s 1).hi) := hcell 5 _ rfl
      have q6 : wr.cell? ⟨g, k * 14 + 6, none⟩ = some (.int .i64 (x.s 2).how) := hcell 6 _ rfl
      have q7 : wr.cell? ⟨g, k * 14 + 7, none⟩ = some (.int .i64 (x.s 2).lo) := hcell 7 _ rfl
      have q8 : wr.cell? ⟨g, k * 14 + 8, none⟩ = some (.int .i64 (x.s 2).hi) := hcell 8 _ rfl
      have q9 : wr.cell? ⟨g, k * 14 + 9, none⟩ = some (.int .i64 (x.s 3).how) := hcell 9 _ rfl
      have q10 : wr.cell? ⟨g, k * 14 + 10, none⟩ = some (.int .i64 (x.s 3).lo) := hcell 10 _ rfl
      have q11 : wr.cell? ⟨g, k * 14 + 11, none⟩ = some (.int .i64 (x.s 3).hi) := hcell 11 _ rfl
      have q12 : wr.cell? ⟨g, k * 14 + 12, none⟩ = some (.string x.tag) := hcell 12 _ rfl
      have q13 : wr.cell? ⟨g, k * 14 + 13, none⟩ = some (.slice xo x.nots.length xc) := hcell 13 _ rfl
      clear hcell
      have hki : (k : Int) < (l1.length : Int) := by omega
      have RR : Hid (RowB w.heap.size wr (.slice vo (Ev.meets (l1.take k) l2).length vc) (Ev.meets (l1.take k) l2)) := R
      clear R
      go_wp2_with fail
      obtain ⟨V, hV⟩ : ∃ V, V = wr.alloc (.cells #[.int .i64 (x.s 0).how, .int .i64 (x.s 0).lo, .int .i64 (x.s 0).hi, .int .i64 (x.s 1).how, .int .i64 (x.s 1).lo, .int .i64 (x.s 1).hi, .int .i64 (x.s 2).how, .int .i64 (x.s 2).lo, .int .i64 (x.s 2).hi, .int .i64 (x.s 3).how, .int .i64 (x.s 3).lo, .int .i64 (x.s 3).hi, .string x.tag, .slice xo x.nots.length xc] 40) := ⟨_, rfl⟩
      rw [← hV]
      have eV : V.heap[wr.heap.size]? = some (.cells #[.int .i64 (x.s 0).how, .int .i64 (x.s 0).lo, .int .i64 (x.s 0).hi, .int .i64 (x.s 1).how, .int .i64 (x.s 1).lo, .int .i64 (x.s 1).hi, .int .i64 (x.s 2).how, .int .i64 (x.s 2).lo, .int .i64 (x.s 2).hi, .int .i64 (x.s 3).how, .int .i64 (x.s 3).lo, .int .i64 (x.s 3).hi, .string x.tag, .slice xo x.nots.length xc] 40 (0, 0)) := by rw [hV]; exact heap_alloc_new _ _
      have hbV : Below wr.heap.size wr V := by rw [hV]; exact (Below.refl _ _).alloc (Nat.le_refl _) _
      have hsV : wr.heap.size < V.heap.size := by rw [hV]; simp
      have RV := RR.out.below hbV
      have ne0 : (Value.slice vo (Ev.meets (l1.take k) l2).length vc).ownBlock ≠ some wr.heap.size := by
        intro e
        obtain ⟨es, _, _, h3⟩ := RR.out
        have := (h3.lt _ e).2
        omega
      have nV := nx.below hbV
      have hbw : Below w.heap.size w V := hbr.trans (hbV.mono hbr.size)
      have hws : w.heap.size ≤ wr.heap.size := hbr.size
      clear hV RR hbV hbr nx q0 q1 q2 q3 q4 q5 q6 q7 q8 q9 q10 q11 q12 q13 hg
      have HW : Hid (w.heap.size ≤ wr.heap.size) := hws
      clear hws
      generalize wr.heap.size = N at *
      clear wr
      go_loopw [5, 20] (fun v i wr => ∃ j : Nat, j ≤ l2.length ∧ i = .int .i64 j ∧ RowB w.heap.size wr v (upto l1 l2 k hlt j) ∧ v.ownBlock ≠ some N ∧ wr.heap[N]? = some (.cells #[.int .i64 (x.s 0).how, .int .i64 (x.s 0).lo, .int .i64 (x.s 0).hi, .int .i64 (x.s 1).how, .int .i64 (x.s 1).lo, .int .i64 (x.s 1).hi, .int .i64 (x.s 2).how, .int .i64 (x.s 2).lo, .int .i64 (x.s 2).hi, .int .i64 (x.s 3).how, .int .i64 (x.s 3).lo, .int .i64 (x.s 3).hi, .string x.tag, .slice xo x.nots.length xc] 40 (0, 0)) ∧ Nt B1 wr xo xc x.nots ∧ Below w.heap.size w wr) (fun _ i _ => l2.length - (intOf i).toNat)
      case atStart => exact ⟨0, by omega, rfl, by rw [upto_zero]; exact RV, ne0, eV, nV, hbw⟩
      case round =>
        obtain ⟨j, hj, rfl, RI, neI, eI, nI, hbi⟩ := hrel
        obtain ⟨io, ic, rfl⟩ := RI.slice
        clear RV ne0 eV nV hbw
        by_cases hjt : j < l2.length
        · obtain ⟨g2, yo, yc, rfl, _, hg2, ny, hcell⟩ := (r2.below hbi).at j hjt
          have oy := o2 _ (List.getElem_mem hjt)
          obtain ⟨y, hy⟩ : ∃ y, y = l2[j] := ⟨_, rfl⟩
          rw [← hy] at ny hcell oy
          have HM : Hid (Ev.meet l1[k] l2[j] = Ev.meet x y) := by rw [HX.out, hy]; exact rfl
          clear hy
          have s0 : wr.cell? ⟨g2, j * 14, none⟩ = some (.int .i64 (y.s 0).how) := hcell 0 _ rfl
          have s1 : wr.cell? ⟨g2, j * 14 + 1, none⟩ = some (.int .i64 (y.s 0).lo) := hcell 1 _ rfl
          have s2 : wr.cell? ⟨g2, j * 14 + 2, none⟩ = some (.int .i64 (y.s 0).hi) := hcell 2 _ rfl
          have s3 : wr.cell? ⟨g2, j * 14 + 3, none⟩ = some (.int .i64 (y.s 1).how) := hcell 3 _ rfl
          have s4 : wr.cell? ⟨g2, j * 14 + 4, none⟩ = some (.int .i64 (y.s 1).lo) := hcell 4 _ rfl
          have s5 : wr.cell? ⟨g2, j * 14 + 5, none⟩ = some (.int .i64 (y.s 1).hi) := hcell 5 _ rfl
          have s6 : wr.cell? ⟨g2, j * 14 + 6, none⟩ = some (.int .i64 (y.s 2).how) := hcell 6 _ rfl
          have s7 : wr.cell? ⟨g2, j * 14 + 7, none⟩ = some (.int .i64 (y.s 2).lo) := hcell 7 _ rfl
          have s8 : wr.cell? ⟨g2, j * 14 + 8, none⟩ = some (.int .i64 (y.s 2).hi) := hcell 8 _ rfl
          have s9 : wr.cell? ⟨g2, j * 14 + 9, none⟩ = some (.int .i64 (y.s 3).how) := hcell 9 _ rfl
          have s10 : wr.cell? ⟨g2, j * 14 + 10, none⟩ = some (.int .i64 (y.s 3).lo) := hcell 10 _ rfl
          have s11 : wr.cell? ⟨g2, j * 14 + 11, none⟩ = some (.int .i64 (y.s 3).hi) := hcell 11 _ rfl
          have s12 : wr.cell? ⟨g2, j * 14 + 12, none⟩ = some (.string y.tag) := hcell 12 _ rfl
          have s13 : wr.cell? ⟨g2, j * 14 + 13, none⟩ = some (.slice yo y.nots.length yc) := hcell 13 _ rfl
          clear hcell
          obtain ⟨CX, _⟩ := cells_of eI
          have hji : (j : Int) < (l2.length : Int) := by omega
          have hNi : N < wr.heap.size := by
            by_cases hlt' : N < wr.heap.size
            · exact hlt'
            · rw [Array.getElem?_eq_none (by omega)] at eI; cases eI
          have nW := ny.below ((Below.refl wr.heap.size wr).alloc (Nat.le_refl _) (.cells #[.int .i64 (y.s 0).how, .int .i64 (y.s 0).lo, .int .i64 (y.s 0).hi, .int .i64 (y.s 1).how, .int .i64 (y.s 1).lo, .int .i64 (y.s 1).hi, .int .i64 (y.s 2).how, .int .i64 (y.s 2).lo, .int .i64 (y.s 2).hi, .int .i64 (y.s 3).how, .int .i64 (y.s 3).lo, .int .i64 (y.s 3).hi, .string y.tag, .slice yo y.nots.length yc] 40))
          have nX := nI.below ((Below.refl wr.heap.size wr).alloc (Nat.le_refl _) (.cells #[.int .i64 (y.s 0).how, .int .i64 (y.s 0).lo, .int .i64 (y.s 0).hi, .int .i64 (y.s 1).how, .int .i64 (y.s 1).lo, .int .i64 (y.s 1).hi, .int .i64 (y.s 2).how, .int .i64 (y.s 2).lo, .int .i64 (y.s 2).hi, .int .i64 (y.s 3).how, .int .i64 (y.s 3).lo, .int .i64 (y.s 3).hi, .string y.tag, .slice yo y.nots.length yc] 40))
          have cm := meet19 x y xo yo xc yc n m _ _ _ ox oy hn hm nX nW
          unfold Bval at cm
          have HI : Hid (RowB w.heap.size wr (.slice io (upto l1 l2 k hlt j).length ic) (upto l1 l2 k hlt j) ∧ (Value.slice io (upto l1 l2 k hlt j).length ic).ownBlock ≠ some N ∧ wr.heap[N]? = some (.cells #[.int .i64 (x.s 0).how, .int .i64 (x.s 0).lo, .int .i64 (x.s 0).hi, .int .i64 (x.s 1).how, .int .i64 (x.s 1).lo, .int .i64 (x.s 1).hi, .int .i64 (x.s 2).how, .int .i64 (x.s 2).lo, .int .i64 (x.s 2).hi, .int .i64 (x.s 3).how, .int .i64 (x.s 3).lo, .int .i64 (x.s 3).hi, .string x.tag, .slice xo x.nots.length xc] 40 (0, 0)) ∧ Nt B1 wr xo xc x.nots ∧ Below w.heap.size w wr) := ⟨RI, neI, eI, nI, hbi⟩
          clear RI neI eI nI hbi nW nX ny
          go_wp2_with fail
          refine cm.mono ?_
          rintro e w3 ⟨hb3, o, cap, rfl, hnt⟩
          have hb3' : Below wr.heap.size wr w3 := ((Below.refl _ _).alloc (Nat.le_refl _) _).trans (hb3.mono (by simp))
          have hs3 : wr.heap.size < w3.heap.size := by have := hb3.size; simp at this; omega
          clear cm hb3 CX s0 s1 s2 s3 s4 s5 s6 s7 s8 s9 s10 s11 s12 s13
          cases hme : Ev.meet x y with
          | none =>
            have HN := upto_none l1 l2 k hlt j hjt (HM.out.trans hme)
            rw [hme] at hnt
            simp only [Option.getD_none, Option.isSome_none] at hnt ⊢
            have Z : Hid (Below wr.heap.size wr (w3.alloc (.cells (bcells (Ev.zero, o, cap)).toArray 40))) := hb3'.alloc (Nat.le_of_lt hs3) _
            have HN' : Hid (upto l1 l2 k hlt (j + 1) = upto l1 l2 k hlt j) := HN
            clear hnt hb3' HN hme HM
            unfold Bval
            go_wp2
            go_roundw
            case rel =>
              obtain ⟨RI, neI, eI, nI, hbi⟩ := HI.out
              exact ⟨j + 1, by omega, by go_num, by rw [HN'.out]; exact RI.below Z.out, neI, (Z.out.block N hNi).trans eI, nI.below Z.out, hbi.trans (Z.out.mono (by have := hbi.size; omega))⟩
            case measure => simp [intOf]; omega
          | some z =>
            have HN := upto_some l1 l2 k hlt j hjt z (HM.out.trans hme)
            rw [hme] at hnt
            simp only [Option.getD_some, Option.isSome_some] at hnt ⊢
            have hl3 : wr.heap.size ≤ w3.heap.size := Nat.le_of_lt hs3
            have Z1 : Below wr.heap.size wr (w3.alloc (.cells (bcells (z, o, cap)).toArray 40)) := hb3'.alloc hl3 _
            have Z2 : Below wr.heap.size wr ((w3.alloc (.cells (bcells (z, o, cap)).toArray 40)).alloc (.cells (bcells (z, o, cap)).toArray 40)) := Z1.alloc (by simp; omega) _
            have hnt1 := hnt.below ((Below.refl w3.heap.size w3).alloc (Nat.le_refl _) (.cells (bcells (z, o, cap)).toArray 40))
            have hnt2 := hnt1.below ((Below.refl _ _).alloc (Nat.le_refl _) (.cells (bcells (z, o, cap)).toArray 40))
            have hws := HI.out.2.2.2.2.size
            have hnt3 := hnt2.mono (B' := w.heap.size) (by simp; omega)
            have R2 := HI.out.1.below Z2
            have HN' : Hid (upto l1 l2 k hlt (j + 1) = upto l1 l2 k hlt j ++ [z]) := HN
            have K2 : Hid (Below wr.heap.size wr ((w3.alloc (.cells (bcells (z, o, cap)).toArray 40)).alloc (.cells (bcells (z, o, cap)).toArray 40)) ∧ RowB w.heap.size ((w3.alloc (.cells (bcells (z, o, cap)).toArray 40)).alloc (.cells (bcells (z, o, cap)).toArray 40)) (.slice io (upto l1 l2 k hlt j).length ic) (upto l1 l2 k hlt j) ∧ Nt w.heap.size ((w3.alloc (.cells (bcells (z, o, cap)).toArray 40)).alloc (.cells (bcells (z, o, cap)).toArray 40)) o cap z.nots) := ⟨Z2, R2, hnt3⟩
            have hbl := hb j
            clear hnt hb3' HN hme HM Z1 Z2 hnt1 hnt2 hnt3 R2
            unfold Bval
            go_wp2_with (at_builtin; refine append_box' rfl _ _ rfl w.heap.size _ (upto l1 l2 k hlt j) rfl K2.out.2.1 (z, o, cap) K2.out.2.2 (w3.heap.size + 1) rfl ?b1 ?b2 ?b3 ?_)
            case b1 =>
              intro i u hi
              rw [World.cell?_alloc_at _ _ _ _ (by simp), List.getElem?_toArray]
              exact hi
            case b2 => omega
            case b3 => simp; omega
            intro v' w5 R5 hg5 hown
            obtain ⟨RI, neI, eI, nI, hbi⟩ := HI.out
            have P1 : RowB w.heap.size w5 v' (upto l1 l2 k hlt (j + 1)) := by rw [HN'.out]; exact R5
            have hN4 : N < ((w3.alloc (.cells (bcells (z, o, cap)).toArray 40)).alloc (.cells (bcells (z, o, cap)).toArray 40)).heap.size := by simp; omega
            have P2 : v'.ownBlock ≠ some N := by
              intro e
              rcases hown N e with h | h
              · exact neI h
              · exact absurd h (by omega)
            have P3 : w5.heap[N]? = some (.cells #[.int .i64 (x.s 0).how, .int .i64 (x.s 0).lo, .int .i64 (x.s 0).hi, .int .i64 (x.s 1).how, .int .i64 (x.s 1).lo, .int .i64 (x.s 1).hi, .int .i64 (x.s 2).how, .int .i64 (x.s 2).lo, .int .i64 (x.s 2).hi, .int .i64 (x.s 3).how, .int .i64 (x.s 3).lo, .int .i64 (x.s 3).hi, .string x.tag, .slice xo x.nots.length xc] 40 (0, 0)) := (hg5.block N hN4 (fun e => neI e.symm)).trans ((K2.out.1.block N hNi).trans eI)
            have P4 : Nt B1 w5 xo xc x.nots := (nI.below K2.out.1).keep (fun b c _ hc => row_keep K2.out.2.1 hg5 hc)
            have P5 : Below w.heap.size w w5 := (hbi.trans (K2.out.1.mono (by omega))).grown hg5 (by simp; omega) (fun q hq => row_base K2.out.2.1 hq)
            obtain ⟨no, nc, rfl⟩ := P1.slice
            have PP : Hid (_ ∧ _ ∧ _ ∧ _ ∧ _) := ⟨P1, P2, P3, P4, P5⟩
            clear RI neI eI nI hbi P1 P2 P3 P4 P5 R5 hg5 hown hN4 HI K2 HN' hbl
            go_wp2
            go_roundw
            case rel =>
              obtain ⟨P1, P2, P3, P4, P5⟩ := PP.out
              exact ⟨j + 1, by omega, by go_num, P1, P2, P3, P4, P5⟩
            case measure => simp [intOf]; omega
        · obtain rfl : j = l2.length := by omega
          have PP : Hid (_ ∧ _) := ⟨RI, hbi⟩
          clear RI neI eI nI hbi
          go_wp2
          go_roundw
          case rel => exact ⟨k + 1, by omega, by go_num, by rw [← upto_all l1 l2 k hlt]; exact PP.out.1, PP.out.2⟩
          case measure => simp [intOf]; omega
    · obtain rfl : k = l1.length := by omega
      have e : Hid (Ev.meets (l1.take l1.length) l2 = Ev.meets l1 l2) := by rw [List.take_length]; exact rfl
      have PP : Hid (_ ∧ _) := ⟨R, hbr⟩
      clear R hbr
      go_wp2
      go_ret
      exact ⟨_, rfl, by rw [← e.out]; exact PP.out.1, PP.out.2⟩

end Go.Proofs.Ytflpdekifkcfkab
