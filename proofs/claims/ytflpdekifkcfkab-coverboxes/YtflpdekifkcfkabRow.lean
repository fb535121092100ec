/- norm.row, norm.Of: the boxes of a filter. -/
import Derived.Test.YtflpdekifkcfkabTwo
import Derived.BigQuiet
import Derived.Deep.QuietTactic
namespace Go.Proofs.Ytflpdekifkcfkab
open Go.RowKit
set_option linter.unusedVariables false

/-- Behind a box of one's own, and draws. -/
theorem boxed {w w1 : World} {o : Obj} {q : Nat} (h : Below ((w.alloc o).drewN q).heap.size ((w.alloc o).drewN q) w1) : Below w.heap.size w w1 := by
  have h0 : Below w.heap.size w ((w.alloc o).drewN q) := by
    have := (Below.refl w.heap.size w).alloc (Nat.le_refl _) o
    exact ⟨this.os, this.tape, this.output, this.size, this.block⟩
  exact h0.trans (h.mono h0.size)
theorem boxed_size {w : World} {o : Obj} {q : Nat} : w.heap.size ≤ ((w.alloc o).drewN q).heap.size := by
  show w.heap.size ≤ (w.alloc o).heap.size
  simp

set_option maxHeartbeats 2000000 in
theorem row_leaf (op key lo hi d : Int) (t : ByteArray) (turned : Bool) (w : World) (h : (Ev.Ft.leaf op key lo hi t).fine) (h1 : 1 ≤ d) (h6 : d ≤ 6) :
    Calls Try.prog 37 #[.agg #[.int .i64 op, .int .i64 key, .int .i64 lo, .int .i64 hi, .string t, .slice none 0 0], .bool turned, .int .i64 d] w (RPost w (some (Ev.leafRow op key lo hi t turned))) := by
  have hd : (d == 0) = false := beq_eq_false_iff_ne.2 (by omega)
  have hop1 : 1 ≤ op := h.1
  have hop4 : op ≤ 4 := h.2.1
  have hp : parts op = 0 := by unfold parts; rw [if_neg (by omega), if_neg (by omega)]
  have c44 := fun w => parts44 op w
  rw [hp] at c44
  clear hp
  have e5 : (op == 5) = false := beq_eq_false_iff_ne.2 (by omega)
  have e6 : (op == 6) = false := beq_eq_false_iff_ne.2 (by omega)
  have e7 : (op == 7) = false := beq_eq_false_iff_ne.2 (by omega)
  have cl := fun w => leaf46 op key lo hi t turned w h
  clear h
  unfold RPost at cl ⊢
  go_enter Try.func37, Try.ntmps37
  go_wp2_with fail
  go_quiet (first | (go_at_call 48; refine Calls.quiet_of_same (c44 _)))
  go_wp2_with fail
  refine (cl _).mono ?_
  rintro e w1 ⟨v, rfl, r, hb⟩
  have hb0 : Below w.heap.size w w1 := boxed hb
  have r0 := r.mono (B' := w.heap.size) boxed_size
  obtain ⟨ao, cap, rfl⟩ := r0.slice
  clear cl c44 r hb
  go_wp2
  go_ret2
  exact ⟨_, rfl, r0, hb0⟩

set_option maxHeartbeats 2000000 in
theorem row_non (d d1 : Int) (hd1 : d1 = d - 1) (turned : Bool) (w : World) (h1 : 1 ≤ d) (h6 : d ≤ 6) (b : Nat) (o1 k1 l1 h1' : Int) (t1 : ByteArray) (x1 : Option Addr) (n1 : Nat) (s : Six w b 0 o1 k1 l1 h1' t1 x1 n1) (r : Option (List Ev.Bx))
    (c : ∀ w', Below w.heap.size w w' → Calls Try.prog 37 #[.agg #[.int .i64 o1, .int .i64 k1, .int .i64 l1, .int .i64 h1', .string t1, .slice x1 n1 n1], .bool (!turned), .int .i64 d1] w' (RPost w' r)) :
    Calls Try.prog 37 #[.agg #[.int .i64 7, .int .i64 0, .int .i64 0, .int .i64 0, .string ⟨#[]⟩, .slice (some ⟨b, 0, none⟩) 1 1], .bool turned, .int .i64 d] w (RPost w r) := by
  have hd : (d == 0) = false := beq_eq_false_iff_ne.2 (by omega)
  have c44 := fun w => parts44 7 w
  have hp : parts 7 = 1 := rfl
  rw [hp] at c44
  clear hp
  subst hd1
  have hb0 := s.lt
  obtain ⟨q0, q1, q2, q3, q4, q5⟩ := s
  simp only [Nat.zero_add] at q1 q2 q3 q4 q5
  unfold RPost at c ⊢
  go_enter Try.func37, Try.ntmps37
  go_wp2_with fail
  go_quiet (first | (go_at_call 48; refine Calls.quiet_of_same (c44 _)))
  go_wp2_with fail
  refine (c _ ?_).mono ?_
  · have := (Below.refl w.heap.size w).alloc (Nat.le_refl _) (.cells #[.int .i64 7, .int .i64 0, .int .i64 0, .int .i64 0, .string ⟨#[]⟩, .slice (some ⟨b, 0, none⟩) 1 1] 26)
    exact ⟨this.os, this.tape, this.output, this.size, this.block⟩
  rintro e w1 ⟨v, rfl, rr, hb⟩
  have hb1 : Below w.heap.size w w1 := boxed hb
  have r0 := rr.mono (B' := w.heap.size) boxed_size
  obtain ⟨ao, cap, rfl⟩ := r0.slice
  clear c c44 rr hb
  go_wp2
  go_ret2
  exact ⟨_, rfl, r0, hb1⟩

set_option maxHeartbeats 2000000 in
theorem row_two (op d d1 : Int) (hop : op = 5 ∨ op = 6) (hd1 : d1 = d - 1) (turned each : Bool) (he : each = (decide (op = 5) != turned)) (w : World) (h1 : 1 ≤ d) (h6 : d ≤ 6) (b : Nat) (hb0 : b < w.heap.size) (r : Option (List Ev.Bx))
    (c : ∀ w', Below w.heap.size w w' → Calls Try.prog 49 #[.slice (some ⟨b, 0, none⟩) 2 2, .bool turned, .bool each, .int .i64 d1] w' (RPost w' r)) :
    Calls Try.prog 37 #[.agg #[.int .i64 op, .int .i64 0, .int .i64 0, .int .i64 0, .string ⟨#[]⟩, .slice (some ⟨b, 0, none⟩) 2 2], .bool turned, .int .i64 d] w (RPost w r) := by
  have hd : (d == 0) = false := beq_eq_false_iff_ne.2 (by omega)
  subst hd1
  unfold RPost at c ⊢
  rcases hop with rfl | rfl
  · have c44 := fun w => parts44 5 w
    have hp : parts 5 = 2 := rfl
    rw [hp] at c44
    clear hp
    have e1 : each = !turned := by rw [he]; cases turned <;> rfl
    subst e1
    clear he
    go_enter Try.func37, Try.ntmps37
    go_wp2_with fail
    go_quiet (first | (go_at_call 48; refine Calls.quiet_of_same (c44 _)))
    go_wp2_with fail
    refine (c _ ?_).mono ?_
    · have := (Below.refl w.heap.size w).alloc (Nat.le_refl _) (.cells #[.int .i64 5, .int .i64 0, .int .i64 0, .int .i64 0, .string ⟨#[]⟩, .slice (some ⟨b, 0, none⟩) 2 2] 26)
      exact ⟨this.os, this.tape, this.output, this.size, this.block⟩
    rintro e w1 ⟨v, rfl, rr, hb⟩
    have hb1 : Below w.heap.size w w1 := boxed hb
    have r0 := rr.mono (B' := w.heap.size) boxed_size
    obtain ⟨ao, cap, rfl⟩ := r0.slice
    clear c c44 rr hb
    go_wp2
    go_ret2
    exact ⟨_, rfl, r0, hb1⟩
  · have c44 := fun w => parts44 6 w
    have hp : parts 6 = 2 := rfl
    rw [hp] at c44
    clear hp
    have e1 : each = turned := by rw [he]; cases turned <;> rfl
    subst e1
    clear he
    go_enter Try.func37, Try.ntmps37
    go_wp2_with fail
    go_quiet (first | (go_at_call 48; refine Calls.quiet_of_same (c44 _)))
    go_wp2_with fail
    refine (c _ ?_).mono ?_
    · have := (Below.refl w.heap.size w).alloc (Nat.le_refl _) (.cells #[.int .i64 6, .int .i64 0, .int .i64 0, .int .i64 0, .string ⟨#[]⟩, .slice (some ⟨b, 0, none⟩) 2 2] 26)
      exact ⟨this.os, this.tape, this.output, this.size, this.block⟩
    rintro e w1 ⟨v, rfl, rr, hb⟩
    have hb1 : Below w.heap.size w w1 := boxed hb
    have r0 := rr.mono (B' := w.heap.size) boxed_size
    obtain ⟨ao, cap, rfl⟩ := r0.slice
    clear c c44 rr hb
    go_wp2
    go_ret2
    exact ⟨_, rfl, r0, hb1⟩

theorem fits_row (f : Ev.Ft) (t : Bool) (h : f.fine) (hd : f.deep ≤ 6) : Fits 32 (f.row t) := by
  intro l hl
  obtain ⟨h1, h2, _⟩ := Ev.row_said f t l h hl
  refine ⟨h2, fun x hx => (h1 x hx).mono ?_⟩
  have : 2 ^ (f.deep - 1) ≤ 2 ^ 5 := Nat.pow_le_pow_right (by omega) (by omega)
  simpa using this

/-- norm.row. -/
theorem row25 (f : Ev.Ft) : ∀ (turned : Bool) (d : Int) (w : World) (o k l h : Int) (t : ByteArray) (x : Option Addr) (n : Nat), (f.deep : Int) ≤ d → d ≤ 6 → f.fine → Lies Any w f o k l h t x n →
    Calls Try.prog 37 #[.agg #[.int .i64 o, .int .i64 k, .int .i64 l, .int .i64 h, .string t, .slice x n n], .bool turned, .int .i64 d] w (RPost w (f.row turned)) := by
  induction f with
  | leaf op key lo hi tag =>
    rintro turned d w o k l h t x n hd h6 hf ⟨rfl, rfl, rfl, rfl, rfl, rfl, rfl⟩
    simp only [Ev.Ft.deep] at hd
    exact row_leaf o k l h d t turned w hf (by omega) h6
  | non f ih =>
    rintro turned d w o k l h t x n hd h6 hf ⟨rfl, rfl, rfl, rfl, rfl, b, o1, k1, l1, h1', t1, x1, n1, rfl, rfl, _, s, y⟩
    simp only [Ev.Ft.deep] at hd
    have hp := f.deep_pos
    exact row_non d (d - 1) rfl turned w (by omega) h6 b o1 k1 l1 h1' t1 x1 n1 s _ (fun w' hb => ih (!turned) (d - 1) w' o1 k1 l1 h1' t1 x1 n1 (by omega) (by omega) hf (y.below hb))
  | two op f g ihf ihg =>
    rintro turned d w o k l h t x n hd h6 ⟨hop, hf1, hf2⟩ ⟨rfl, rfl, rfl, rfl, rfl, b, o1, k1, l1, h1', t1, x1, n1, o2, k2, l2, h2', t2, x2, n2, rfl, rfl, _, s, y, s', z⟩
    simp only [Ev.Ft.deep] at hd
    have hp := f.deep_pos
    refine row_two o d (d - 1) hop rfl turned _ rfl w (by omega) h6 b s.lt _ (fun w' hb => ?_)
    exact two45 (d - 1) turned _ w' b o1 k1 l1 h1' t1 x1 n1 (s.of (fun i => hb.cell s.lt)) o2 k2 l2 h2' t2 x2 n2 (s'.of (fun i => hb.cell s.lt)) _ _ 32 32 (fits_row f turned hf1 (by omega)) (fits_row g turned hf2 (by omega)) (by omega) (by omega)
      (fun w'' hb' => ihf turned (d - 1) w'' o1 k1 l1 h1' t1 x1 n1 (by omega) (by omega) hf1 ((y.below hb).below hb')) (fun w'' hb' => ihg turned (d - 1) w'' o2 k2 l2 h2' t2 x2 n2 (by omega) (by omega) hf2 ((z.below hb).below hb'))

set_option maxHeartbeats 1000000 in
/-- norm.Of. -/
theorem of12 (f : Ev.Ft) (w : World) (o k l h : Int) (t : ByteArray) (x : Option Addr) (n : Nat) (hd : f.deep ≤ 6) (hf : f.fine) (hl : Lies Any w f o k l h t x n) :
    Calls Try.prog 22 #[.agg #[.int .i64 o, .int .i64 k, .int .i64 l, .int .i64 h, .string t, .slice x n n]] w (RPost w (f.row false)) := by
  have c := fun w' (hb : Below w.heap.size w w') => row25 f false 6 w' o k l h t x n (by omega) (by omega) hf (hl.below hb)
  clear hl
  unfold RPost at c ⊢
  generalize f.row false = r at *
  go_enter Try.func22, Try.ntmps22
  go_wp2_with fail
  refine (c _ ((Below.refl _ _).alloc (Nat.le_refl _) _)).mono ?_
  rintro e w1 ⟨v, rfl, rr, hb⟩
  have hb1 : Below w.heap.size w w1 := ((Below.refl _ _).alloc (Nat.le_refl _) _).trans (hb.mono (by simp))
  have r0 := rr.mono (B' := w.heap.size) (by simp)
  obtain ⟨ao, cap, rfl⟩ := r0.slice
  clear c rr hb
  go_wp2
  go_ret2
  exact ⟨_, rfl, r0, hb1⟩

end Go.Proofs.Ytflpdekifkcfkab
