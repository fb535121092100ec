/- cardamomref4.of, cardamomref4.Of. -/
import Derived.Test.YtflpdekifkcfkabRofm
import Derived.Test.YtflpdekifkcfkabRofk
import Derived.Test.YtflpdekifkcfkabRofn
import Derived.Test.YtflpdekifkcfkabRow
namespace Go.Proofs.Ytflpdekifkcfkab
open Go.RowKit
set_option linter.unusedVariables false

/-- Two parts. -/
theorem rtwo (op : Int) (hop : op = 5 ∨ op = 6) (turned : Bool) (w : World) (b : Nat) (o1 k1 l1 h1 : Int) (t1 : ByteArray) (x1 : Option Addr) (n1 : Nat) (s : Six w b 0 o1 k1 l1 h1 t1 x1 n1) (o2 k2 l2 h2 : Int) (t2 : ByteArray) (x2 : Option Addr) (n2 : Nat) (s' : Six w b 6 o2 k2 l2 h2 t2 x2 n2)
    (ra rb : Option (List Ev.Bx)) (n m : Nat) (fa : Fits n ra) (fb : Fits m rb) (hn : n ≤ 500) (hm : m ≤ 500)
    (c1 : ∀ w', Below w.heap.size w w' → Calls Try.prog 28 #[.agg #[.int .i64 o1, .int .i64 k1, .int .i64 l1, .int .i64 h1, .string t1, .slice x1 n1 n1], .bool turned] w' (RPost w' ra))
    (c2 : ∀ w', Below w.heap.size w w' → Calls Try.prog 28 #[.agg #[.int .i64 o2, .int .i64 k2, .int .i64 l2, .int .i64 h2, .string t2, .slice x2 n2 n2], .bool turned] w' (RPost w' rb)) :
    Calls Try.prog 28 #[.agg #[.int .i64 op, .int .i64 0, .int .i64 0, .int .i64 0, .string ⟨#[]⟩, .slice (some ⟨b, 0, none⟩) 2 2], .bool turned] w (RPost w (Ev.both (decide (op = 5) != turned) ra rb)) := by
  have ho : 5 ≤ op ∧ op ≤ 6 := by omega
  cases ra with
  | none =>
    have e : Ev.both (decide (op = 5) != turned) none rb = none := rfl
    rw [e]
    cases rb with
    | none => exact rof_none1 op ho turned w b o1 k1 l1 h1 t1 x1 n1 s o2 k2 l2 h2 t2 x2 n2 s' none none rfl rfl c1 c2
    | some lb => exact rof_none2 op ho turned w b o1 k1 l1 h1 t1 x1 n1 s o2 k2 l2 h2 t2 x2 n2 s' none (some lb) rfl rfl c1 c2
  | some la =>
    cases rb with
    | none =>
      have e : Ev.both (decide (op = 5) != turned) (some la) none = none := rfl
      rw [e]
      exact rof_none3 op ho turned w b o1 k1 l1 h1 t1 x1 n1 s o2 k2 l2 h2 t2 x2 n2 s' (some la) none rfl rfl c1 c2
    | some lb =>
      obtain ⟨lenA, okA⟩ := fa la rfl
      obtain ⟨lenB, okB⟩ := fb lb rfl
      rcases hop with rfl | rfl
      · cases turned with
        | false => exact rof_meets2 5 ho rfl w b o1 k1 l1 h1 t1 x1 n1 s o2 k2 l2 h2 t2 x2 n2 s' la lb lenA lenB n m okA okB hn hm c1 c2
        | true => exact rof_app2 5 ho rfl w b o1 k1 l1 h1 t1 x1 n1 s o2 k2 l2 h2 t2 x2 n2 s' la lb lenA lenB n m okA okB hn hm c1 c2
      · cases turned with
        | false => exact rof_app1 6 ho rfl w b o1 k1 l1 h1 t1 x1 n1 s o2 k2 l2 h2 t2 x2 n2 s' la lb lenA lenB n m okA okB hn hm c1 c2
        | true => exact rof_meets1 6 ho rfl w b o1 k1 l1 h1 t1 x1 n1 s o2 k2 l2 h2 t2 x2 n2 s' la lb lenA lenB n m okA okB hn hm c1 c2

/-- cardamomref4.of. -/
theorem rof26 (f : Ev.Ft) : ∀ (turned : Bool) (w : World) (o k l h : Int) (t : ByteArray) (x : Option Addr) (n : Nat), f.deep ≤ 6 → f.fine → Lies Any w f o k l h t x n →
    Calls Try.prog 28 #[.agg #[.int .i64 o, .int .i64 k, .int .i64 l, .int .i64 h, .string t, .slice x n n], .bool turned] w (RPost w (f.row turned)) := by
  induction f with
  | leaf op key lo hi tag =>
    rintro turned w o k l h t x n hd hf ⟨rfl, rfl, rfl, rfl, rfl, rfl, rfl⟩
    exact rleaf26 o k l h t turned w hf
  | non f ih =>
    rintro turned w o k l h t x n hd hf ⟨rfl, rfl, rfl, rfl, rfl, b, o1, k1, l1, h1', t1, x1, n1, rfl, rfl, _, s, y⟩
    simp only [Ev.Ft.deep] at hd
    exact rof_non turned w b o1 k1 l1 h1' t1 x1 n1 s _ (fun w' hb => ih (!turned) w' o1 k1 l1 h1' t1 x1 n1 (by omega) hf (y.below hb))
  | two op f g ihf ihg =>
    rintro turned w o k l h t x n hd ⟨hop, hf1, hf2⟩ ⟨rfl, rfl, rfl, rfl, rfl, b, o1, k1, l1, h1', t1, x1, n1, o2, k2, l2, h2', t2, x2, n2, rfl, rfl, _, s, y, s', z⟩
    simp only [Ev.Ft.deep] at hd
    exact rtwo o hop turned w b o1 k1 l1 h1' t1 x1 n1 s o2 k2 l2 h2' t2 x2 n2 s' _ _ 32 32 (fits_row f turned hf1 (by omega)) (fits_row g turned hf2 (by omega)) (by omega) (by omega)
      (fun w' hb => ihf turned w' o1 k1 l1 h1' t1 x1 n1 (by omega) hf1 (y.below hb)) (fun w' hb => ihg turned w' o2 k2 l2 h2' t2 x2 n2 (by omega) hf2 (z.below hb))

set_option maxHeartbeats 1000000 in
/-- cardamomref4.Of. -/
theorem rof13 (f : Ev.Ft) (w : World) (o k l h : Int) (t : ByteArray) (x : Option Addr) (n : Nat) (hd : f.deep ≤ 6) (hf : f.fine) (hl : Lies Any w f o k l h t x n) :
    Calls Try.prog 16 #[.agg #[.int .i64 o, .int .i64 k, .int .i64 l, .int .i64 h, .string t, .slice x n n]] w (RPost w (f.row false)) := by
  have c := fun w' (hb : Below w.heap.size w w') => rof26 f false w' o k l h t x n hd hf (hl.below hb)
  clear hl
  unfold RPost at c ⊢
  generalize f.row false = r at *
  go_enter Try.func16, Try.ntmps16
  go_wp2_with fail
  refine (c _ ((Below.refl _ _).alloc (Nat.le_refl _) _)).mono ?_
  rintro e w1 ⟨v, rfl, rr, hb⟩
  have hb1 : Below w.heap.size w w1 := ((Below.refl _ _).alloc (Nat.le_refl _) _).trans (hb.mono (by simp))
  have r0 := rr.mono (B' := w.heap.size) (by simp)
  obtain ⟨ao, cap, rfl⟩ := r0.slice
  clear c rr hb
  go_wp2
  go_ret2
  exact ⟨_, rfl, r0, hb1⟩

end Go.Proofs.Ytflpdekifkcfkab
