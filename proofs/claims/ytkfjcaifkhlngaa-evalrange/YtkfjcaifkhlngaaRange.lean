/- EvalRange: a range lets through just what is there and within it. -/
import Derived.Test.YtkfjcaifkhlngaaBegun
namespace Go.Proofs.Ytkfjcaifkhlngaa
open Go.RowKit
set_option linter.unusedVariables false

/-- A range of one attribute. -/
theorem lets_in (v : Vs) (k a b x : Int) (w : World) (hv : Has Any w v [(k, x)]) :
    Calls Try.prog 13 #[.agg #[.int .i64 3, .int .i64 k, .int .i64 a, .int .i64 b, .string ⟨#[]⟩, .slice none 0 0], v.val] w fun e w' => e = .returned (.bool (decide (a ≤ x) && decide (x ≤ b))) ∧ Below w.heap.size w w' :=
  lets_bare v [(k, x)] w 3 k a b ⟨#[]⟩ _ (by omega) (by decide) hv (by
    show (if (3 : Int) = 1 then true else if (3 : Int) = 2 ∨ (3 : Int) = 3 then Ev.between [(k, x)] k a b else _) = _
    rw [if_neg (by decide), if_pos (by decide)]
    exact between_some (by simp [Ev.attr]))

theorem lets_out (v : Vs) (k k' a b x : Int) (hk : ¬ k' = k) (w : World) (hv : Has Any w v [(k', x)]) :
    Calls Try.prog 13 #[.agg #[.int .i64 3, .int .i64 k, .int .i64 a, .int .i64 b, .string ⟨#[]⟩, .slice none 0 0], v.val] w fun e w' => e = .returned (.bool false) ∧ Below w.heap.size w w' :=
  lets_bare v [(k', x)] w 3 k a b ⟨#[]⟩ _ (by omega) (by decide) hv (by
    show (if (3 : Int) = 1 then true else if (3 : Int) = 2 ∨ (3 : Int) = 3 then Ev.between [(k', x)] k a b else _) = _
    rw [if_neg (by decide), if_pos (by decide)]
    exact between_none (by simp [Ev.attr, hk]))

set_option maxRecDepth 100000 in
set_option maxHeartbeats 4000000 in
theorem range_there (key lo hi val : Int) (w : World) (h1 : 0 ≤ key ∧ key ≤ 255) (h2 : 0 ≤ lo ∧ lo ≤ 255) (h3 : 0 ≤ hi ∧ hi ≤ 255) (h4 : 0 ≤ val ∧ val ≤ 255) :
    Calls Try.prog 6 #[.int .u8 key, .int .u8 lo, .int .u8 hi, .int .u8 val, .bool true] w fun e w' => e = .returned (.bool true) ∧ Below w.heap.size w w' := by
  obtain ⟨h1, h1'⟩ := h1
  obtain ⟨h2, h2'⟩ := h2
  obtain ⟨h3, h3'⟩ := h3
  obtain ⟨h4, h4'⟩ := h4
  go_enter Try.func6, Try.ntmps6
  go_wp2_with fail
  refine (begun9 _).mono ?_
  rintro e w1 ⟨rfl, hb1⟩
  go_wp2_with fail
  all_goals
    refine (lets_in ⟨1, 1, 1, 1, false, some ⟨w1.heap.size + 1 + 1, 0, none⟩, 1, 1, ⟨#[]⟩, ⟨#[]⟩⟩ (key % 4) _ _ (val % 100) _ ?_).mono ?_
    · exact has_one (b := w1.heap.size + 1 + 1) rfl (by show (0 : Nat) ≤ 1000; omega) rfl (by rw [World.cell?_alloc_at _ _ _ _ (by simp)]; simp) (by rw [World.cell?_alloc_at _ _ _ _ (by simp)]; simp)
    rintro e w2 ⟨rfl, hb2⟩
    have hbb : Below w.heap.size w w2 := (((hb1.alloc hb1.size _).alloc (by have := hb1.size; simp; omega) _).alloc (by have := hb1.size; simp; omega) _).trans (hb2.mono (by have := hb1.size; simp; omega))
    clear hb1 hb2
    go_wp2
    all_goals
      go_ret
      exact ⟨by simp [*], hbb⟩

set_option maxRecDepth 100000 in
set_option maxHeartbeats 4000000 in
theorem range_not (key lo hi val : Int) (w : World) (h1 : 0 ≤ key ∧ key ≤ 255) (h2 : 0 ≤ lo ∧ lo ≤ 255) (h3 : 0 ≤ hi ∧ hi ≤ 255) (h4 : 0 ≤ val ∧ val ≤ 255) :
    Calls Try.prog 6 #[.int .u8 key, .int .u8 lo, .int .u8 hi, .int .u8 val, .bool false] w fun e w' => e = .returned (.bool true) ∧ Below w.heap.size w w' := by
  obtain ⟨h1, h1'⟩ := h1
  obtain ⟨h2, h2'⟩ := h2
  obtain ⟨h3, h3'⟩ := h3
  obtain ⟨h4, h4'⟩ := h4
  go_enter Try.func6, Try.ntmps6
  go_wp2_with fail
  refine (begun9 _).mono ?_
  rintro e w1 ⟨rfl, hb1⟩
  go_wp2_with fail
  all_goals
    refine (lets_out ⟨1, 1, 1, 1, false, some ⟨w1.heap.size + 1 + 1, 0, none⟩, 1, 1, ⟨#[]⟩, ⟨#[]⟩⟩ (key % 4) ((key % 4 + 1) % 4) _ _ (val % 100) (by omega) _ ?_).mono ?_
    · exact has_one (b := w1.heap.size + 1 + 1) rfl (by show (0 : Nat) ≤ 1000; omega) rfl (by rw [World.cell?_alloc_at _ _ _ _ (by simp)]; simp) (by rw [World.cell?_alloc_at _ _ _ _ (by simp)]; simp)
    rintro e w2 ⟨rfl, hb2⟩
    have hbb : Below w.heap.size w w2 := (((hb1.alloc hb1.size _).alloc (by have := hb1.size; simp; omega) _).alloc (by have := hb1.size; simp; omega) _).trans (hb2.mono (by have := hb1.size; simp; omega))
    clear hb1 hb2
    go_wp2
    all_goals
      go_ret
      exact ⟨rfl, hbb⟩

theorem range_any (key lo hi val : Int) (there : Bool) (w : World) (h1 : 0 ≤ key ∧ key ≤ 255) (h2 : 0 ≤ lo ∧ lo ≤ 255) (h3 : 0 ≤ hi ∧ hi ≤ 255) (h4 : 0 ≤ val ∧ val ≤ 255) :
    Calls Try.prog 6 #[.int .u8 key, .int .u8 lo, .int .u8 hi, .int .u8 val, .bool there] w fun e w' => e = .returned (.bool true) ∧ Below w.heap.size w w' := by
  cases there
  · exact range_not key lo hi val w h1 h2 h3 h4
  · exact range_there key lo hi val w h1 h2 h3 h4

end Go.Proofs.Ytkfjcaifkhlngaa
