/- NormAll: which boxes a filter is. -/
import Derived.Test.YtgggncliadjmcaaTrue
import Derived.Test.YtgggncliadjmcaaRof26
import Derived.Test.YtgggncliadjmcaaSames
namespace Go.Proofs.Ytgggncliadjmcaa
open Go.RowKit
set_option linter.unusedVariables false

set_option maxHeartbeats 1000000 in
theorem all_long (a0 : Option Addr) (l0 c0 : Nat) (a : Int) (w : World) (h0 : l0 ≤ maxLen) (h : 50 < l0) :
    Calls Try.prog 3 #[.slice a0 l0 c0, .int .u8 a] w fun e w' => e = .returned (.bool true) ∧ Below w.heap.size w w' := by
  unfold maxLen at h0
  go_enter Try.func3, Try.ntmps3
  go_wp2_with fail
  refine (begun9 _).mono ?_
  rintro e w1 ⟨rfl, hb1⟩
  go_wp2
  go_ret
  exact ⟨rfl, hb1⟩

theorem ok_getD' {n : Nat} {r : Option (List Ev.Bx)} (h : Fits n r) : (r.getD []).length ≤ 16 ∧ ∀ x ∈ r.getD [], x.ok n := by
  cases r with
  | none => exact ⟨by simp, fun x hx => by cases hx⟩
  | some l => exact h l rfl

set_option maxRecDepth 100000 in
set_option maxHeartbeats 8000000 in
theorem all_short0 (a0 : Option Addr) (l0 c0 : Nat) (a : Int) (w : World) (h0 : l0 ≤ 50) (r0 : Reads8 w a0 l0) (hr : a.tmod 3 = 0) :
    Calls Try.prog 3 #[.slice a0 l0 c0, .int .u8 a] w fun e w' => e = .returned (.bool true) ∧ Below w.heap.size w w' := by
  go_enter Try.func3, Try.ntmps3
  go_wp2_with fail
  refine (begun9 _).mono ?_
  rintro e w1 ⟨rfl, hb1⟩
  replace r0 := reads_below r0 hb1
  go_wp2_with fail
  refine (made10 _ _ _ _).mono ?_
  rintro e W ⟨rfl, hW⟩
  have hp1 : Pick W w1.heap.size := by rw [hW]; exact pick_made r0 (by omega)
  have hbW : Below w1.heap.size w1 W := by rw [hW]; exact (Below.refl _ _).alloc (Nat.le_refl _) _
  have hsW : w1.heap.size < W.heap.size := by rw [hW]; simp
  clear hW r0
  go_wp2_with fail
  refine (filter11 w1.heap.size 3 3 W (by omega) (by omega) hp1).mono ?_
  rintro e w2 ⟨f, o, k, l, h, t, x, n, rfl, hok, hdp, hly, hw2⟩
  have hb2 : Below w1.heap.size w1 w2 := hbW.trans (hw2.2.below (by omega) (fun k hk => by unfold But; omega))
  have hfl : Lies Any w2 f o k l h t x n := Lies.mono (fun _ _ _ => trivial) f hly
  have hd6 : f.deep ≤ 6 := by omega
  clear hp1 hly hw2 hbW hsW
  have hbw2 : Below w.heap.size w w2 := hb1.trans (hb2.mono hb1.size)
  obtain ⟨V, hV⟩ : ∃ V, V = w2.alloc (.cells #[.int .i64 o, .int .i64 k, .int .i64 l, .int .i64 h, .string t, .slice x n n] 26) := ⟨_, rfl⟩
  have hbV : Below w2.heap.size w2 V := by rw [hV]; exact (Below.refl _ _).alloc (Nat.le_refl _) _
  have hsV : w2.heap.size < V.heap.size := by rw [hV]; simp
  have fc : ∀ i, V.cell? ⟨w2.heap.size, i, none⟩ = (#[.int .i64 o, .int .i64 k, .int .i64 l, .int .i64 h, .string t, .slice x n n] : Array Value)[i]? := fun i => by rw [hV]; simp
  have hflV := hfl.below hbV
  have co := of12 f V o k l h t x n (by omega) hok hflV
  rw [hV] at co
  have HV : Hid (V = w2.alloc (.cells #[.int .i64 o, .int .i64 k, .int .i64 l, .int .i64 h, .string t, .slice x n n] 26)) := hV
  have hbwV : Below w.heap.size w V := hbw2.trans (hbV.mono hbw2.size)
  clear hV hfl hbV hb2 hb1 hbw2
  unfold RPost at co
  go_wp2_with fail
  refine co.mono ?_
  rintro e w3 ⟨v3, rfl, row3, hb3⟩
  rw [← HV.out] at hb3 row3
  clear co HV
  obtain ⟨ro, rc, rfl⟩ := row3.slice
  have hfl3 := hflV.below hb3
  have fc3 : ∀ i, w3.cell? ⟨w2.heap.size, i, none⟩ = (#[.int .i64 o, .int .i64 k, .int .i64 l, .int .i64 h, .string t, .slice x n n] : Array Value)[i]? := fun i => (hb3.cell (p := ⟨w2.heap.size, i, none⟩) hsV).trans (fc i)
  have hbw3 : Below w.heap.size w w3 := hbwV.trans (hb3.mono hbwV.size)
  have co := rof13 f w3 o k l h t x n hd6 hok hfl3
  obtain ⟨len1, ok1⟩ := ok_getD' (fits_row f false hok hd6)
  unfold RPost at co
  clear hflV fc hb3 hbwV hsV hok hdp hd6 hfl3
  generalize (f.row false).getD [] = L at *
  generalize (f.row false).isSome = p at *
  go_wp2_with fail
  refine co.mono ?_
  rintro e w4 ⟨v4, rfl, row4, hb4⟩
  obtain ⟨so, sc, rfl⟩ := row4.slice
  have hbw4 : Below w.heap.size w w4 := hbw3.trans (hb4.mono hbw3.size)
  have cs := sames14 L _ _ _ _ w4 (by omega) (fun x hx => by have := (ok1 x hx).2.2.1; omega) (row3.below hb4) row4
  clear co row3 row4 hb4 hbw3 fc3 ok1
  have hpp : (p == p) = true := by cases p <;> rfl
  cases p
  all_goals
    clear hpp
    go_wp2_with fail
    refine cs.mono ?_
    rintro e w5 ⟨rfl, hb5⟩
    have hbE : Below w.heap.size w w5 := hbw4.trans (hb5.mono hbw4.size)
    clear cs hb5
    go_wp2
    go_ret
    exact ⟨rfl, hbE⟩

set_option maxRecDepth 100000 in
set_option maxHeartbeats 8000000 in
theorem all_short1 (a0 : Option Addr) (l0 c0 : Nat) (a : Int) (w : World) (h0 : l0 ≤ 50) (r0 : Reads8 w a0 l0) (hr : a.tmod 3 = 1) :
    Calls Try.prog 3 #[.slice a0 l0 c0, .int .u8 a] w fun e w' => e = .returned (.bool true) ∧ Below w.heap.size w w' := by
  go_enter Try.func3, Try.ntmps3
  go_wp2_with fail
  refine (begun9 _).mono ?_
  rintro e w1 ⟨rfl, hb1⟩
  replace r0 := reads_below r0 hb1
  go_wp2_with fail
  refine (made10 _ _ _ _).mono ?_
  rintro e W ⟨rfl, hW⟩
  have hp1 : Pick W w1.heap.size := by rw [hW]; exact pick_made r0 (by omega)
  have hbW : Below w1.heap.size w1 W := by rw [hW]; exact (Below.refl _ _).alloc (Nat.le_refl _) _
  have hsW : w1.heap.size < W.heap.size := by rw [hW]; simp
  clear hW r0
  go_wp2_with fail
  refine (filter11 w1.heap.size 4 4 W (by omega) (by omega) hp1).mono ?_
  rintro e w2 ⟨f, o, k, l, h, t, x, n, rfl, hok, hdp, hly, hw2⟩
  have hb2 : Below w1.heap.size w1 w2 := hbW.trans (hw2.2.below (by omega) (fun k hk => by unfold But; omega))
  have hfl : Lies Any w2 f o k l h t x n := Lies.mono (fun _ _ _ => trivial) f hly
  have hd6 : f.deep ≤ 6 := by omega
  clear hp1 hly hw2 hbW hsW
  have hbw2 : Below w.heap.size w w2 := hb1.trans (hb2.mono hb1.size)
  obtain ⟨V, hV⟩ : ∃ V, V = w2.alloc (.cells #[.int .i64 o, .int .i64 k, .int .i64 l, .int .i64 h, .string t, .slice x n n] 26) := ⟨_, rfl⟩
  have hbV : Below w2.heap.size w2 V := by rw [hV]; exact (Below.refl _ _).alloc (Nat.le_refl _) _
  have hsV : w2.heap.size < V.heap.size := by rw [hV]; simp
  have fc : ∀ i, V.cell? ⟨w2.heap.size, i, none⟩ = (#[.int .i64 o, .int .i64 k, .int .i64 l, .int .i64 h, .string t, .slice x n n] : Array Value)[i]? := fun i => by rw [hV]; simp
  have hflV := hfl.below hbV
  have co := of12 f V o k l h t x n (by omega) hok hflV
  rw [hV] at co
  have HV : Hid (V = w2.alloc (.cells #[.int .i64 o, .int .i64 k, .int .i64 l, .int .i64 h, .string t, .slice x n n] 26)) := hV
  have hbwV : Below w.heap.size w V := hbw2.trans (hbV.mono hbw2.size)
  clear hV hfl hbV hb2 hb1 hbw2
  unfold RPost at co
  go_wp2_with fail
  refine co.mono ?_
  rintro e w3 ⟨v3, rfl, row3, hb3⟩
  rw [← HV.out] at hb3 row3
  clear co HV
  obtain ⟨ro, rc, rfl⟩ := row3.slice
  have hfl3 := hflV.below hb3
  have fc3 : ∀ i, w3.cell? ⟨w2.heap.size, i, none⟩ = (#[.int .i64 o, .int .i64 k, .int .i64 l, .int .i64 h, .string t, .slice x n n] : Array Value)[i]? := fun i => (hb3.cell (p := ⟨w2.heap.size, i, none⟩) hsV).trans (fc i)
  have hbw3 : Below w.heap.size w w3 := hbwV.trans (hb3.mono hbwV.size)
  have co := rof13 f w3 o k l h t x n hd6 hok hfl3
  obtain ⟨len1, ok1⟩ := ok_getD' (fits_row f false hok hd6)
  unfold RPost at co
  clear hflV fc hb3 hbwV hsV hok hdp hd6 hfl3
  generalize (f.row false).getD [] = L at *
  generalize (f.row false).isSome = p at *
  go_wp2_with fail
  refine co.mono ?_
  rintro e w4 ⟨v4, rfl, row4, hb4⟩
  obtain ⟨so, sc, rfl⟩ := row4.slice
  have hbw4 : Below w.heap.size w w4 := hbw3.trans (hb4.mono hbw3.size)
  have cs := sames14 L _ _ _ _ w4 (by omega) (fun x hx => by have := (ok1 x hx).2.2.1; omega) (row3.below hb4) row4
  clear co row3 row4 hb4 hbw3 fc3 ok1
  have hpp : (p == p) = true := by cases p <;> rfl
  cases p
  all_goals
    clear hpp
    go_wp2_with fail
    refine cs.mono ?_
    rintro e w5 ⟨rfl, hb5⟩
    have hbE : Below w.heap.size w w5 := hbw4.trans (hb5.mono hbw4.size)
    clear cs hb5
    go_wp2
    go_ret
    exact ⟨rfl, hbE⟩

set_option maxRecDepth 100000 in
set_option maxHeartbeats 8000000 in
theorem all_short2 (a0 : Option Addr) (l0 c0 : Nat) (a : Int) (w : World) (h0 : l0 ≤ 50) (r0 : Reads8 w a0 l0) (hr : a.tmod 3 = 2) :
    Calls Try.prog 3 #[.slice a0 l0 c0, .int .u8 a] w fun e w' => e = .returned (.bool true) ∧ Below w.heap.size w w' := by
  go_enter Try.func3, Try.ntmps3
  go_wp2_with fail
  refine (begun9 _).mono ?_
  rintro e w1 ⟨rfl, hb1⟩
  replace r0 := reads_below r0 hb1
  go_wp2_with fail
  refine (made10 _ _ _ _).mono ?_
  rintro e W ⟨rfl, hW⟩
  have hp1 : Pick W w1.heap.size := by rw [hW]; exact pick_made r0 (by omega)
  have hbW : Below w1.heap.size w1 W := by rw [hW]; exact (Below.refl _ _).alloc (Nat.le_refl _) _
  have hsW : w1.heap.size < W.heap.size := by rw [hW]; simp
  clear hW r0
  go_wp2_with fail
  refine (filter11 w1.heap.size 5 5 W (by omega) (by omega) hp1).mono ?_
  rintro e w2 ⟨f, o, k, l, h, t, x, n, rfl, hok, hdp, hly, hw2⟩
  have hb2 : Below w1.heap.size w1 w2 := hbW.trans (hw2.2.below (by omega) (fun k hk => by unfold But; omega))
  have hfl : Lies Any w2 f o k l h t x n := Lies.mono (fun _ _ _ => trivial) f hly
  have hd6 : f.deep ≤ 6 := by omega
  clear hp1 hly hw2 hbW hsW
  have hbw2 : Below w.heap.size w w2 := hb1.trans (hb2.mono hb1.size)
  obtain ⟨V, hV⟩ : ∃ V, V = w2.alloc (.cells #[.int .i64 o, .int .i64 k, .int .i64 l, .int .i64 h, .string t, .slice x n n] 26) := ⟨_, rfl⟩
  have hbV : Below w2.heap.size w2 V := by rw [hV]; exact (Below.refl _ _).alloc (Nat.le_refl _) _
  have hsV : w2.heap.size < V.heap.size := by rw [hV]; simp
  have fc : ∀ i, V.cell? ⟨w2.heap.size, i, none⟩ = (#[.int .i64 o, .int .i64 k, .int .i64 l, .int .i64 h, .string t, .slice x n n] : Array Value)[i]? := fun i => by rw [hV]; simp
  have hflV := hfl.below hbV
  have co := of12 f V o k l h t x n (by omega) hok hflV
  rw [hV] at co
  have HV : Hid (V = w2.alloc (.cells #[.int .i64 o, .int .i64 k, .int .i64 l, .int .i64 h, .string t, .slice x n n] 26)) := hV
  have hbwV : Below w.heap.size w V := hbw2.trans (hbV.mono hbw2.size)
  clear hV hfl hbV hb2 hb1 hbw2
  unfold RPost at co
  go_wp2_with fail
  refine co.mono ?_
  rintro e w3 ⟨v3, rfl, row3, hb3⟩
  rw [← HV.out] at hb3 row3
  clear co HV
  obtain ⟨ro, rc, rfl⟩ := row3.slice
  have hfl3 := hflV.below hb3
  have fc3 : ∀ i, w3.cell? ⟨w2.heap.size, i, none⟩ = (#[.int .i64 o, .int .i64 k, .int .i64 l, .int .i64 h, .string t, .slice x n n] : Array Value)[i]? := fun i => (hb3.cell (p := ⟨w2.heap.size, i, none⟩) hsV).trans (fc i)
  have hbw3 : Below w.heap.size w w3 := hbwV.trans (hb3.mono hbwV.size)
  have co := rof13 f w3 o k l h t x n hd6 hok hfl3
  obtain ⟨len1, ok1⟩ := ok_getD' (fits_row f false hok hd6)
  unfold RPost at co
  clear hflV fc hb3 hbwV hsV hok hdp hd6 hfl3
  generalize (f.row false).getD [] = L at *
  generalize (f.row false).isSome = p at *
  go_wp2_with fail
  refine co.mono ?_
  rintro e w4 ⟨v4, rfl, row4, hb4⟩
  obtain ⟨so, sc, rfl⟩ := row4.slice
  have hbw4 : Below w.heap.size w w4 := hbw3.trans (hb4.mono hbw3.size)
  have cs := sames14 L _ _ _ _ w4 (by omega) (fun x hx => by have := (ok1 x hx).2.2.1; omega) (row3.below hb4) row4
  clear co row3 row4 hb4 hbw3 fc3 ok1
  have hpp : (p == p) = true := by cases p <;> rfl
  cases p
  all_goals
    clear hpp
    go_wp2_with fail
    refine cs.mono ?_
    rintro e w5 ⟨rfl, hb5⟩
    have hbE : Below w.heap.size w w5 := hbw4.trans (hb5.mono hbw4.size)
    clear cs hb5
    go_wp2
    go_ret
    exact ⟨rfl, hbE⟩

theorem all_any (a0 : Option Addr) (l0 c0 : Nat) (a : Int) (w : World) (r0 : Reads8 w a0 l0) (ha : 0 ≤ a ∧ a ≤ 255) :
    Calls Try.prog 3 #[.slice a0 l0 c0, .int .u8 a] w fun e w' => e = .returned (.bool true) ∧ Below w.heap.size w w' := by
  by_cases h : 50 < l0
  · exact all_long a0 l0 c0 a w r0.1 h
  · have hr : a.tmod 3 = 0 ∨ a.tmod 3 = 1 ∨ a.tmod 3 = 2 := by rw [Int.tmod_eq_emod_of_nonneg ha.1]; omega
    rcases hr with hr | hr | hr
    · exact all_short0 a0 l0 c0 a w (by omega) r0 hr
    · exact all_short1 a0 l0 c0 a w (by omega) r0 hr
    · exact all_short2 a0 l0 c0 a w (by omega) r0 hr

end Go.Proofs.Ytgggncliadjmcaa
