/- norm.leaf: the boxes of a filter without parts, or of its opposite. -/
import Derived.Test.YtflpdekifkcfkabLeaf
namespace Go.Proofs.Ytflpdekifkcfkab
open Go.RowKit
set_option linter.unusedVariables false

/-- A row of boxes and whether there is one. -/
def RPost (w : World) (r : Option (List Ev.Bx)) (e : Ending) (w' : World) : Prop :=
  ∃ v, e = .returned (.tuple #[v, .bool r.isSome]) ∧ RowB w.heap.size w' v (r.getD []) ∧ Below w.heap.size w w'

set_option maxHeartbeats 1000000 in
theorem leaf_all (key lo hi : Int) (t : ByteArray) (w : World) :
    Calls Try.prog 50 #[.agg #[.int .i64 1, .int .i64 key, .int .i64 lo, .int .i64 hi, .string t, .slice none 0 0], .bool false] w (RPost w (some [Ev.zero])) := by
  unfold RPost
  go_enter Try.func50, Try.ntmps50
  go_wp2
  go_ret2
  have hb : Below w.heap.size w (w.alloc (.cells #[.int .i64 1, .int .i64 key, .int .i64 lo, .int .i64 hi, .string t, .slice none 0 0] 26)) := (Below.refl _ _).alloc (Nat.le_refl _) _
  exact ⟨_, rfl, RowB.one_at (w := w.alloc (.cells #[.int .i64 1, .int .i64 key, .int .i64 lo, .int .i64 hi, .string t, .slice none 0 0] 26)) (Ev.zero, none, 0) (by simp) hb.size (Nt.empty _ _), hb.alloc hb.size _⟩

set_option maxHeartbeats 1000000 in
theorem leaf_all_not (key lo hi : Int) (t : ByteArray) (w : World) :
    Calls Try.prog 50 #[.agg #[.int .i64 1, .int .i64 key, .int .i64 lo, .int .i64 hi, .string t, .slice none 0 0], .bool true] w (RPost w (some [])) := by
  unfold RPost
  go_enter Try.func50, Try.ntmps50
  go_wp2
  go_ret2
  exact ⟨_, rfl, RowB.nil _ _, (Below.refl _ _).alloc (Nat.le_refl _) _⟩

set_option maxHeartbeats 1000000 in
theorem leaf_key2 (key lo hi : Int) (t : ByteArray) (w : World) (hk : 0 ≤ key) (hk' : key ≤ 3) :
    Calls Try.prog 50 #[.agg #[.int .i64 2, .int .i64 key, .int .i64 lo, .int .i64 hi, .string t, .slice none 0 0], .bool false] w (RPost w (some [Ev.ofKey key 1 lo hi])) := by
  unfold RPost
  have cA := fun w => key63 key 1 lo hi w hk hk'
  obtain ⟨xa, ea, va⟩ := key_cells key 1 lo hi
  rw [← ea] at cA ⊢
  rw [va] at cA
  have na : xa.nots = [] := by rw [ea]; rfl
  have NA : ∀ B w, Nt B w none 0 xa.nots := fun B w => by rw [na]; exact Nt.empty B w
  clear ea va na
  unfold bcells at cA
  simp only at cA
  have hk0 : decide (key < 0) = false := decide_eq_false (by omega)
  have hk4 : decide (4 ≤ key) = false := decide_eq_false (by omega)
  go_enter Try.func50, Try.ntmps50
  go_wp2_with fail
  refine (cA _).mono ?_
  rintro e w1 ⟨rfl, hb1⟩
  have hb : Below w.heap.size w w1 := ((Below.refl _ _).alloc (Nat.le_refl _) _).trans (hb1.mono (by simp))
  clear cA hb1
  go_wp2
  go_ret2
  exact ⟨_, rfl, RowB.one (xa, none, 0) hb.size (NA _ _), hb.alloc hb.size _⟩

set_option maxHeartbeats 1000000 in
theorem leaf_key2_not (key lo hi : Int) (t : ByteArray) (w : World) (hk : 0 ≤ key) (hk' : key ≤ 3) (h1 : 0 ≤ lo) (h2 : lo ≤ hi) (h3 : hi ≤ 99) :
    Calls Try.prog 50 #[.agg #[.int .i64 2, .int .i64 key, .int .i64 lo, .int .i64 hi, .string t, .slice none 0 0], .bool true] w (RPost w (some (Ev.outside key lo hi))) := by
  unfold RPost
  have cA := fun w => outside62 2 key lo hi t w hk hk' h1 h2 h3
  generalize Ev.outside key lo hi = L at *
  have hk0 : decide (key < 0) = false := decide_eq_false (by omega)
  have hk4 : decide (4 ≤ key) = false := decide_eq_false (by omega)
  go_enter Try.func50, Try.ntmps50
  go_wp2_with fail
  refine (cA _).mono ?_
  rintro e w1 ⟨v, rfl, hr, hb1⟩
  have hb : Below w.heap.size w w1 := ((Below.refl _ _).alloc (Nat.le_refl _) _).trans (hb1.mono (by simp))
  have hr' : RowB w.heap.size w1 v L := hr.mono (by simp)
  obtain ⟨ao, cap, rfl⟩ := hr'.slice
  clear cA hb1 hr
  go_wp2
  go_ret2
  exact ⟨_, rfl, hr', hb⟩

set_option maxHeartbeats 1000000 in
theorem leaf_key3 (key lo hi : Int) (t : ByteArray) (w : World) (hk : 0 ≤ key) (hk' : key ≤ 3) :
    Calls Try.prog 50 #[.agg #[.int .i64 3, .int .i64 key, .int .i64 lo, .int .i64 hi, .string t, .slice none 0 0], .bool false] w (RPost w (some [Ev.ofKey key 1 lo hi])) := by
  unfold RPost
  have cA := fun w => key63 key 1 lo hi w hk hk'
  obtain ⟨xa, ea, va⟩ := key_cells key 1 lo hi
  rw [← ea] at cA ⊢
  rw [va] at cA
  have na : xa.nots = [] := by rw [ea]; rfl
  have NA : ∀ B w, Nt B w none 0 xa.nots := fun B w => by rw [na]; exact Nt.empty B w
  clear ea va na
  unfold bcells at cA
  simp only at cA
  have hk0 : decide (key < 0) = false := decide_eq_false (by omega)
  have hk4 : decide (4 ≤ key) = false := decide_eq_false (by omega)
  go_enter Try.func50, Try.ntmps50
  go_wp2_with fail
  refine (cA _).mono ?_
  rintro e w1 ⟨rfl, hb1⟩
  have hb : Below w.heap.size w w1 := ((Below.refl _ _).alloc (Nat.le_refl _) _).trans (hb1.mono (by simp))
  clear cA hb1
  go_wp2
  go_ret2
  exact ⟨_, rfl, RowB.one (xa, none, 0) hb.size (NA _ _), hb.alloc hb.size _⟩

set_option maxHeartbeats 1000000 in
theorem leaf_key3_not (key lo hi : Int) (t : ByteArray) (w : World) (hk : 0 ≤ key) (hk' : key ≤ 3) (h1 : 0 ≤ lo) (h2 : lo ≤ hi) (h3 : hi ≤ 99) :
    Calls Try.prog 50 #[.agg #[.int .i64 3, .int .i64 key, .int .i64 lo, .int .i64 hi, .string t, .slice none 0 0], .bool true] w (RPost w (some (Ev.outside key lo hi))) := by
  unfold RPost
  have cA := fun w => outside62 3 key lo hi t w hk hk' h1 h2 h3
  generalize Ev.outside key lo hi = L at *
  have hk0 : decide (key < 0) = false := decide_eq_false (by omega)
  have hk4 : decide (4 ≤ key) = false := decide_eq_false (by omega)
  go_enter Try.func50, Try.ntmps50
  go_wp2_with fail
  refine (cA _).mono ?_
  rintro e w1 ⟨v, rfl, hr, hb1⟩
  have hb : Below w.heap.size w w1 := ((Below.refl _ _).alloc (Nat.le_refl _) _).trans (hb1.mono (by simp))
  have hr' : RowB w.heap.size w1 v L := hr.mono (by simp)
  obtain ⟨ao, cap, rfl⟩ := hr'.slice
  clear cA hb1 hr
  go_wp2
  go_ret2
  exact ⟨_, rfl, hr', hb⟩

set_option maxHeartbeats 1000000 in
theorem leaf_tag (key lo hi : Int) (t : ByteArray) (w : World) (ht : t.size ≤ 1000) :
    Calls Try.prog 50 #[.agg #[.int .i64 4, .int .i64 key, .int .i64 lo, .int .i64 hi, .string t, .slice none 0 0], .bool false] w (RPost w (some [⟨fun _ => Ev.nul, t, []⟩])) := by
  unfold RPost
  have c := fun w => clone38 t w ht
  go_enter Try.func50, Try.ntmps50
  go_wp2_with fail
  refine (c _).mono ?_
  rintro e w1 ⟨rfl, hb1⟩
  have hb : Below w.heap.size w w1 := ((Below.refl _ _).alloc (Nat.le_refl _) _).trans (hb1.mono (by simp))
  clear c hb1
  go_wp2
  go_ret2
  exact ⟨_, rfl, RowB.one (⟨fun _ => Ev.nul, t, []⟩, none, 0) hb.size (Nt.empty _ _), hb.alloc hb.size _⟩

set_option maxHeartbeats 1000000 in
theorem leaf_tag_not (key lo hi : Int) (t : ByteArray) (w : World) (ht : t.size ≤ 1000) :
    Calls Try.prog 50 #[.agg #[.int .i64 4, .int .i64 key, .int .i64 lo, .int .i64 hi, .string t, .slice none 0 0], .bool true] w (RPost w (some [⟨fun _ => Ev.nul, ⟨#[]⟩, [t.data.toList]⟩])) := by
  unfold RPost
  have c := fun w => clone38 t w ht
  go_enter Try.func50, Try.ntmps50
  go_wp2_with fail
  refine (c _).mono ?_
  rintro e w1 ⟨rfl, hb1⟩
  have hb : Below w.heap.size w w1 := ((Below.refl _ _).alloc (Nat.le_refl _) _).trans (hb1.mono (by simp))
  clear c hb1
  go_wp2
  go_ret2
  have hb2 : Below w.heap.size w (w1.alloc (.cells #[.string t] 9)) := hb.alloc hb.size _
  have hn : Nt w.heap.size (w1.alloc (.cells #[.string t] 9)) (some ⟨w1.heap.size, 0, none⟩) 1 [t.data.toList] := by
    refine ⟨fun h => (by cases h), fun _ => ⟨w1.heap.size, rfl, hb.size, #[.string t], heap_alloc_new _ _, fun j hj => ?_⟩⟩
    have : j = 0 := by simpa using hj
    subst this
    rfl
  exact ⟨_, rfl, RowB.one_at (⟨fun _ => Ev.nul, ⟨#[]⟩, [t.data.toList]⟩, some ⟨w1.heap.size, 0, none⟩, 1) (by simp) hb2.size hn, hb2.alloc hb2.size _⟩

/-- norm.leaf. -/
theorem leaf46 (op key lo hi : Int) (t : ByteArray) (turned : Bool) (w : World) (h : (Ev.Ft.leaf op key lo hi t).fine) :
    Calls Try.prog 50 #[.agg #[.int .i64 op, .int .i64 key, .int .i64 lo, .int .i64 hi, .string t, .slice none 0 0], .bool turned] w (RPost w (some (Ev.leafRow op key lo hi t turned))) := by
  obtain ⟨h1, h2, h3, h4, h5, h6, h7, h8⟩ := h
  have ho : op = 1 ∨ op = 2 ∨ op = 3 ∨ op = 4 := by omega
  unfold Ev.leafRow
  rcases ho with rfl | rfl | rfl | rfl <;> cases turned <;> simp
  · exact leaf_all key lo hi t w
  · exact leaf_all_not key lo hi t w
  · exact leaf_key2 key lo hi t w h4 h5
  · exact leaf_key2_not key lo hi t w h4 h5 h6 h7 h8
  · exact leaf_key3 key lo hi t w h4 h5
  · exact leaf_key3_not key lo hi t w h4 h5 h6 h7 h8
  · exact leaf_tag key lo hi t w h3
  · exact leaf_tag_not key lo hi t w h3

end Go.Proofs.Ytflpdekifkcfkab
