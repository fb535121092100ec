/- The document's reader of words: a key. -/
import Derived.Test.YtflpdekifkcfkabNumb
namespace Go.Proofs.Ytflpdekifkcfkab
open Go.RowKit
set_option linter.unusedVariables false

theorem WentR.trans {rb q r : Nat} {ws : List Wd.Word} {a b c : World} (h : WentR rb ws q a b) (k : WentR rb ws r b c) : WentR rb ws r a c := ⟨k.1, h.2.trans k.2⟩
theorem WentR.refl {rb p : Nat} {ws : List Wd.Word} {w : World} (h : Rd w rb ws p) : WentR rb ws p w w := ⟨h, Kept.refl _ w⟩
theorem WentR.alloc {rb q : Nat} {ws : List Wd.Word} {a w : World} (h : WentR rb ws q a w) (o : Obj) : WentR rb ws q a (w.alloc o) :=
  ⟨h.1.below ((Below.refl _ w).alloc (by have := h.1.lt; omega) _), h.2.alloc o⟩
theorem WentR.drew {rb q : Nat} {ws : List Wd.Word} {a w : World} (h : WentR rb ws q a w) : WentR rb ws q a w.drew := ⟨h.1.below (Below.refl _ w).drew, h.2.drew⟩
theorem WentR.setCell {rb q : Nat} {ws : List Wd.Word} {a w : World} (h : WentR rb ws q a w) {p : Addr} (hp : a.heap.size ≤ p.block) (ha : rb < a.heap.size) (u : Value) : WentR rb ws q a (w.setCell p u) :=
  ⟨h.1.below ((Below.refl _ w).setCell (by omega) _), h.2.setCell (fun k hk _ => by omega) u⟩
theorem WentR.cell {rb q : Nat} {ws : List Wd.Word} {w w' : World} (h : WentR rb ws q w w') {b o : Nat} (hb : b < w.heap.size) (hp : rb < b) : w'.cell? ⟨b, o, none⟩ = w.cell? ⟨b, o, none⟩ := h.2.cell hb (by unfold Save; omega)
theorem WentR.frozen {rb q : Nat} {ws : List Wd.Word} {w w' : World} (h : WentR rb ws q w w') {b o : Nat} (hb : b < w.heap.size) (hp : rb < b) : w'.frozen? ⟨b, o, none⟩ = w.frozen? ⟨b, o, none⟩ := h.2.frozen hb (by unfold Save; omega)
theorem Rd.set {w : World} {rb p : Nat} {ws : List Wd.Word} (h : Rd w rb ws p) {a : Addr} (ha : rb < a.block) (u : Value) : Rd (w.setCell a u) rb ws p := h.below ((Below.refl _ w).setCell (by omega) _)

/-- All blocks from B on. -/
def Past (B : Nat) : Nat → Prop := fun b => B ≤ b
theorem WentR.past {rb q B : Nat} {ws : List Wd.Word} {w w' : World} (h : WentR rb ws q w w') (hB : rb < B) : Kept (Past B) w w' := h.2.mono (fun k _ hk => by unfold Past at hk; unfold Save; omega)

/-- What reading a filter leaves behind. -/
def FR (rb : Nat) (ws : List Wd.Word) (f : Ev.Ft) (q : Nat) (w : World) (e : Ending) (w' : World) : Prop :=
  ∃ (o k l h : Int) (t : ByteArray) (x : Option Addr) (n : Nat), e = .returned (.agg #[.int .i64 o, .int .i64 k, .int .i64 l, .int .i64 h, .string t, .slice x n n]) ∧ Lies (Past w.heap.size) w' f o k l h t x n ∧ WentR rb ws q w w'

set_option maxRecDepth 100000 in
set_option maxHeartbeats 4000000 in
theorem key_eq (rb : Nat) (ws : List Wd.Word) (p : Nat) (k a : Int) (w : World) (h : Rd w rb ws p) (h1 : Ps.num ws p 4 = some k) (h2 : Ps.isMark ws (p + 1) 61 = true) (h3 : Ps.num ws (p + 2) 100 = some a) :
    Calls Try.prog 64 #[.pointer (some ⟨rb, 0, none⟩)] w (FR rb ws (.leaf 2 k a a ⟨#[]⟩) (p + 3) w) := by
  have hlt := h.lt
  have c1 := fun w (h : Rd w rb ws p) => num38 rb ws p 4 k w h h1
  have c2 := fun w (h : Rd w rb ws (p + 1)) => mark31 rb ws (p + 1) 61 ⟨#[61]⟩ rfl w h
  have c3 := fun w (h : Rd w rb ws (p + 2)) => num38 rb ws (p + 2) 100 a w h h3
  rw [h2] at c2
  simp only [if_true] at c2
  clear h1 h2 h3
  unfold FR
  go_enter Try.func64, Try.ntmps64
  go_wp2_with fail
  have hW0 : WentR rb ws p w (w.alloc (.cells #[.int .i64 0, .int .i64 0, .int .i64 0, .int .i64 0, .string ⟨#[]⟩, .slice none 0 0] 26)) := (WentR.refl h).alloc _
  refine (c1 _ hW0.1).mono ?_
  rintro e w1 ⟨rfl, hw1⟩
  have zw1 : ∀ o, w1.cell? ⟨w.heap.size, o, none⟩ = (w.alloc (.cells #[.int .i64 0, .int .i64 0, .int .i64 0, .int .i64 0, .string ⟨#[]⟩, .slice none 0 0] 26)).cell? ⟨w.heap.size, o, none⟩ := fun o => hw1.cell (by simp) hlt
  have zfw1 : ∀ o, w1.frozen? ⟨w.heap.size, o, none⟩ = false := fun o => (hw1.frozen (by simp) hlt).trans (by simp)
  have s1 : w.heap.size < w1.heap.size := by have := hw1.2.size; simp at this; omega
  have hne : w1.heap.size ≠ w.heap.size := by omega
  have hne' : w.heap.size ≠ w1.heap.size := by omega
  have hWw1 := hW0.trans hw1
  clear hW0 hw1 c1
  go_wp2_with fail
  obtain ⟨V1, hV1⟩ : ∃ V, V = w1.alloc (.cells #[.int .i64 0, .int .i64 k, .int .i64 0, .int .i64 0, .string ⟨#[]⟩, .slice none 0 0] 26) := ⟨_, rfl⟩
  rw [← hV1]
  have y0V1 : V1.cell? ⟨w1.heap.size, 0, none⟩ = some (.int .i64 0) := by rw [hV1]; simp
  have y1V1 : V1.cell? ⟨w1.heap.size, 1, none⟩ = some (.int .i64 k) := by rw [hV1]; simp
  have y2V1 : V1.cell? ⟨w1.heap.size, 2, none⟩ = some (.int .i64 0) := by rw [hV1]; simp
  have y3V1 : V1.cell? ⟨w1.heap.size, 3, none⟩ = some (.int .i64 0) := by rw [hV1]; simp
  have y4V1 : V1.cell? ⟨w1.heap.size, 4, none⟩ = some (.string ⟨#[]⟩) := by rw [hV1]; simp
  have y5V1 : V1.cell? ⟨w1.heap.size, 5, none⟩ = some (.slice none 0 0) := by rw [hV1]; simp
  have yfV1 : ∀ o, V1.frozen? ⟨w1.heap.size, o, none⟩ = false := fun o => by rw [hV1]; simp
  have zV1 : ∀ o, V1.cell? ⟨w.heap.size, o, none⟩ = (w.alloc (.cells #[.int .i64 0, .int .i64 0, .int .i64 0, .int .i64 0, .string ⟨#[]⟩, .slice none 0 0] 26)).cell? ⟨w.heap.size, o, none⟩ := fun o => by rw [hV1, World.cell?_alloc_past _ _ _ (hn := s1)]; exact zw1 o
  have zfV1 : ∀ o, V1.frozen? ⟨w.heap.size, o, none⟩ = false := fun o => by rw [hV1, World.frozen?_alloc_past _ _ _ (hn := s1)]; exact zfw1 o
  have sV1 : w1.heap.size < V1.heap.size := by rw [hV1]; simp
  have hWV1 := hWw1.alloc (.cells #[.int .i64 0, .int .i64 k, .int .i64 0, .int .i64 0, .string ⟨#[]⟩, .slice none 0 0] 26)
  rw [← hV1] at hWV1
  clear hV1 hWw1 zw1 zfw1
  refine (c2 _ hWV1.1).mono ?_
  rintro e w2 ⟨rfl, hw2⟩
  have y0w2 := (hw2.cell sV1 (by omega)).trans y0V1
  have y1w2 := (hw2.cell sV1 (by omega)).trans y1V1
  have y2w2 := (hw2.cell sV1 (by omega)).trans y2V1
  have y3w2 := (hw2.cell sV1 (by omega)).trans y3V1
  have y4w2 := (hw2.cell sV1 (by omega)).trans y4V1
  have y5w2 := (hw2.cell sV1 (by omega)).trans y5V1
  have yfw2 : ∀ o, w2.frozen? ⟨w1.heap.size, o, none⟩ = false := fun o => (hw2.frozen sV1 (by omega)).trans (yfV1 o)
  have zw2 : ∀ o, w2.cell? ⟨w.heap.size, o, none⟩ = (w.alloc (.cells #[.int .i64 0, .int .i64 0, .int .i64 0, .int .i64 0, .string ⟨#[]⟩, .slice none 0 0] 26)).cell? ⟨w.heap.size, o, none⟩ := fun o => (hw2.cell (by omega) hlt).trans (zV1 o)
  have zfw2 : ∀ o, w2.frozen? ⟨w.heap.size, o, none⟩ = false := fun o => (hw2.frozen (by omega) hlt).trans (zfV1 o)
  have sw2 : w1.heap.size < w2.heap.size := Nat.lt_of_lt_of_le sV1 hw2.2.size
  have hWw2 := hWV1.trans hw2
  clear hw2 c2
  clear y0V1 y1V1 y2V1 y3V1 y4V1 y5V1 yfV1 zV1 zfV1 hWV1
  go_wp2_with fail
  obtain ⟨V2, hV2⟩ : ∃ V, V = (w2).setCell ⟨w1.heap.size, 0, none⟩ (.int .i64 2) := ⟨_, rfl⟩
  rw [← hV2]
  have y0V2 : V2.cell? ⟨w1.heap.size, 0, none⟩ = some (.int .i64 2) := by rw [hV2]; exact World.cell?_setCell_same w2 ⟨w1.heap.size, 0, none⟩ _ (u := (.int .i64 0)) y0w2
  have y1V2 : V2.cell? ⟨w1.heap.size, 1, none⟩ = some (.int .i64 k) := by rw [hV2]; exact (World.cell?_setCell_other _ _ _ _ (by simp)).trans y1w2
  have y2V2 : V2.cell? ⟨w1.heap.size, 2, none⟩ = some (.int .i64 0) := by rw [hV2]; exact (World.cell?_setCell_other _ _ _ _ (by simp)).trans y2w2
  have y3V2 : V2.cell? ⟨w1.heap.size, 3, none⟩ = some (.int .i64 0) := by rw [hV2]; exact (World.cell?_setCell_other _ _ _ _ (by simp)).trans y3w2
  have y4V2 : V2.cell? ⟨w1.heap.size, 4, none⟩ = some (.string ⟨#[]⟩) := by rw [hV2]; exact (World.cell?_setCell_other _ _ _ _ (by simp)).trans y4w2
  have y5V2 : V2.cell? ⟨w1.heap.size, 5, none⟩ = some (.slice none 0 0) := by rw [hV2]; exact (World.cell?_setCell_other _ _ _ _ (by simp)).trans y5w2
  have yfV2 : ∀ o, V2.frozen? ⟨w1.heap.size, o, none⟩ = false := fun o => by rw [hV2]; simpa using yfw2 o
  have zV2 : ∀ o, V2.cell? ⟨w.heap.size, o, none⟩ = (w.alloc (.cells #[.int .i64 0, .int .i64 0, .int .i64 0, .int .i64 0, .string ⟨#[]⟩, .slice none 0 0] 26)).cell? ⟨w.heap.size, o, none⟩ := fun o => by
    rw [hV2]
    repeat rw [World.cell?_setCell_other _ _ _ _ (fun e => hne (congrArg Addr.block e))]
    exact zw2 o
  have zfV2 : ∀ o, V2.frozen? ⟨w.heap.size, o, none⟩ = false := fun o => by rw [hV2]; simpa using zfw2 o
  have sV2 : w1.heap.size < V2.heap.size := by rw [hV2]; simpa [World.setCell] using sw2
  have hWV2 := hWw2.setCell (p := ⟨w1.heap.size, 0, none⟩) (by simp; omega) hlt (.int .i64 2)
  rw [← hV2] at hWV2
  clear hV2
  clear y0w2 y1w2 y2w2 y3w2 y4w2 y5w2 yfw2 zw2 zfw2 hWw2
  refine (c3 _ hWV2.1).mono ?_
  rintro e w3 ⟨rfl, hw3⟩
  have y0w3 := (hw3.cell sV2 (by omega)).trans y0V2
  have y1w3 := (hw3.cell sV2 (by omega)).trans y1V2
  have y2w3 := (hw3.cell sV2 (by omega)).trans y2V2
  have y3w3 := (hw3.cell sV2 (by omega)).trans y3V2
  have y4w3 := (hw3.cell sV2 (by omega)).trans y4V2
  have y5w3 := (hw3.cell sV2 (by omega)).trans y5V2
  have yfw3 : ∀ o, w3.frozen? ⟨w1.heap.size, o, none⟩ = false := fun o => (hw3.frozen sV2 (by omega)).trans (yfV2 o)
  have zw3 : ∀ o, w3.cell? ⟨w.heap.size, o, none⟩ = (w.alloc (.cells #[.int .i64 0, .int .i64 0, .int .i64 0, .int .i64 0, .string ⟨#[]⟩, .slice none 0 0] 26)).cell? ⟨w.heap.size, o, none⟩ := fun o => (hw3.cell (by omega) hlt).trans (zV2 o)
  have zfw3 : ∀ o, w3.frozen? ⟨w.heap.size, o, none⟩ = false := fun o => (hw3.frozen (by omega) hlt).trans (zfV2 o)
  have sw3 : w1.heap.size < w3.heap.size := Nat.lt_of_lt_of_le sV2 hw3.2.size
  have hWw3 := hWV2.trans hw3
  clear hw3 c3
  clear y0V2 y1V2 y2V2 y3V2 y4V2 y5V2 yfV2 zV2 zfV2 hWV2
  go_wp2
  refine bodyPost_ret (v := .agg #[.int .i64 2, .int .i64 k, .int .i64 a, .int .i64 a, .string ⟨#[]⟩, .slice none 0 0]) (by simp [results, Try.results64, go_sem, *]) rfl ⟨2, k, a, a, ⟨#[]⟩, none, 0, rfl, ⟨rfl, rfl, rfl, rfl, rfl, rfl, rfl⟩, ?_⟩
  repeat (refine WentR.setCell ?_ (by simp <;> omega) hlt _)
  exact hWw3

set_option maxRecDepth 100000 in
set_option maxHeartbeats 4000000 in
theorem key_range (rb : Nat) (ws : List Wd.Word) (p : Nat) (k a b : Int) (w : World) (h : Rd w rb ws p) (h1 : Ps.num ws p 4 = some k) (h2 : Ps.isMark ws (p + 1) 61 = false) (h3 : Ps.isMark ws (p + 1) 58 = true) (h4 : Ps.num ws (p + 2) 100 = some a) (h5 : Ps.isMark ws (p + 3) 45 = true) (h6 : Ps.num ws (p + 4) 100 = some b) (hab : a ≤ b) :
    Calls Try.prog 64 #[.pointer (some ⟨rb, 0, none⟩)] w (FR rb ws (.leaf 3 k a b ⟨#[]⟩) (p + 5) w) := by
  have hlt := h.lt
  have c1 := fun w (h : Rd w rb ws p) => num38 rb ws p 4 k w h h1
  have c2 := fun w (h : Rd w rb ws (p + 1)) => mark31 rb ws (p + 1) 61 ⟨#[61]⟩ rfl w h
  have c3 := fun w (h : Rd w rb ws (p + 1)) => mark31 rb ws (p + 1) 58 ⟨#[58]⟩ rfl w h
  have c4 := fun w (h : Rd w rb ws (p + 2)) => num38 rb ws (p + 2) 100 a w h h4
  have c5 := fun w (h : Rd w rb ws (p + 3)) => mark31 rb ws (p + 3) 45 ⟨#[45]⟩ rfl w h
  have c6 := fun w (h : Rd w rb ws (p + 4)) => num38 rb ws (p + 4) 100 b w h h6
  rw [h2] at c2
  rw [h3] at c3
  rw [h5] at c5
  simp only [if_true, Bool.false_eq_true, if_false] at c2 c3 c5
  clear h1 h2 h3 h4 h5 h6
  unfold FR
  go_enter Try.func64, Try.ntmps64
  go_wp2_with fail
  have hW0 : WentR rb ws p w (w.alloc (.cells #[.int .i64 0, .int .i64 0, .int .i64 0, .int .i64 0, .string ⟨#[]⟩, .slice none 0 0] 26)) := (WentR.refl h).alloc _
  refine (c1 _ hW0.1).mono ?_
  rintro e w1 ⟨rfl, hw1⟩
  have zw1 : ∀ o, w1.cell? ⟨w.heap.size, o, none⟩ = (w.alloc (.cells #[.int .i64 0, .int .i64 0, .int .i64 0, .int .i64 0, .string ⟨#[]⟩, .slice none 0 0] 26)).cell? ⟨w.heap.size, o, none⟩ := fun o => hw1.cell (by simp) hlt
  have zfw1 : ∀ o, w1.frozen? ⟨w.heap.size, o, none⟩ = false := fun o => (hw1.frozen (by simp) hlt).trans (by simp)
  have s1 : w.heap.size < w1.heap.size := by have := hw1.2.size; simp at this; omega
  have hne : w1.heap.size ≠ w.heap.size := by omega
  have hne' : w.heap.size ≠ w1.heap.size := by omega
  have hWw1 := hW0.trans hw1
  clear hW0 hw1 c1
  go_wp2_with fail
  obtain ⟨V1, hV1⟩ : ∃ V, V = w1.alloc (.cells #[.int .i64 0, .int .i64 k, .int .i64 0, .int .i64 0, .string ⟨#[]⟩, .slice none 0 0] 26) := ⟨_, rfl⟩
  rw [← hV1]
  have y0V1 : V1.cell? ⟨w1.heap.size, 0, none⟩ = some (.int .i64 0) := by rw [hV1]; simp
  have y1V1 : V1.cell? ⟨w1.heap.size, 1, none⟩ = some (.int .i64 k) := by rw [hV1]; simp
  have y2V1 : V1.cell? ⟨w1.heap.size, 2, none⟩ = some (.int .i64 0) := by rw [hV1]; simp
  have y3V1 : V1.cell? ⟨w1.heap.size, 3, none⟩ = some (.int .i64 0) := by rw [hV1]; simp
  have y4V1 : V1.cell? ⟨w1.heap.size, 4, none⟩ = some (.string ⟨#[]⟩) := by rw [hV1]; simp
  have y5V1 : V1.cell? ⟨w1.heap.size, 5, none⟩ = some (.slice none 0 0) := by rw [hV1]; simp
  have yfV1 : ∀ o, V1.frozen? ⟨w1.heap.size, o, none⟩ = false := fun o => by rw [hV1]; simp
  have zV1 : ∀ o, V1.cell? ⟨w.heap.size, o, none⟩ = (w.alloc (.cells #[.int .i64 0, .int .i64 0, .int .i64 0, .int .i64 0, .string ⟨#[]⟩, .slice none 0 0] 26)).cell? ⟨w.heap.size, o, none⟩ := fun o => by rw [hV1, World.cell?_alloc_past _ _ _ (hn := s1)]; exact zw1 o
  have zfV1 : ∀ o, V1.frozen? ⟨w.heap.size, o, none⟩ = false := fun o => by rw [hV1, World.frozen?_alloc_past _ _ _ (hn := s1)]; exact zfw1 o
  have sV1 : w1.heap.size < V1.heap.size := by rw [hV1]; simp
  have hWV1 := hWw1.alloc (.cells #[.int .i64 0, .int .i64 k, .int .i64 0, .int .i64 0, .string ⟨#[]⟩, .slice none 0 0] 26)
  rw [← hV1] at hWV1
  clear hV1 hWw1 zw1 zfw1
  refine (c2 _ hWV1.1).mono ?_
  rintro e w2 ⟨rfl, hw2⟩
  have y0w2 := (hw2.cell sV1 (by omega)).trans y0V1
  have y1w2 := (hw2.cell sV1 (by omega)).trans y1V1
  have y2w2 := (hw2.cell sV1 (by omega)).trans y2V1
  have y3w2 := (hw2.cell sV1 (by omega)).trans y3V1
  have y4w2 := (hw2.cell sV1 (by omega)).trans y4V1
  have y5w2 := (hw2.cell sV1 (by omega)).trans y5V1
  have yfw2 : ∀ o, w2.frozen? ⟨w1.heap.size, o, none⟩ = false := fun o => (hw2.frozen sV1 (by omega)).trans (yfV1 o)
  have zw2 : ∀ o, w2.cell? ⟨w.heap.size, o, none⟩ = (w.alloc (.cells #[.int .i64 0, .int .i64 0, .int .i64 0, .int .i64 0, .string ⟨#[]⟩, .slice none 0 0] 26)).cell? ⟨w.heap.size, o, none⟩ := fun o => (hw2.cell (by omega) hlt).trans (zV1 o)
  have zfw2 : ∀ o, w2.frozen? ⟨w.heap.size, o, none⟩ = false := fun o => (hw2.frozen (by omega) hlt).trans (zfV1 o)
  have sw2 : w1.heap.size < w2.heap.size := Nat.lt_of_lt_of_le sV1 hw2.2.size
  have hWw2 := hWV1.trans hw2
  clear hw2 c2
  clear y0V1 y1V1 y2V1 y3V1 y4V1 y5V1 yfV1 zV1 zfV1 hWV1
  go_wp2_with fail
  refine (c3 _ hWw2.1).mono ?_
  rintro e w3 ⟨rfl, hw3⟩
  have y0w3 := (hw3.cell sw2 (by omega)).trans y0w2
  have y1w3 := (hw3.cell sw2 (by omega)).trans y1w2
  have y2w3 := (hw3.cell sw2 (by omega)).trans y2w2
  have y3w3 := (hw3.cell sw2 (by omega)).trans y3w2
  have y4w3 := (hw3.cell sw2 (by omega)).trans y4w2
  have y5w3 := (hw3.cell sw2 (by omega)).trans y5w2
  have yfw3 : ∀ o, w3.frozen? ⟨w1.heap.size, o, none⟩ = false := fun o => (hw3.frozen sw2 (by omega)).trans (yfw2 o)
  have zw3 : ∀ o, w3.cell? ⟨w.heap.size, o, none⟩ = (w.alloc (.cells #[.int .i64 0, .int .i64 0, .int .i64 0, .int .i64 0, .string ⟨#[]⟩, .slice none 0 0] 26)).cell? ⟨w.heap.size, o, none⟩ := fun o => (hw3.cell (by omega) hlt).trans (zw2 o)
  have zfw3 : ∀ o, w3.frozen? ⟨w.heap.size, o, none⟩ = false := fun o => (hw3.frozen (by omega) hlt).trans (zfw2 o)
  have sw3 : w1.heap.size < w3.heap.size := Nat.lt_of_lt_of_le sw2 hw3.2.size
  have hWw3 := hWw2.trans hw3
  clear hw3 c3
  clear y0w2 y1w2 y2w2 y3w2 y4w2 y5w2 yfw2 zw2 zfw2 hWw2
  go_wp2_with fail
  obtain ⟨V2, hV2⟩ : ∃ V, V = (w3).setCell ⟨w1.heap.size, 0, none⟩ (.int .i64 3) := ⟨_, rfl⟩
  rw [← hV2]
  have y0V2 : V2.cell? ⟨w1.heap.size, 0, none⟩ = some (.int .i64 3) := by rw [hV2]; exact World.cell?_setCell_same w3 ⟨w1.heap.size, 0, none⟩ _ (u := (.int .i64 0)) y0w3
  have y1V2 : V2.cell? ⟨w1.heap.size, 1, none⟩ = some (.int .i64 k) := by rw [hV2]; exact (World.cell?_setCell_other _ _ _ _ (by simp)).trans y1w3
  have y2V2 : V2.cell? ⟨w1.heap.size, 2, none⟩ = some (.int .i64 0) := by rw [hV2]; exact (World.cell?_setCell_other _ _ _ _ (by simp)).trans y2w3
  have y3V2 : V2.cell? ⟨w1.heap.size, 3, none⟩ = some (.int .i64 0) := by rw [hV2]; exact (World.cell?_setCell_other _ _ _ _ (by simp)).trans y3w3
  have y4V2 : V2.cell? ⟨w1.heap.size, 4, none⟩ = some (.string ⟨#[]⟩) := by rw [hV2]; exact (World.cell?_setCell_other _ _ _ _ (by simp)).trans y4w3
  have y5V2 : V2.cell? ⟨w1.heap.size, 5, none⟩ = some (.slice none 0 0) := by rw [hV2]; exact (World.cell?_setCell_other _ _ _ _ (by simp)).trans y5w3
  have yfV2 : ∀ o, V2.frozen? ⟨w1.heap.size, o, none⟩ = false := fun o => by rw [hV2]; simpa using yfw3 o
  have zV2 : ∀ o, V2.cell? ⟨w.heap.size, o, none⟩ = (w.alloc (.cells #[.int .i64 0, .int .i64 0, .int .i64 0, .int .i64 0, .string ⟨#[]⟩, .slice none 0 0] 26)).cell? ⟨w.heap.size, o, none⟩ := fun o => by
    rw [hV2]
    repeat rw [World.cell?_setCell_other _ _ _ _ (fun e => hne (congrArg Addr.block e))]
    exact zw3 o
  have zfV2 : ∀ o, V2.frozen? ⟨w.heap.size, o, none⟩ = false := fun o => by rw [hV2]; simpa using zfw3 o
  have sV2 : w1.heap.size < V2.heap.size := by rw [hV2]; simpa [World.setCell] using sw3
  have hWV2 := hWw3.setCell (p := ⟨w1.heap.size, 0, none⟩) (by simp; omega) hlt (.int .i64 3)
  rw [← hV2] at hWV2
  clear hV2
  clear y0w3 y1w3 y2w3 y3w3 y4w3 y5w3 yfw3 zw3 zfw3 hWw3
  refine (c4 _ hWV2.1).mono ?_
  rintro e w4 ⟨rfl, hw4⟩
  have y0w4 := (hw4.cell sV2 (by omega)).trans y0V2
  have y1w4 := (hw4.cell sV2 (by omega)).trans y1V2
  have y2w4 := (hw4.cell sV2 (by omega)).trans y2V2
  have y3w4 := (hw4.cell sV2 (by omega)).trans y3V2
  have y4w4 := (hw4.cell sV2 (by omega)).trans y4V2
  have y5w4 := (hw4.cell sV2 (by omega)).trans y5V2
  have yfw4 : ∀ o, w4.frozen? ⟨w1.heap.size, o, none⟩ = false := fun o => (hw4.frozen sV2 (by omega)).trans (yfV2 o)
  have zw4 : ∀ o, w4.cell? ⟨w.heap.size, o, none⟩ = (w.alloc (.cells #[.int .i64 0, .int .i64 0, .int .i64 0, .int .i64 0, .string ⟨#[]⟩, .slice none 0 0] 26)).cell? ⟨w.heap.size, o, none⟩ := fun o => (hw4.cell (by omega) hlt).trans (zV2 o)
  have zfw4 : ∀ o, w4.frozen? ⟨w.heap.size, o, none⟩ = false := fun o => (hw4.frozen (by omega) hlt).trans (zfV2 o)
  have sw4 : w1.heap.size < w4.heap.size := Nat.lt_of_lt_of_le sV2 hw4.2.size
  have hWw4 := hWV2.trans hw4
  clear hw4 c4
  clear y0V2 y1V2 y2V2 y3V2 y4V2 y5V2 yfV2 zV2 zfV2 hWV2
  go_wp2_with fail
  obtain ⟨V3, hV3⟩ : ∃ V, V = (w4).setCell ⟨w1.heap.size, 2, none⟩ (.int .i64 a) := ⟨_, rfl⟩
  rw [← hV3]
  have y0V3 : V3.cell? ⟨w1.heap.size, 0, none⟩ = some (.int .i64 3) := by rw [hV3]; exact (World.cell?_setCell_other _ _ _ _ (by simp)).trans y0w4
  have y1V3 : V3.cell? ⟨w1.heap.size, 1, none⟩ = some (.int .i64 k) := by rw [hV3]; exact (World.cell?_setCell_other _ _ _ _ (by simp)).trans y1w4
  have y2V3 : V3.cell? ⟨w1.heap.size, 2, none⟩ = some (.int .i64 a) := by rw [hV3]; exact World.cell?_setCell_same w4 ⟨w1.heap.size, 2, none⟩ _ (u := (.int .i64 0)) y2w4
  have y3V3 : V3.cell? ⟨w1.heap.size, 3, none⟩ = some (.int .i64 0) := by rw [hV3]; exact (World.cell?_setCell_other _ _ _ _ (by simp)).trans y3w4
  have y4V3 : V3.cell? ⟨w1.heap.size, 4, none⟩ = some (.string ⟨#[]⟩) := by rw [hV3]; exact (World.cell?_setCell_other _ _ _ _ (by simp)).trans y4w4
  have y5V3 : V3.cell? ⟨w1.heap.size, 5, none⟩ = some (.slice none 0 0) := by rw [hV3]; exact (World.cell?_setCell_other _ _ _ _ (by simp)).trans y5w4
  have yfV3 : ∀ o, V3.frozen? ⟨w1.heap.size, o, none⟩ = false := fun o => by rw [hV3]; simpa using yfw4 o
  have zV3 : ∀ o, V3.cell? ⟨w.heap.size, o, none⟩ = (w.alloc (.cells #[.int .i64 0, .int .i64 0, .int .i64 0, .int .i64 0, .string ⟨#[]⟩, .slice none 0 0] 26)).cell? ⟨w.heap.size, o, none⟩ := fun o => by
    rw [hV3]
    repeat rw [World.cell?_setCell_other _ _ _ _ (fun e => hne (congrArg Addr.block e))]
    exact zw4 o
  have zfV3 : ∀ o, V3.frozen? ⟨w.heap.size, o, none⟩ = false := fun o => by rw [hV3]; simpa using zfw4 o
  have sV3 : w1.heap.size < V3.heap.size := by rw [hV3]; simpa [World.setCell] using sw4
  have hWV3 := hWw4.setCell (p := ⟨w1.heap.size, 2, none⟩) (by simp; omega) hlt (.int .i64 a)
  rw [← hV3] at hWV3
  clear hV3
  clear y0w4 y1w4 y2w4 y3w4 y4w4 y5w4 yfw4 zw4 zfw4 hWw4
  refine (c5 _ hWV3.1).mono ?_
  rintro e w5 ⟨rfl, hw5⟩
  have y0w5 := (hw5.cell sV3 (by omega)).trans y0V3
  have y1w5 := (hw5.cell sV3 (by omega)).trans y1V3
  have y2w5 := (hw5.cell sV3 (by omega)).trans y2V3
  have y3w5 := (hw5.cell sV3 (by omega)).trans y3V3
  have y4w5 := (hw5.cell sV3 (by omega)).trans y4V3
  have y5w5 := (hw5.cell sV3 (by omega)).trans y5V3
  have yfw5 : ∀ o, w5.frozen? ⟨w1.heap.size, o, none⟩ = false := fun o => (hw5.frozen sV3 (by omega)).trans (yfV3 o)
  have zw5 : ∀ o, w5.cell? ⟨w.heap.size, o, none⟩ = (w.alloc (.cells #[.int .i64 0, .int .i64 0, .int .i64 0, .int .i64 0, .string ⟨#[]⟩, .slice none 0 0] 26)).cell? ⟨w.heap.size, o, none⟩ := fun o => (hw5.cell (by omega) hlt).trans (zV3 o)
  have zfw5 : ∀ o, w5.frozen? ⟨w.heap.size, o, none⟩ = false := fun o => (hw5.frozen (by omega) hlt).trans (zfV3 o)
  have sw5 : w1.heap.size < w5.heap.size := Nat.lt_of_lt_of_le sV3 hw5.2.size
  have hWw5 := hWV3.trans hw5
  clear hw5 c5
  clear y0V3 y1V3 y2V3 y3V3 y4V3 y5V3 yfV3 zV3 zfV3 hWV3
  go_wp2_with fail
  refine (c6 _ hWw5.1).mono ?_
  rintro e w6 ⟨rfl, hw6⟩
  have y0w6 := (hw6.cell sw5 (by omega)).trans y0w5
  have y1w6 := (hw6.cell sw5 (by omega)).trans y1w5
  have y2w6 := (hw6.cell sw5 (by omega)).trans y2w5
  have y3w6 := (hw6.cell sw5 (by omega)).trans y3w5
  have y4w6 := (hw6.cell sw5 (by omega)).trans y4w5
  have y5w6 := (hw6.cell sw5 (by omega)).trans y5w5
  have yfw6 : ∀ o, w6.frozen? ⟨w1.heap.size, o, none⟩ = false := fun o => (hw6.frozen sw5 (by omega)).trans (yfw5 o)
  have zw6 : ∀ o, w6.cell? ⟨w.heap.size, o, none⟩ = (w.alloc (.cells #[.int .i64 0, .int .i64 0, .int .i64 0, .int .i64 0, .string ⟨#[]⟩, .slice none 0 0] 26)).cell? ⟨w.heap.size, o, none⟩ := fun o => (hw6.cell (by omega) hlt).trans (zw5 o)
  have zfw6 : ∀ o, w6.frozen? ⟨w.heap.size, o, none⟩ = false := fun o => (hw6.frozen (by omega) hlt).trans (zfw5 o)
  have sw6 : w1.heap.size < w6.heap.size := Nat.lt_of_lt_of_le sw5 hw6.2.size
  have hWw6 := hWw5.trans hw6
  clear hw6 c6
  clear y0w5 y1w5 y2w5 y3w5 y4w5 y5w5 yfw5 zw5 zfw5 hWw5
  have hr3 := hWw6.1
  obtain ⟨_, _, _, _, _, _, _, _, _, _, _, qb, _⟩ := hr3
  have hba : decide (b < a) = false := decide_eq_false (by omega)
  go_wp2
  refine bodyPost_ret (v := .agg #[.int .i64 3, .int .i64 k, .int .i64 a, .int .i64 b, .string ⟨#[]⟩, .slice none 0 0]) (by simp [results, Try.results64, go_sem, *]) rfl ⟨3, k, a, b, ⟨#[]⟩, none, 0, rfl, ⟨rfl, rfl, rfl, rfl, rfl, rfl, rfl⟩, ?_⟩
  repeat (refine WentR.setCell ?_ (by simp <;> omega) hlt _)
  exact hWw6

theorem key37 (rb : Nat) (ws : List Wd.Word) (p q : Nat) (f : Ev.Ft) (w : World) (h : Rd w rb ws p) (hk : Ps.key ws p = some (f, q)) :
    Calls Try.prog 64 #[.pointer (some ⟨rb, 0, none⟩)] w (FR rb ws f q w) := by
  unfold Ps.key at hk
  split at hk
  · cases hk
  · rename_i k e1
    split at hk
    · rename_i e2
      split at hk
      · cases hk
      · rename_i a e3
        cases hk
        exact key_eq rb ws p k a w h e1 e2 e3
    · rename_i e2
      split at hk
      · rename_i e3
        split at hk
        · cases hk
        · rename_i a e4
          split at hk
          · rename_i e5
            split at hk
            · cases hk
            · rename_i b e6
              split at hk
              · rename_i e7
                cases hk
                exact key_range rb ws p k a b w h e1 (by simpa using e2) e3 e4 e5 e6 e7
              · cases hk
          · cases hk
      · cases hk

end Go.Proofs.Ytflpdekifkcfkab
