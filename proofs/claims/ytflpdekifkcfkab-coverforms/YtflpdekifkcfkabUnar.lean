/- The document's reader of words: what binds most. -/
import Derived.Test.YtflpdekifkcfkabKeys
namespace Go.Proofs.Ytflpdekifkcfkab
open Go.RowKit
set_option linter.unusedVariables false

set_option maxRecDepth 100000 in
set_option maxHeartbeats 4000000 in
theorem not_bang (rb : Nat) (ws : List Wd.Word) (p : Nat) (q : Nat) (f : Ev.Ft) (w : World) (h : Rd w rb ws p) (e33 : Ps.isMark ws p 33 = true) (c : ∀ w', Rd w' rb ws (p + 1) → Calls Try.prog 57 #[.pointer (some ⟨rb, 0, none⟩)] w' (FR rb ws f q w')) :
    Calls Try.prog 57 #[.pointer (some ⟨rb, 0, none⟩)] w (FR rb ws (.non f) (q) w) := by
  have hlt := h.lt
  have c33 := fun w (h : Rd w rb ws p) => mark31 rb ws p 33 ⟨#[33]⟩ rfl w h
  rw [e33] at c33
  simp only [if_true] at c33
  clear e33
  unfold FR at c
  unfold FR
  go_enter Try.func57, Try.ntmps57
  go_wp2_with fail
  have hWw0 : WentR rb ws p w (w.alloc (.cells #[.int .i64 0, .int .i64 0, .int .i64 0, .int .i64 0, .string ⟨#[]⟩, .slice none 0 0] 26)) := (WentR.refl h).alloc _
  have zw0 : ∀ o, (w.alloc (.cells #[.int .i64 0, .int .i64 0, .int .i64 0, .int .i64 0, .string ⟨#[]⟩, .slice none 0 0] 26)).cell? ⟨w.heap.size, o, none⟩ = (w.alloc (.cells #[.int .i64 0, .int .i64 0, .int .i64 0, .int .i64 0, .string ⟨#[]⟩, .slice none 0 0] 26)).cell? ⟨w.heap.size, o, none⟩ := fun _ => rfl
  have zfw0 : ∀ o, (w.alloc (.cells #[.int .i64 0, .int .i64 0, .int .i64 0, .int .i64 0, .string ⟨#[]⟩, .slice none 0 0] 26)).frozen? ⟨w.heap.size, o, none⟩ = false := fun o => by simp
  have sw0 : w.heap.size < (w.alloc (.cells #[.int .i64 0, .int .i64 0, .int .i64 0, .int .i64 0, .string ⟨#[]⟩, .slice none 0 0] 26)).heap.size := by simp
  refine (c33 _ hWw0.1).mono ?_
  rintro e w1 ⟨rfl, hw1⟩
  have zw1 : ∀ o, w1.cell? ⟨w.heap.size, o, none⟩ = (w.alloc (.cells #[.int .i64 0, .int .i64 0, .int .i64 0, .int .i64 0, .string ⟨#[]⟩, .slice none 0 0] 26)).cell? ⟨w.heap.size, o, none⟩ := fun o => (hw1.cell sw0 hlt).trans (zw0 o)
  have zfw1 : ∀ o, w1.frozen? ⟨w.heap.size, o, none⟩ = false := fun o => (hw1.frozen sw0 hlt).trans (zfw0 o)
  have sw1 : w.heap.size < w1.heap.size := Nat.lt_of_lt_of_le sw0 hw1.2.size
  have hWw1 := hWw0.trans hw1
  clear hw1 zw0 zfw0 hWw0 c33
  go_wp2_with fail
  refine (c _ hWw1.1).mono ?_
  rintro e w2 ⟨o1, k1, l1, h1, t1, x1, n1, rfl, ly1, hw2⟩
  have zw2 : ∀ o, w2.cell? ⟨w.heap.size, o, none⟩ = (w.alloc (.cells #[.int .i64 0, .int .i64 0, .int .i64 0, .int .i64 0, .string ⟨#[]⟩, .slice none 0 0] 26)).cell? ⟨w.heap.size, o, none⟩ := fun o => (hw2.cell sw1 hlt).trans (zw1 o)
  have zfw2 : ∀ o, w2.frozen? ⟨w.heap.size, o, none⟩ = false := fun o => (hw2.frozen sw1 hlt).trans (zfw1 o)
  have sw2 : w.heap.size < w2.heap.size := Nat.lt_of_lt_of_le sw1 hw2.2.size
  have hWw2 := hWw1.trans hw2
  have s12 : w1.heap.size ≤ w2.heap.size := hw2.2.size
  clear hw2 zw1 zfw1 hWw1 c
  obtain ⟨V, hV⟩ : ∃ V, V = w2.alloc (.cells #[.int .i64 o1, .int .i64 k1, .int .i64 l1, .int .i64 h1, .string t1, .slice x1 n1 n1] 26) := ⟨_, rfl⟩
  have hSix : Six V w2.heap.size 0 o1 k1 l1 h1 t1 x1 n1 := by rw [hV]; unfold Six; simp
  have hV2 := (WentR.refl hWw2.1).alloc (.cells #[.int .i64 o1, .int .i64 k1, .int .i64 l1, .int .i64 h1, .string t1, .slice x1 n1 n1] 26)
  rw [← hV] at hV2
  have zV0 := (hV2.cell sw2 hlt (o := 0)).trans ((zw2 0).trans (by simp : _ = some (.int .i64 0)))
  have zV1 := (hV2.cell sw2 hlt (o := 1)).trans ((zw2 1).trans (by simp : _ = some (.int .i64 0)))
  have zV2 := (hV2.cell sw2 hlt (o := 2)).trans ((zw2 2).trans (by simp : _ = some (.int .i64 0)))
  have zV3 := (hV2.cell sw2 hlt (o := 3)).trans ((zw2 3).trans (by simp : _ = some (.int .i64 0)))
  have zV4 := (hV2.cell sw2 hlt (o := 4)).trans ((zw2 4).trans (by simp : _ = some (.string ⟨#[]⟩)))
  have zV5 := (hV2.cell sw2 hlt (o := 5)).trans ((zw2 5).trans (by simp : _ = some (.slice none 0 0)))
  have zVf : ∀ o, V.frozen? ⟨w.heap.size, o, none⟩ = false := fun o => (hV2.frozen sw2 hlt).trans (zfw2 o)
  have hWV := hWw2.trans hV2
  have lyV : Lies (Past w1.heap.size) V f o1 k1 l1 h1 t1 x1 n1 := Lies.kept (hV2.past (by omega)) f ly1
  clear hV2 ly1 hWw2 zw2 zfw2
  simp only []
  iterate 4 (first | go_skip | go_guarded | go_step | go_upon | go_simp)
  rw [← hV]
  clear hV
  go_wp2
  refine bodyPost_ret (v := .agg #[.int .i64 7, .int .i64 0, .int .i64 0, .int .i64 0, .string ⟨#[]⟩, .slice (some ⟨w2.heap.size, 0, none⟩) 1 1]) (by simp [results, Try.results57, go_sem, *]) rfl ⟨7, 0, 0, 0, ⟨#[]⟩, some ⟨w2.heap.size, 0, none⟩, 1, rfl, ⟨rfl, rfl, rfl, rfl, rfl, w2.heap.size, o1, k1, l1, h1, t1, x1, n1, rfl, rfl, Nat.le_of_lt sw2, hSix.of (fun i => ?_), Lies.mono (P := Past w1.heap.size) (fun b _ hb => by unfold Past at *; omega) f (Lies.kept ?_ f lyV)⟩, ?_⟩
  · repeat rw [World.cell?_setCell_other _ _ _ _ (fun e => by have := congrArg Addr.block e; simp at this; omega)]
  · repeat (refine Kept.setCell ?_ (fun k hk hq => by unfold Past at hq; simp; omega) _)
    exact Kept.refl _ _
  · repeat (refine WentR.setCell ?_ (by simp <;> omega) hlt _)
    exact hWV

set_option maxRecDepth 100000 in
set_option maxHeartbeats 4000000 in
theorem not_open (rb : Nat) (ws : List Wd.Word) (p : Nat) (q : Nat) (f : Ev.Ft) (w : World) (h : Rd w rb ws p) (e33 : Ps.isMark ws p 33 = false) (e40 : Ps.isMark ws p 40 = true) (c : ∀ w', Rd w' rb ws (p + 1) → Calls Try.prog 34 #[.pointer (some ⟨rb, 0, none⟩)] w' (FR rb ws f q w')) (e41 : Ps.isMark ws q 41 = true) :
    Calls Try.prog 57 #[.pointer (some ⟨rb, 0, none⟩)] w (FR rb ws (f) (q + 1) w) := by
  have hlt := h.lt
  have c33 := fun w (h : Rd w rb ws p) => mark31 rb ws p 33 ⟨#[33]⟩ rfl w h
  rw [e33] at c33
  simp only [Bool.false_eq_true, if_false] at c33
  clear e33
  have c40 := fun w (h : Rd w rb ws p) => mark31 rb ws p 40 ⟨#[40]⟩ rfl w h
  rw [e40] at c40
  simp only [if_true] at c40
  clear e40
  unfold FR at c
  have c41 := fun w (h : Rd w rb ws q) => mark31 rb ws q 41 ⟨#[41]⟩ rfl w h
  rw [e41] at c41
  simp only [if_true] at c41
  clear e41
  unfold FR
  go_enter Try.func57, Try.ntmps57
  go_wp2_with fail
  have hWw0 : WentR rb ws p w (w.alloc (.cells #[.int .i64 0, .int .i64 0, .int .i64 0, .int .i64 0, .string ⟨#[]⟩, .slice none 0 0] 26)) := (WentR.refl h).alloc _
  have zw0 : ∀ o, (w.alloc (.cells #[.int .i64 0, .int .i64 0, .int .i64 0, .int .i64 0, .string ⟨#[]⟩, .slice none 0 0] 26)).cell? ⟨w.heap.size, o, none⟩ = (w.alloc (.cells #[.int .i64 0, .int .i64 0, .int .i64 0, .int .i64 0, .string ⟨#[]⟩, .slice none 0 0] 26)).cell? ⟨w.heap.size, o, none⟩ := fun _ => rfl
  have zfw0 : ∀ o, (w.alloc (.cells #[.int .i64 0, .int .i64 0, .int .i64 0, .int .i64 0, .string ⟨#[]⟩, .slice none 0 0] 26)).frozen? ⟨w.heap.size, o, none⟩ = false := fun o => by simp
  have sw0 : w.heap.size < (w.alloc (.cells #[.int .i64 0, .int .i64 0, .int .i64 0, .int .i64 0, .string ⟨#[]⟩, .slice none 0 0] 26)).heap.size := by simp
  refine (c33 _ hWw0.1).mono ?_
  rintro e w1 ⟨rfl, hw1⟩
  have zw1 : ∀ o, w1.cell? ⟨w.heap.size, o, none⟩ = (w.alloc (.cells #[.int .i64 0, .int .i64 0, .int .i64 0, .int .i64 0, .string ⟨#[]⟩, .slice none 0 0] 26)).cell? ⟨w.heap.size, o, none⟩ := fun o => (hw1.cell sw0 hlt).trans (zw0 o)
  have zfw1 : ∀ o, w1.frozen? ⟨w.heap.size, o, none⟩ = false := fun o => (hw1.frozen sw0 hlt).trans (zfw0 o)
  have sw1 : w.heap.size < w1.heap.size := Nat.lt_of_lt_of_le sw0 hw1.2.size
  have hWw1 := hWw0.trans hw1
  clear hw1 zw0 zfw0 hWw0 c33
  go_wp2_with fail
  refine (c40 _ hWw1.1).mono ?_
  rintro e w2 ⟨rfl, hw2⟩
  have zw2 : ∀ o, w2.cell? ⟨w.heap.size, o, none⟩ = (w.alloc (.cells #[.int .i64 0, .int .i64 0, .int .i64 0, .int .i64 0, .string ⟨#[]⟩, .slice none 0 0] 26)).cell? ⟨w.heap.size, o, none⟩ := fun o => (hw2.cell sw1 hlt).trans (zw1 o)
  have zfw2 : ∀ o, w2.frozen? ⟨w.heap.size, o, none⟩ = false := fun o => (hw2.frozen sw1 hlt).trans (zfw1 o)
  have sw2 : w.heap.size < w2.heap.size := Nat.lt_of_lt_of_le sw1 hw2.2.size
  have hWw2 := hWw1.trans hw2
  clear hw2 zw1 zfw1 hWw1 c40
  go_wp2_with fail
  refine (c _ hWw2.1).mono ?_
  rintro e w3 ⟨o1, k1, l1, h1, t1, x1, n1, rfl, ly1, hw3⟩
  have zw3 : ∀ o, w3.cell? ⟨w.heap.size, o, none⟩ = (w.alloc (.cells #[.int .i64 0, .int .i64 0, .int .i64 0, .int .i64 0, .string ⟨#[]⟩, .slice none 0 0] 26)).cell? ⟨w.heap.size, o, none⟩ := fun o => (hw3.cell sw2 hlt).trans (zw2 o)
  have zfw3 : ∀ o, w3.frozen? ⟨w.heap.size, o, none⟩ = false := fun o => (hw3.frozen sw2 hlt).trans (zfw2 o)
  have sw3 : w.heap.size < w3.heap.size := Nat.lt_of_lt_of_le sw2 hw3.2.size
  have hWw3 := hWw2.trans hw3
  have s23 : w2.heap.size ≤ w3.heap.size := hw3.2.size
  clear hw3 zw2 zfw2 hWw2 c
  go_wp2_with fail
  obtain ⟨V, hV⟩ : ∃ V, V = w3.alloc (.cells #[.int .i64 o1, .int .i64 k1, .int .i64 l1, .int .i64 h1, .string t1, .slice x1 n1 n1] 26) := ⟨_, rfl⟩
  rw [← hV]
  have hSix : Six V w3.heap.size 0 o1 k1 l1 h1 t1 x1 n1 := by rw [hV]; unfold Six; simp
  have hV3 := (WentR.refl hWw3.1).alloc (.cells #[.int .i64 o1, .int .i64 k1, .int .i64 l1, .int .i64 h1, .string t1, .slice x1 n1 n1] 26)
  rw [← hV] at hV3
  have sV : w3.heap.size < V.heap.size := by rw [hV]; simp
  clear hV
  have hWV := hWw3.trans hV3
  refine (c41 _ hWV.1).mono ?_
  rintro e w4 ⟨rfl, hw4⟩
  have h34 := hV3.trans hw4
  have zw4 : ∀ o, w4.cell? ⟨w.heap.size, o, none⟩ = (w.alloc (.cells #[.int .i64 0, .int .i64 0, .int .i64 0, .int .i64 0, .string ⟨#[]⟩, .slice none 0 0] 26)).cell? ⟨w.heap.size, o, none⟩ := fun o => (h34.cell sw3 hlt).trans (zw3 o)
  have zfw4 : ∀ o, w4.frozen? ⟨w.heap.size, o, none⟩ = false := fun o => (h34.frozen sw3 hlt).trans (zfw3 o)
  have hSix4 : Six w4 w3.heap.size 0 o1 k1 l1 h1 t1 x1 n1 := hSix.of (fun i => hw4.cell sV (by omega))
  have ly4 : Lies (Past w2.heap.size) w4 f o1 k1 l1 h1 t1 x1 n1 := Lies.kept (h34.past (by omega)) f ly1
  have hWw4 := hWw3.trans h34
  obtain ⟨y0, y1, y2, y3, y4, y5⟩ := hSix4
  simp only [Nat.zero_add] at y0 y1 y2 y3 y4 y5
  have hne : w3.heap.size ≠ w.heap.size := by omega
  have hne' : w.heap.size ≠ w3.heap.size := by omega
  clear hSix hV3 hw4 h34 hWV zw3 zfw3 hWw3 ly1 c41
  go_wp2
  refine bodyPost_ret (v := .agg #[.int .i64 o1, .int .i64 k1, .int .i64 l1, .int .i64 h1, .string t1, .slice x1 n1 n1]) (by simp [results, Try.results57, go_sem, *]) rfl ⟨o1, k1, l1, h1, t1, x1, n1, rfl, Lies.mono (P := Past w2.heap.size) (fun b _ hb => by unfold Past at *; omega) f (Lies.kept ?_ f ly4), ?_⟩
  · repeat (refine Kept.setCell ?_ (fun k hk hq => by unfold Past at hq; simp; omega) _)
    exact Kept.refl _ _
  · repeat (refine WentR.setCell ?_ (by simp <;> omega) hlt _)
    exact hWw4

set_option maxRecDepth 100000 in
set_option maxHeartbeats 4000000 in
theorem not_star (rb : Nat) (ws : List Wd.Word) (p : Nat)  (w : World) (h : Rd w rb ws p) (e33 : Ps.isMark ws p 33 = false) (e40 : Ps.isMark ws p 40 = false) (e42 : Ps.isMark ws p 42 = true) :
    Calls Try.prog 57 #[.pointer (some ⟨rb, 0, none⟩)] w (FR rb ws (.leaf 1 0 0 0 ⟨#[]⟩) (p + 1) w) := by
  have hlt := h.lt
  have c33 := fun w (h : Rd w rb ws p) => mark31 rb ws p 33 ⟨#[33]⟩ rfl w h
  rw [e33] at c33
  simp only [Bool.false_eq_true, if_false] at c33
  clear e33
  have c40 := fun w (h : Rd w rb ws p) => mark31 rb ws p 40 ⟨#[40]⟩ rfl w h
  rw [e40] at c40
  simp only [Bool.false_eq_true, if_false] at c40
  clear e40
  have c42 := fun w (h : Rd w rb ws p) => mark31 rb ws p 42 ⟨#[42]⟩ rfl w h
  rw [e42] at c42
  simp only [if_true] at c42
  clear e42
  unfold FR
  go_enter Try.func57, Try.ntmps57
  go_wp2_with fail
  have hWw0 : WentR rb ws p w (w.alloc (.cells #[.int .i64 0, .int .i64 0, .int .i64 0, .int .i64 0, .string ⟨#[]⟩, .slice none 0 0] 26)) := (WentR.refl h).alloc _
  have zw0 : ∀ o, (w.alloc (.cells #[.int .i64 0, .int .i64 0, .int .i64 0, .int .i64 0, .string ⟨#[]⟩, .slice none 0 0] 26)).cell? ⟨w.heap.size, o, none⟩ = (w.alloc (.cells #[.int .i64 0, .int .i64 0, .int .i64 0, .int .i64 0, .string ⟨#[]⟩, .slice none 0 0] 26)).cell? ⟨w.heap.size, o, none⟩ := fun _ => rfl
  have zfw0 : ∀ o, (w.alloc (.cells #[.int .i64 0, .int .i64 0, .int .i64 0, .int .i64 0, .string ⟨#[]⟩, .slice none 0 0] 26)).frozen? ⟨w.heap.size, o, none⟩ = false := fun o => by simp
  have sw0 : w.heap.size < (w.alloc (.cells #[.int .i64 0, .int .i64 0, .int .i64 0, .int .i64 0, .string ⟨#[]⟩, .slice none 0 0] 26)).heap.size := by simp
  refine (c33 _ hWw0.1).mono ?_
  rintro e w1 ⟨rfl, hw1⟩
  have zw1 : ∀ o, w1.cell? ⟨w.heap.size, o, none⟩ = (w.alloc (.cells #[.int .i64 0, .int .i64 0, .int .i64 0, .int .i64 0, .string ⟨#[]⟩, .slice none 0 0] 26)).cell? ⟨w.heap.size, o, none⟩ := fun o => (hw1.cell sw0 hlt).trans (zw0 o)
  have zfw1 : ∀ o, w1.frozen? ⟨w.heap.size, o, none⟩ = false := fun o => (hw1.frozen sw0 hlt).trans (zfw0 o)
  have sw1 : w.heap.size < w1.heap.size := Nat.lt_of_lt_of_le sw0 hw1.2.size
  have hWw1 := hWw0.trans hw1
  clear hw1 zw0 zfw0 hWw0 c33
  go_wp2_with fail
  refine (c40 _ hWw1.1).mono ?_
  rintro e w2 ⟨rfl, hw2⟩
  have zw2 : ∀ o, w2.cell? ⟨w.heap.size, o, none⟩ = (w.alloc (.cells #[.int .i64 0, .int .i64 0, .int .i64 0, .int .i64 0, .string ⟨#[]⟩, .slice none 0 0] 26)).cell? ⟨w.heap.size, o, none⟩ := fun o => (hw2.cell sw1 hlt).trans (zw1 o)
  have zfw2 : ∀ o, w2.frozen? ⟨w.heap.size, o, none⟩ = false := fun o => (hw2.frozen sw1 hlt).trans (zfw1 o)
  have sw2 : w.heap.size < w2.heap.size := Nat.lt_of_lt_of_le sw1 hw2.2.size
  have hWw2 := hWw1.trans hw2
  clear hw2 zw1 zfw1 hWw1 c40
  go_wp2_with fail
  refine (c42 _ hWw2.1).mono ?_
  rintro e w3 ⟨rfl, hw3⟩
  have zw3 : ∀ o, w3.cell? ⟨w.heap.size, o, none⟩ = (w.alloc (.cells #[.int .i64 0, .int .i64 0, .int .i64 0, .int .i64 0, .string ⟨#[]⟩, .slice none 0 0] 26)).cell? ⟨w.heap.size, o, none⟩ := fun o => (hw3.cell sw2 hlt).trans (zw2 o)
  have zfw3 : ∀ o, w3.frozen? ⟨w.heap.size, o, none⟩ = false := fun o => (hw3.frozen sw2 hlt).trans (zfw2 o)
  have sw3 : w.heap.size < w3.heap.size := Nat.lt_of_lt_of_le sw2 hw3.2.size
  have hWw3 := hWw2.trans hw3
  clear hw3 zw2 zfw2 hWw2 c42
  go_wp2
  refine bodyPost_ret (v := .agg #[.int .i64 1, .int .i64 0, .int .i64 0, .int .i64 0, .string ⟨#[]⟩, .slice none 0 0]) (by simp [results, Try.results57, go_sem, *]) rfl ⟨1, 0, 0, 0, ⟨#[]⟩, none, 0, rfl, ⟨rfl, rfl, rfl, rfl, rfl, rfl, rfl⟩, ?_⟩
  repeat (refine WentR.setCell ?_ (by simp <;> omega) hlt _)
  exact hWw3

set_option maxRecDepth 100000 in
set_option maxHeartbeats 4000000 in
theorem not_name (rb : Nat) (ws : List Wd.Word) (p : Nat) (m : Nat) (hm : m = p + 1) (tx : List UInt8) (w : World) (h : Rd w rb ws p) (e33 : Ps.isMark ws p 33 = false) (e40 : Ps.isMark ws p 40 = false) (e42 : Ps.isMark ws p 42 = false) (e94 : Ps.isMark ws p 94 = true) (hn : Ps.name ws m = some tx) :
    Calls Try.prog 57 #[.pointer (some ⟨rb, 0, none⟩)] w (FR rb ws (.leaf 4 0 0 0 ⟨tx.toArray⟩) (m + 1) w) := by
  have hlt := h.lt
  have c33 := fun w (h : Rd w rb ws p) => mark31 rb ws p 33 ⟨#[33]⟩ rfl w h
  rw [e33] at c33
  simp only [Bool.false_eq_true, if_false] at c33
  clear e33
  have c40 := fun w (h : Rd w rb ws p) => mark31 rb ws p 40 ⟨#[40]⟩ rfl w h
  rw [e40] at c40
  simp only [Bool.false_eq_true, if_false] at c40
  clear e40
  have c42 := fun w (h : Rd w rb ws p) => mark31 rb ws p 42 ⟨#[42]⟩ rfl w h
  rw [e42] at c42
  simp only [Bool.false_eq_true, if_false] at c42
  clear e42
  have c94 := fun w (h : Rd w rb ws p) => mark31 rb ws p 94 ⟨#[94]⟩ rfl w h
  rw [e94] at c94
  simp only [if_true] at c94
  clear e94
  rw [← hm] at c94
  clear hm
  unfold FR
  go_enter Try.func57, Try.ntmps57
  go_wp2_with fail
  have hWw0 : WentR rb ws p w (w.alloc (.cells #[.int .i64 0, .int .i64 0, .int .i64 0, .int .i64 0, .string ⟨#[]⟩, .slice none 0 0] 26)) := (WentR.refl h).alloc _
  have zw0 : ∀ o, (w.alloc (.cells #[.int .i64 0, .int .i64 0, .int .i64 0, .int .i64 0, .string ⟨#[]⟩, .slice none 0 0] 26)).cell? ⟨w.heap.size, o, none⟩ = (w.alloc (.cells #[.int .i64 0, .int .i64 0, .int .i64 0, .int .i64 0, .string ⟨#[]⟩, .slice none 0 0] 26)).cell? ⟨w.heap.size, o, none⟩ := fun _ => rfl
  have zfw0 : ∀ o, (w.alloc (.cells #[.int .i64 0, .int .i64 0, .int .i64 0, .int .i64 0, .string ⟨#[]⟩, .slice none 0 0] 26)).frozen? ⟨w.heap.size, o, none⟩ = false := fun o => by simp
  have sw0 : w.heap.size < (w.alloc (.cells #[.int .i64 0, .int .i64 0, .int .i64 0, .int .i64 0, .string ⟨#[]⟩, .slice none 0 0] 26)).heap.size := by simp
  refine (c33 _ hWw0.1).mono ?_
  rintro e w1 ⟨rfl, hw1⟩
  have zw1 : ∀ o, w1.cell? ⟨w.heap.size, o, none⟩ = (w.alloc (.cells #[.int .i64 0, .int .i64 0, .int .i64 0, .int .i64 0, .string ⟨#[]⟩, .slice none 0 0] 26)).cell? ⟨w.heap.size, o, none⟩ := fun o => (hw1.cell sw0 hlt).trans (zw0 o)
  have zfw1 : ∀ o, w1.frozen? ⟨w.heap.size, o, none⟩ = false := fun o => (hw1.frozen sw0 hlt).trans (zfw0 o)
  have sw1 : w.heap.size < w1.heap.size := Nat.lt_of_lt_of_le sw0 hw1.2.size
  have hWw1 := hWw0.trans hw1
  clear hw1 zw0 zfw0 hWw0 c33
  go_wp2_with fail
  refine (c40 _ hWw1.1).mono ?_
  rintro e w2 ⟨rfl, hw2⟩
  have zw2 : ∀ o, w2.cell? ⟨w.heap.size, o, none⟩ = (w.alloc (.cells #[.int .i64 0, .int .i64 0, .int .i64 0, .int .i64 0, .string ⟨#[]⟩, .slice none 0 0] 26)).cell? ⟨w.heap.size, o, none⟩ := fun o => (hw2.cell sw1 hlt).trans (zw1 o)
  have zfw2 : ∀ o, w2.frozen? ⟨w.heap.size, o, none⟩ = false := fun o => (hw2.frozen sw1 hlt).trans (zfw1 o)
  have sw2 : w.heap.size < w2.heap.size := Nat.lt_of_lt_of_le sw1 hw2.2.size
  have hWw2 := hWw1.trans hw2
  clear hw2 zw1 zfw1 hWw1 c40
  go_wp2_with fail
  refine (c42 _ hWw2.1).mono ?_
  rintro e w3 ⟨rfl, hw3⟩
  have zw3 : ∀ o, w3.cell? ⟨w.heap.size, o, none⟩ = (w.alloc (.cells #[.int .i64 0, .int .i64 0, .int .i64 0, .int .i64 0, .string ⟨#[]⟩, .slice none 0 0] 26)).cell? ⟨w.heap.size, o, none⟩ := fun o => (hw3.cell sw2 hlt).trans (zw2 o)
  have zfw3 : ∀ o, w3.frozen? ⟨w.heap.size, o, none⟩ = false := fun o => (hw3.frozen sw2 hlt).trans (zfw2 o)
  have sw3 : w.heap.size < w3.heap.size := Nat.lt_of_lt_of_le sw2 hw3.2.size
  have hWw3 := hWw2.trans hw3
  clear hw3 zw2 zfw2 hWw2 c42
  go_wp2_with fail
  refine (c94 _ hWw3.1).mono ?_
  rintro e w4 ⟨rfl, hw4⟩
  have zw4 : ∀ o, w4.cell? ⟨w.heap.size, o, none⟩ = (w.alloc (.cells #[.int .i64 0, .int .i64 0, .int .i64 0, .int .i64 0, .string ⟨#[]⟩, .slice none 0 0] 26)).cell? ⟨w.heap.size, o, none⟩ := fun o => (hw4.cell sw3 hlt).trans (zw3 o)
  have zfw4 : ∀ o, w4.frozen? ⟨w.heap.size, o, none⟩ = false := fun o => (hw4.frozen sw3 hlt).trans (zfw3 o)
  have sw4 : w.heap.size < w4.heap.size := Nat.lt_of_lt_of_le sw3 hw4.2.size
  have hWw4 := hWw3.trans hw4
  clear hw4 zw3 zfw3 hWw3 c94
  have hrd := hWw4.1
  obtain ⟨g1, g2, gf, ao, cap, en, po, b, q0, q1, q2, q3, q4, g3, g4⟩ := hrd
  unfold Ps.name at hn
  cases hx : ws[m]? with
  | none => rw [hx] at hn; cases hn
  | some x =>
    rw [hx] at hn
    by_cases hk1 : x.kind = 1
    · simp only [if_pos hk1] at hn
      cases hn
      have hpm : m < ws.length := (List.getElem?_eq_some_iff.1 hx).1
      obtain ⟨rfl, hb⟩ := g3 (by omega)
      obtain ⟨r0, r1, r2, r3⟩ := g4 m _ hx
      rw [hk1] at r0
      have hgN : decide (ws.length ≤ m) = false := decide_eq_false (by omega)
      have hgI : decide ((ws.length : Int) ≤ (m : Int)) = false := decide_eq_false (by omega)
      have hp0 : (0 : Int) ≤ (m : Int) := by omega
      have hp1 : (m : Int) < (ws.length : Int) := by omega
      have hRd := hWw4
      clear g4 g3 r2 r3 hx hk1 hWw4
      go_wp2_with fail
      go_quiet (fail)
      go_wp2_with fail
      obtain ⟨V, hV⟩ : ∃ V, V = (w4.drewN nq).setCell ⟨rb, 1, none⟩ (.int .i64 ((m : Int) + 1)) := ⟨_, rfl⟩
      rw [← hV]
      have s0 : V.cell? ⟨rb, 0, none⟩ = some (.slice (some ⟨b, 0, none⟩) ws.length cap) := by rw [hV, World.cell?_setCell_other _ _ _ _ (by simp)]; exact q0
      have s1 : V.cell? ⟨rb, 1, none⟩ = some (.int .i64 ((m : Int) + 1)) := by rw [hV]; exact World.cell?_setCell_same _ _ _ (u := .int .i64 m) q1
      have s2 : V.cell? ⟨b, m * 4 + 1, none⟩ = some (.string ⟨x.text.toArray⟩) := by rw [hV, World.cell?_setCell_other _ _ _ _ (fun e => by have := congrArg Addr.block e; simp at this; omega)]; exact r1
      have zV : ∀ o, V.cell? ⟨w.heap.size, o, none⟩ = (w.alloc (.cells #[.int .i64 0, .int .i64 0, .int .i64 0, .int .i64 0, .string ⟨#[]⟩, .slice none 0 0] 26)).cell? ⟨w.heap.size, o, none⟩ := fun o => by rw [hV, World.cell?_setCell_other _ _ _ _ (fun e => by have := congrArg Addr.block e; simp at this; omega)]; exact zw4 o
      have zVf : ∀ o, V.frozen? ⟨w.heap.size, o, none⟩ = false := fun o => by rw [hV]; simpa using zfw4 o
      have hWV : WentR rb ws (m + 1) w V := ⟨hRd.1.step (q := m + 1) (by omega) nq 0 hV, by rw [hV]; exact hRd.2.trans (Kept.setCell (P := Save rb) (p := ⟨rb, 1, none⟩) (⟨rfl, rfl, rfl, Nat.le_refl _, fun _ _ _ => rfl⟩ : Kept (Save rb) w4 (w4.drewN nq)) (fun k _ hk => hk) _)⟩
      have hwr : IntKind.i64.wrap ((m : Int) + 1 - 1) = (m : Int) := by simp only [IntKind.wrap, IntKind.signed, IntKind.bits]; simp; omega
      have hrne : rb ≠ w.heap.size := by omega
      have hbne : b ≠ w.heap.size := by omega
      clear hV q0 q1 q2 q3 q4 r0 r1 zw4 zfw4 hRd gf
      go_region
      go_wp2
      refine bodyPost_ret (v := .agg #[.int .i64 4, .int .i64 0, .int .i64 0, .int .i64 0, .string ⟨x.text.toArray⟩, .slice none 0 0]) (by simp [results, Try.results57, go_sem, *]) rfl ⟨4, 0, 0, 0, ⟨x.text.toArray⟩, none, 0, rfl, ⟨rfl, rfl, rfl, rfl, rfl, rfl, rfl⟩, ?_⟩
      refine WentR.drew ?_
      repeat (refine WentR.setCell ?_ (by simp <;> omega) hlt _)
      exact hWV
    · simp only [if_neg hk1] at hn
      cases hn

set_option maxRecDepth 100000 in
set_option maxHeartbeats 4000000 in
theorem not_at (rb : Nat) (ws : List Wd.Word) (p : Nat) (q : Nat) (f : Ev.Ft) (w : World) (h : Rd w rb ws p) (e33 : Ps.isMark ws p 33 = false) (e40 : Ps.isMark ws p 40 = false) (e42 : Ps.isMark ws p 42 = false) (e94 : Ps.isMark ws p 94 = false) (e64 : Ps.isMark ws p 64 = true) (hk : Ps.key ws (p + 1) = some (f, q)) :
    Calls Try.prog 57 #[.pointer (some ⟨rb, 0, none⟩)] w (FR rb ws (f) (q) w) := by
  have hlt := h.lt
  have c33 := fun w (h : Rd w rb ws p) => mark31 rb ws p 33 ⟨#[33]⟩ rfl w h
  rw [e33] at c33
  simp only [Bool.false_eq_true, if_false] at c33
  clear e33
  have c40 := fun w (h : Rd w rb ws p) => mark31 rb ws p 40 ⟨#[40]⟩ rfl w h
  rw [e40] at c40
  simp only [Bool.false_eq_true, if_false] at c40
  clear e40
  have c42 := fun w (h : Rd w rb ws p) => mark31 rb ws p 42 ⟨#[42]⟩ rfl w h
  rw [e42] at c42
  simp only [Bool.false_eq_true, if_false] at c42
  clear e42
  have c94 := fun w (h : Rd w rb ws p) => mark31 rb ws p 94 ⟨#[94]⟩ rfl w h
  rw [e94] at c94
  simp only [Bool.false_eq_true, if_false] at c94
  clear e94
  have c64 := fun w (h : Rd w rb ws p) => mark31 rb ws p 64 ⟨#[64]⟩ rfl w h
  rw [e64] at c64
  simp only [if_true] at c64
  clear e64
  have c := fun w (h : Rd w rb ws (p + 1)) => key37 rb ws (p + 1) q f w h hk
  unfold FR at c
  unfold FR
  go_enter Try.func57, Try.ntmps57
  go_wp2_with fail
  have hWw0 : WentR rb ws p w (w.alloc (.cells #[.int .i64 0, .int .i64 0, .int .i64 0, .int .i64 0, .string ⟨#[]⟩, .slice none 0 0] 26)) := (WentR.refl h).alloc _
  have zw0 : ∀ o, (w.alloc (.cells #[.int .i64 0, .int .i64 0, .int .i64 0, .int .i64 0, .string ⟨#[]⟩, .slice none 0 0] 26)).cell? ⟨w.heap.size, o, none⟩ = (w.alloc (.cells #[.int .i64 0, .int .i64 0, .int .i64 0, .int .i64 0, .string ⟨#[]⟩, .slice none 0 0] 26)).cell? ⟨w.heap.size, o, none⟩ := fun _ => rfl
  have zfw0 : ∀ o, (w.alloc (.cells #[.int .i64 0, .int .i64 0, .int .i64 0, .int .i64 0, .string ⟨#[]⟩, .slice none 0 0] 26)).frozen? ⟨w.heap.size, o, none⟩ = false := fun o => by simp
  have sw0 : w.heap.size < (w.alloc (.cells #[.int .i64 0, .int .i64 0, .int .i64 0, .int .i64 0, .string ⟨#[]⟩, .slice none 0 0] 26)).heap.size := by simp
  refine (c33 _ hWw0.1).mono ?_
  rintro e w1 ⟨rfl, hw1⟩
  have zw1 : ∀ o, w1.cell? ⟨w.heap.size, o, none⟩ = (w.alloc (.cells #[.int .i64 0, .int .i64 0, .int .i64 0, .int .i64 0, .string ⟨#[]⟩, .slice none 0 0] 26)).cell? ⟨w.heap.size, o, none⟩ := fun o => (hw1.cell sw0 hlt).trans (zw0 o)
  have zfw1 : ∀ o, w1.frozen? ⟨w.heap.size, o, none⟩ = false := fun o => (hw1.frozen sw0 hlt).trans (zfw0 o)
  have sw1 : w.heap.size < w1.heap.size := Nat.lt_of_lt_of_le sw0 hw1.2.size
  have hWw1 := hWw0.trans hw1
  clear hw1 zw0 zfw0 hWw0 c33
  go_wp2_with fail
  refine (c40 _ hWw1.1).mono ?_
  rintro e w2 ⟨rfl, hw2⟩
  have zw2 : ∀ o, w2.cell? ⟨w.heap.size, o, none⟩ = (w.alloc (.cells #[.int .i64 0, .int .i64 0, .int .i64 0, .int .i64 0, .string ⟨#[]⟩, .slice none 0 0] 26)).cell? ⟨w.heap.size, o, none⟩ := fun o => (hw2.cell sw1 hlt).trans (zw1 o)
  have zfw2 : ∀ o, w2.frozen? ⟨w.heap.size, o, none⟩ = false := fun o => (hw2.frozen sw1 hlt).trans (zfw1 o)
  have sw2 : w.heap.size < w2.heap.size := Nat.lt_of_lt_of_le sw1 hw2.2.size
  have hWw2 := hWw1.trans hw2
  clear hw2 zw1 zfw1 hWw1 c40
  go_wp2_with fail
  refine (c42 _ hWw2.1).mono ?_
  rintro e w3 ⟨rfl, hw3⟩
  have zw3 : ∀ o, w3.cell? ⟨w.heap.size, o, none⟩ = (w.alloc (.cells #[.int .i64 0, .int .i64 0, .int .i64 0, .int .i64 0, .string ⟨#[]⟩, .slice none 0 0] 26)).cell? ⟨w.heap.size, o, none⟩ := fun o => (hw3.cell sw2 hlt).trans (zw2 o)
  have zfw3 : ∀ o, w3.frozen? ⟨w.heap.size, o, none⟩ = false := fun o => (hw3.frozen sw2 hlt).trans (zfw2 o)
  have sw3 : w.heap.size < w3.heap.size := Nat.lt_of_lt_of_le sw2 hw3.2.size
  have hWw3 := hWw2.trans hw3
  clear hw3 zw2 zfw2 hWw2 c42
  go_wp2_with fail
  refine (c94 _ hWw3.1).mono ?_
  rintro e w4 ⟨rfl, hw4⟩
  have zw4 : ∀ o, w4.cell? ⟨w.heap.size, o, none⟩ = (w.alloc (.cells #[.int .i64 0, .int .i64 0, .int .i64 0, .int .i64 0, .string ⟨#[]⟩, .slice none 0 0] 26)).cell? ⟨w.heap.size, o, none⟩ := fun o => (hw4.cell sw3 hlt).trans (zw3 o)
  have zfw4 : ∀ o, w4.frozen? ⟨w.heap.size, o, none⟩ = false := fun o => (hw4.frozen sw3 hlt).trans (zfw3 o)
  have sw4 : w.heap.size < w4.heap.size := Nat.lt_of_lt_of_le sw3 hw4.2.size
  have hWw4 := hWw3.trans hw4
  clear hw4 zw3 zfw3 hWw3 c94
  go_wp2_with fail
  refine (c64 _ hWw4.1).mono ?_
  rintro e w5 ⟨rfl, hw5⟩
  have zw5 : ∀ o, w5.cell? ⟨w.heap.size, o, none⟩ = (w.alloc (.cells #[.int .i64 0, .int .i64 0, .int .i64 0, .int .i64 0, .string ⟨#[]⟩, .slice none 0 0] 26)).cell? ⟨w.heap.size, o, none⟩ := fun o => (hw5.cell sw4 hlt).trans (zw4 o)
  have zfw5 : ∀ o, w5.frozen? ⟨w.heap.size, o, none⟩ = false := fun o => (hw5.frozen sw4 hlt).trans (zfw4 o)
  have sw5 : w.heap.size < w5.heap.size := Nat.lt_of_lt_of_le sw4 hw5.2.size
  have hWw5 := hWw4.trans hw5
  clear hw5 zw4 zfw4 hWw4 c64
  go_wp2_with fail
  refine (c _ hWw5.1).mono ?_
  rintro e w6 ⟨o1, k1, l1, h1, t1, x1, n1, rfl, ly1, hw6⟩
  have zw6 : ∀ o, w6.cell? ⟨w.heap.size, o, none⟩ = (w.alloc (.cells #[.int .i64 0, .int .i64 0, .int .i64 0, .int .i64 0, .string ⟨#[]⟩, .slice none 0 0] 26)).cell? ⟨w.heap.size, o, none⟩ := fun o => (hw6.cell sw5 hlt).trans (zw5 o)
  have zfw6 : ∀ o, w6.frozen? ⟨w.heap.size, o, none⟩ = false := fun o => (hw6.frozen sw5 hlt).trans (zfw5 o)
  have sw6 : w.heap.size < w6.heap.size := Nat.lt_of_lt_of_le sw5 hw6.2.size
  have hWw6 := hWw5.trans hw6
  have s56 : w5.heap.size ≤ w6.heap.size := hw6.2.size
  clear hw6 zw5 zfw5 hWw5 c
  go_wp2
  refine bodyPost_ret (v := .agg #[.int .i64 o1, .int .i64 k1, .int .i64 l1, .int .i64 h1, .string t1, .slice x1 n1 n1]) (by simp [results, Try.results57, go_sem, *]) rfl ⟨o1, k1, l1, h1, t1, x1, n1, rfl, Lies.mono (P := Past w5.heap.size) (fun b _ hb => by unfold Past at *; omega) f (Lies.kept ?_ f ly1), ?_⟩
  · repeat (refine Kept.setCell ?_ (fun k hk hq => by unfold Past at hq; simp; omega) _)
    exact Kept.refl _ _
  · repeat (refine WentR.setCell ?_ (by simp <;> omega) hlt _)
    exact hWw6

end Go.Proofs.Ytflpdekifkcfkab
