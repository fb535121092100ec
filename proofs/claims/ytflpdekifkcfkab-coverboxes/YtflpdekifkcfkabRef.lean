/- cardamomref4.Lets: the document's answer. -/
import Derived.Test.YtflpdekifkcfkabLets
import Derived.Deep.RegionWith
namespace Go.Proofs.Ytflpdekifkcfkab
open Go.RowKit
set_option linter.unusedVariables false

set_option maxHeartbeats 1000000 in
theorem ref_leaf1 (k l h : Int) (t : ByteArray) (v : Vs) (w : World) :
    Calls Try.prog 18 #[.agg #[.int .i64 1, .int .i64 k, .int .i64 l, .int .i64 h, .string t, .slice none 0 0], v.val] w fun e w' => e = .returned (.bool true) ∧ Below w.heap.size w w' := by
  unfold Vs.val
  go_enter Try.func18, Try.ntmps18
  go_wp2
  go_ret
  exact ⟨rfl, ((Below.refl _ _).alloc (Nat.le_refl _) _).alloc (by simp) _⟩

set_option maxHeartbeats 1000000 in
theorem ref_leaf4 (k l h : Int) (t : ByteArray) (v : Vs) (w : World) (hv : v.tag.size ≤ 1000) (ht : t.size ≤ 1000) :
    Calls Try.prog 18 #[.agg #[.int .i64 4, .int .i64 k, .int .i64 l, .int .i64 h, .string t, .slice none 0 0], v.val] w fun e w' => e = .returned (.bool (Ev.begins v.tag t)) ∧ Below w.heap.size w w' := by
  have c := fun w' => begins22 v.tag t w' hv ht
  unfold Vs.val
  go_enter Try.func18, Try.ntmps18
  go_wp2_with fail
  refine (c _).mono ?_
  rintro e w1 ⟨rfl, rfl⟩
  clear c
  go_wp2
  go_ret
  exact ⟨rfl, ((Below.refl _ _).alloc (Nat.le_refl _) _).alloc (by simp) _⟩

set_option maxHeartbeats 2000000 in
theorem ref_leaf2 (op k l h : Int) (hop : op = 2 ∨ op = 3) (t : ByteArray) (v : Vs) (al : List (Int × Int)) (w : World) (hv : Has Any w v al) :
    Calls Try.prog 18 #[.agg #[.int .i64 op, .int .i64 k, .int .i64 l, .int .i64 h, .string t, .slice none 0 0], v.val] w fun e w' => e = .returned (.bool (Ev.between al k l h)) ∧ Below w.heap.size w w' := by
  have c := fun w' (hb : Below w.heap.size w w') => attr21 v al k w' (hv.below hb)
  unfold attrV at c
  clear hv
  unfold Vs.val at c ⊢
  cases ha : Ev.attr al k with
  | none =>
    rw [between_none ha]
    rw [ha] at c
    clear ha
    rcases hop with rfl | rfl
    · go_enter Try.func18, Try.ntmps18
      go_wp2_with fail
      obtain ⟨W, hW⟩ : ∃ W, W = (w.alloc (.cells #[.int .i64 2, .int .i64 k, .int .i64 l, .int .i64 h, .string t, .slice none 0 0] 26)).alloc (.cells #[.int .i64 v.it, .int .i64 v.L, .int .i64 v.R, .int .i64 v.N, .bool v.dead, .slice v.ao v.len v.cap, .string v.tag, .string v.body] 48) := ⟨_, rfl⟩
      rw [← hW]
      have hbW : Below w.heap.size w W := by rw [hW]; exact ((Below.refl _ _).alloc (Nat.le_refl _) _).alloc (by simp) _
      have f2 : W.cell? ⟨w.heap.size, 2, none⟩ = some (.int .i64 l) := by rw [hW]; simp
      have f3 : W.cell? ⟨w.heap.size, 3, none⟩ = some (.int .i64 h) := by rw [hW]; simp
      have m0 : w.heap.size < W.heap.size := by rw [hW]; simp; omega
      clear hW
      refine (c _ hbW).mono ?_
      rintro e w1 ⟨rfl, hb⟩
      have d2 := (hb.cell (p := ⟨w.heap.size, 2, none⟩) m0).trans f2
      have d3 := (hb.cell (p := ⟨w.heap.size, 3, none⟩) m0).trans f3
      clear c f2 f3
      go_wp2
      go_ret
      exact ⟨rfl, hbW.trans (hb.mono (Nat.le_of_lt m0))⟩
    · go_enter Try.func18, Try.ntmps18
      go_wp2_with fail
      obtain ⟨W, hW⟩ : ∃ W, W = (w.alloc (.cells #[.int .i64 3, .int .i64 k, .int .i64 l, .int .i64 h, .string t, .slice none 0 0] 26)).alloc (.cells #[.int .i64 v.it, .int .i64 v.L, .int .i64 v.R, .int .i64 v.N, .bool v.dead, .slice v.ao v.len v.cap, .string v.tag, .string v.body] 48) := ⟨_, rfl⟩
      rw [← hW]
      have hbW : Below w.heap.size w W := by rw [hW]; exact ((Below.refl _ _).alloc (Nat.le_refl _) _).alloc (by simp) _
      have f2 : W.cell? ⟨w.heap.size, 2, none⟩ = some (.int .i64 l) := by rw [hW]; simp
      have f3 : W.cell? ⟨w.heap.size, 3, none⟩ = some (.int .i64 h) := by rw [hW]; simp
      have m0 : w.heap.size < W.heap.size := by rw [hW]; simp; omega
      clear hW
      refine (c _ hbW).mono ?_
      rintro e w1 ⟨rfl, hb⟩
      have d2 := (hb.cell (p := ⟨w.heap.size, 2, none⟩) m0).trans f2
      have d3 := (hb.cell (p := ⟨w.heap.size, 3, none⟩) m0).trans f3
      clear c f2 f3
      go_wp2
      go_ret
      exact ⟨rfl, hbW.trans (hb.mono (Nat.le_of_lt m0))⟩
  | some m =>
    rw [between_some ha]
    rw [ha] at c
    clear ha
    by_cases h1 : l ≤ m
    · have h1' : decide (l ≤ m) = true := decide_eq_true h1
      rw [h1', Bool.true_and]
      rcases hop with rfl | rfl
      · go_enter Try.func18, Try.ntmps18
        go_wp2_with fail
        obtain ⟨W, hW⟩ : ∃ W, W = (w.alloc (.cells #[.int .i64 2, .int .i64 k, .int .i64 l, .int .i64 h, .string t, .slice none 0 0] 26)).alloc (.cells #[.int .i64 v.it, .int .i64 v.L, .int .i64 v.R, .int .i64 v.N, .bool v.dead, .slice v.ao v.len v.cap, .string v.tag, .string v.body] 48) := ⟨_, rfl⟩
        rw [← hW]
        have hbW : Below w.heap.size w W := by rw [hW]; exact ((Below.refl _ _).alloc (Nat.le_refl _) _).alloc (by simp) _
        have f2 : W.cell? ⟨w.heap.size, 2, none⟩ = some (.int .i64 l) := by rw [hW]; simp
        have f3 : W.cell? ⟨w.heap.size, 3, none⟩ = some (.int .i64 h) := by rw [hW]; simp
        have m0 : w.heap.size < W.heap.size := by rw [hW]; simp; omega
        clear hW
        refine (c _ hbW).mono ?_
        rintro e w1 ⟨rfl, hb⟩
        have d2 := (hb.cell (p := ⟨w.heap.size, 2, none⟩) m0).trans f2
        have d3 := (hb.cell (p := ⟨w.heap.size, 3, none⟩) m0).trans f3
        clear c f2 f3
        go_wp2
        go_ret
        exact ⟨rfl, hbW.trans (hb.mono (Nat.le_of_lt m0))⟩
      · go_enter Try.func18, Try.ntmps18
        go_wp2_with fail
        obtain ⟨W, hW⟩ : ∃ W, W = (w.alloc (.cells #[.int .i64 3, .int .i64 k, .int .i64 l, .int .i64 h, .string t, .slice none 0 0] 26)).alloc (.cells #[.int .i64 v.it, .int .i64 v.L, .int .i64 v.R, .int .i64 v.N, .bool v.dead, .slice v.ao v.len v.cap, .string v.tag, .string v.body] 48) := ⟨_, rfl⟩
        rw [← hW]
        have hbW : Below w.heap.size w W := by rw [hW]; exact ((Below.refl _ _).alloc (Nat.le_refl _) _).alloc (by simp) _
        have f2 : W.cell? ⟨w.heap.size, 2, none⟩ = some (.int .i64 l) := by rw [hW]; simp
        have f3 : W.cell? ⟨w.heap.size, 3, none⟩ = some (.int .i64 h) := by rw [hW]; simp
        have m0 : w.heap.size < W.heap.size := by rw [hW]; simp; omega
        clear hW
        refine (c _ hbW).mono ?_
        rintro e w1 ⟨rfl, hb⟩
        have d2 := (hb.cell (p := ⟨w.heap.size, 2, none⟩) m0).trans f2
        have d3 := (hb.cell (p := ⟨w.heap.size, 3, none⟩) m0).trans f3
        clear c f2 f3
        go_wp2
        go_ret
        exact ⟨rfl, hbW.trans (hb.mono (Nat.le_of_lt m0))⟩
    · have h1' : decide (l ≤ m) = false := decide_eq_false h1
      rw [h1', Bool.false_and]
      rcases hop with rfl | rfl
      · go_enter Try.func18, Try.ntmps18
        go_wp2_with fail
        obtain ⟨W, hW⟩ : ∃ W, W = (w.alloc (.cells #[.int .i64 2, .int .i64 k, .int .i64 l, .int .i64 h, .string t, .slice none 0 0] 26)).alloc (.cells #[.int .i64 v.it, .int .i64 v.L, .int .i64 v.R, .int .i64 v.N, .bool v.dead, .slice v.ao v.len v.cap, .string v.tag, .string v.body] 48) := ⟨_, rfl⟩
        rw [← hW]
        have hbW : Below w.heap.size w W := by rw [hW]; exact ((Below.refl _ _).alloc (Nat.le_refl _) _).alloc (by simp) _
        have f2 : W.cell? ⟨w.heap.size, 2, none⟩ = some (.int .i64 l) := by rw [hW]; simp
        have f3 : W.cell? ⟨w.heap.size, 3, none⟩ = some (.int .i64 h) := by rw [hW]; simp
        have m0 : w.heap.size < W.heap.size := by rw [hW]; simp; omega
        clear hW
        refine (c _ hbW).mono ?_
        rintro e w1 ⟨rfl, hb⟩
        have d2 := (hb.cell (p := ⟨w.heap.size, 2, none⟩) m0).trans f2
        have d3 := (hb.cell (p := ⟨w.heap.size, 3, none⟩) m0).trans f3
        clear c f2 f3
        go_wp2
        go_ret
        exact ⟨rfl, hbW.trans (hb.mono (Nat.le_of_lt m0))⟩
      · go_enter Try.func18, Try.ntmps18
        go_wp2_with fail
        obtain ⟨W, hW⟩ : ∃ W, W = (w.alloc (.cells #[.int .i64 3, .int .i64 k, .int .i64 l, .int .i64 h, .string t, .slice none 0 0] 26)).alloc (.cells #[.int .i64 v.it, .int .i64 v.L, .int .i64 v.R, .int .i64 v.N, .bool v.dead, .slice v.ao v.len v.cap, .string v.tag, .string v.body] 48) := ⟨_, rfl⟩
        rw [← hW]
        have hbW : Below w.heap.size w W := by rw [hW]; exact ((Below.refl _ _).alloc (Nat.le_refl _) _).alloc (by simp) _
        have f2 : W.cell? ⟨w.heap.size, 2, none⟩ = some (.int .i64 l) := by rw [hW]; simp
        have f3 : W.cell? ⟨w.heap.size, 3, none⟩ = some (.int .i64 h) := by rw [hW]; simp
        have m0 : w.heap.size < W.heap.size := by rw [hW]; simp; omega
        clear hW
        refine (c _ hbW).mono ?_
        rintro e w1 ⟨rfl, hb⟩
        have d2 := (hb.cell (p := ⟨w.heap.size, 2, none⟩) m0).trans f2
        have d3 := (hb.cell (p := ⟨w.heap.size, 3, none⟩) m0).trans f3
        clear c f2 f3
        go_wp2
        go_ret
        exact ⟨rfl, hbW.trans (hb.mono (Nat.le_of_lt m0))⟩

set_option maxHeartbeats 2000000 in
theorem ref_non (v : Vs) (w : World) (b : Nat) (o1 k1 l1 h1 : Int) (t1 : ByteArray) (x1 : Option Addr) (n1 : Nat) (s : Six w b 0 o1 k1 l1 h1 t1 x1 n1) (r : Bool)
    (c1 : ∀ w', Below w.heap.size w w' → Calls Try.prog 18 #[.agg #[.int .i64 o1, .int .i64 k1, .int .i64 l1, .int .i64 h1, .string t1, .slice x1 n1 n1], v.val] w' fun e w'' => e = .returned (.bool r) ∧ Below w'.heap.size w' w'') :
    Calls Try.prog 18 #[.agg #[.int .i64 7, .int .i64 0, .int .i64 0, .int .i64 0, .string ⟨#[]⟩, .slice (some ⟨b, 0, none⟩) 1 1], v.val] w fun e w' => e = .returned (.bool (!r)) ∧ Below w.heap.size w w' := by
  have hb0 := s.lt
  obtain ⟨q0, q1, q2, q3, q4, q5⟩ := s
  unfold Vs.val at c1 ⊢
  go_enter Try.func18, Try.ntmps18
  go_wp2_with fail
  obtain ⟨W, hW⟩ : ∃ W, W = (w.alloc (.cells #[.int .i64 7, .int .i64 0, .int .i64 0, .int .i64 0, .string ⟨#[]⟩, .slice (some ⟨b, 0, none⟩) 1 1] 26)).alloc (.cells #[.int .i64 v.it, .int .i64 v.L, .int .i64 v.R, .int .i64 v.N, .bool v.dead, .slice v.ao v.len v.cap, .string v.tag, .string v.body] 48) := ⟨_, rfl⟩
  rw [← hW]
  have hbW : Below w.heap.size w W := by rw [hW]; exact ((Below.refl _ _).alloc (Nat.le_refl _) _).alloc (by simp) _
  have f0 : W.cell? ⟨w.heap.size, 0, none⟩ = some (.int .i64 7) := by rw [hW]; simp
  have f5 : W.cell? ⟨w.heap.size, 5, none⟩ = some (.slice (some ⟨b, 0, none⟩) 1 1) := by rw [hW]; simp
  have g0 : W.cell? ⟨w.heap.size + 1, 0, none⟩ = some (.int .i64 v.it) := by rw [hW]; simp
  have g1 : W.cell? ⟨w.heap.size + 1, 1, none⟩ = some (.int .i64 v.L) := by rw [hW]; simp
  have g2 : W.cell? ⟨w.heap.size + 1, 2, none⟩ = some (.int .i64 v.R) := by rw [hW]; simp
  have g3 : W.cell? ⟨w.heap.size + 1, 3, none⟩ = some (.int .i64 v.N) := by rw [hW]; simp
  have g4 : W.cell? ⟨w.heap.size + 1, 4, none⟩ = some (.bool v.dead) := by rw [hW]; simp
  have g5 : W.cell? ⟨w.heap.size + 1, 5, none⟩ = some (.slice v.ao v.len v.cap) := by rw [hW]; simp
  have g6 : W.cell? ⟨w.heap.size + 1, 6, none⟩ = some (.string v.tag) := by rw [hW]; simp
  have g7 : W.cell? ⟨w.heap.size + 1, 7, none⟩ = some (.string v.body) := by rw [hW]; simp
  have p0 := (hbW.cell (p := ⟨b, 0, none⟩) hb0).trans q0
  have p1 := (hbW.cell (p := ⟨b, 0 + 1, none⟩) hb0).trans q1
  have p2 := (hbW.cell (p := ⟨b, 0 + 2, none⟩) hb0).trans q2
  have p3 := (hbW.cell (p := ⟨b, 0 + 3, none⟩) hb0).trans q3
  have p4 := (hbW.cell (p := ⟨b, 0 + 4, none⟩) hb0).trans q4
  have p5 := (hbW.cell (p := ⟨b, 0 + 5, none⟩) hb0).trans q5
  simp only [Nat.zero_add] at p0 p1 p2 p3 p4 p5
  have m1 : w.heap.size + 1 < W.heap.size := by rw [hW]; simp
  have m0 : w.heap.size < W.heap.size := by omega
  have mb : b < W.heap.size := by omega
  clear hW q0 q1 q2 q3 q4 q5
  go_wp2_with fail
  go_region_held3 (fun w' => w'.cell? ⟨w.heap.size, 5, none⟩ = some (.slice (some ⟨b, 0, none⟩) 1 1) ∧ (w'.cell? ⟨b, 0, none⟩ = some (.int .i64 o1) ∧ w'.cell? ⟨b, 1, none⟩ = some (.int .i64 k1) ∧ w'.cell? ⟨b, 2, none⟩ = some (.int .i64 l1) ∧ w'.cell? ⟨b, 3, none⟩ = some (.int .i64 h1) ∧ w'.cell? ⟨b, 4, none⟩ = some (.string t1) ∧ w'.cell? ⟨b, 5, none⟩ = some (.slice x1 n1 n1)) ∧ (w'.cell? ⟨w.heap.size + 1, 0, none⟩ = some (.int .i64 v.it) ∧ w'.cell? ⟨w.heap.size + 1, 1, none⟩ = some (.int .i64 v.L) ∧ w'.cell? ⟨w.heap.size + 1, 2, none⟩ = some (.int .i64 v.R) ∧ w'.cell? ⟨w.heap.size + 1, 3, none⟩ = some (.int .i64 v.N) ∧ w'.cell? ⟨w.heap.size + 1, 4, none⟩ = some (.bool v.dead) ∧ w'.cell? ⟨w.heap.size + 1, 5, none⟩ = some (.slice v.ao v.len v.cap) ∧ w'.cell? ⟨w.heap.size + 1, 6, none⟩ = some (.string v.tag) ∧ w'.cell? ⟨w.heap.size + 1, 7, none⟩ = some (.string v.body)))
    (go_keep)
    (first
      | (go_at_call 18; refine (c1 _ hbW.drew).mono ?_; rintro e w2 ⟨rfl, hb2⟩; have hcl := fun b o (h : b < W.heap.size) => hb2.cell (p := ⟨b, o, none⟩) h))
  go_wp2
  go_ret
  exact ⟨rfl, hbW.drew.trans (hb2.mono (Nat.le_of_lt m0))⟩

set_option maxHeartbeats 4000000 in
theorem ref_and_go (v : Vs) (w : World) (b : Nat) (o1 k1 l1 h1 : Int) (t1 : ByteArray) (x1 : Option Addr) (n1 : Nat) (s : Six w b 0 o1 k1 l1 h1 t1 x1 n1) (o2 k2 l2 h2 : Int) (t2 : ByteArray) (x2 : Option Addr) (n2 : Nat) (s' : Six w b 6 o2 k2 l2 h2 t2 x2 n2) (r2 : Bool)
    (c1 : ∀ w', Below w.heap.size w w' → Calls Try.prog 18 #[.agg #[.int .i64 o1, .int .i64 k1, .int .i64 l1, .int .i64 h1, .string t1, .slice x1 n1 n1], v.val] w' fun e w'' => e = .returned (.bool true) ∧ Below w'.heap.size w' w'')
    (c2 : ∀ w', Below w.heap.size w w' → Calls Try.prog 18 #[.agg #[.int .i64 o2, .int .i64 k2, .int .i64 l2, .int .i64 h2, .string t2, .slice x2 n2 n2], v.val] w' fun e w'' => e = .returned (.bool r2) ∧ Below w'.heap.size w' w'') :
    Calls Try.prog 18 #[.agg #[.int .i64 5, .int .i64 0, .int .i64 0, .int .i64 0, .string ⟨#[]⟩, .slice (some ⟨b, 0, none⟩) 2 2], v.val] w fun e w' => e = .returned (.bool r2) ∧ Below w.heap.size w w' := by
  have hb0 := s.lt
  obtain ⟨q0, q1, q2, q3, q4, q5⟩ := s
  obtain ⟨u0, u1, u2, u3, u4, u5⟩ := s'
  unfold Vs.val at c1 c2 ⊢
  go_enter Try.func18, Try.ntmps18
  go_wp2_with fail
  obtain ⟨W, hW⟩ : ∃ W, W = (w.alloc (.cells #[.int .i64 5, .int .i64 0, .int .i64 0, .int .i64 0, .string ⟨#[]⟩, .slice (some ⟨b, 0, none⟩) 2 2] 26)).alloc (.cells #[.int .i64 v.it, .int .i64 v.L, .int .i64 v.R, .int .i64 v.N, .bool v.dead, .slice v.ao v.len v.cap, .string v.tag, .string v.body] 48) := ⟨_, rfl⟩
  rw [← hW]
  have hbW : Below w.heap.size w W := by rw [hW]; exact ((Below.refl _ _).alloc (Nat.le_refl _) _).alloc (by simp) _
  have f0 : W.cell? ⟨w.heap.size, 0, none⟩ = some (.int .i64 5) := by rw [hW]; simp
  have f5 : W.cell? ⟨w.heap.size, 5, none⟩ = some (.slice (some ⟨b, 0, none⟩) 2 2) := by rw [hW]; simp
  have g0 : W.cell? ⟨w.heap.size + 1, 0, none⟩ = some (.int .i64 v.it) := by rw [hW]; simp
  have g1 : W.cell? ⟨w.heap.size + 1, 1, none⟩ = some (.int .i64 v.L) := by rw [hW]; simp
  have g2 : W.cell? ⟨w.heap.size + 1, 2, none⟩ = some (.int .i64 v.R) := by rw [hW]; simp
  have g3 : W.cell? ⟨w.heap.size + 1, 3, none⟩ = some (.int .i64 v.N) := by rw [hW]; simp
  have g4 : W.cell? ⟨w.heap.size + 1, 4, none⟩ = some (.bool v.dead) := by rw [hW]; simp
  have g5 : W.cell? ⟨w.heap.size + 1, 5, none⟩ = some (.slice v.ao v.len v.cap) := by rw [hW]; simp
  have g6 : W.cell? ⟨w.heap.size + 1, 6, none⟩ = some (.string v.tag) := by rw [hW]; simp
  have g7 : W.cell? ⟨w.heap.size + 1, 7, none⟩ = some (.string v.body) := by rw [hW]; simp
  have p0 := (hbW.cell (p := ⟨b, 0, none⟩) hb0).trans q0
  have p1 := (hbW.cell (p := ⟨b, 0 + 1, none⟩) hb0).trans q1
  have p2 := (hbW.cell (p := ⟨b, 0 + 2, none⟩) hb0).trans q2
  have p3 := (hbW.cell (p := ⟨b, 0 + 3, none⟩) hb0).trans q3
  have p4 := (hbW.cell (p := ⟨b, 0 + 4, none⟩) hb0).trans q4
  have p5 := (hbW.cell (p := ⟨b, 0 + 5, none⟩) hb0).trans q5
  have e0 := (hbW.cell (p := ⟨b, 6, none⟩) hb0).trans u0
  have e1 := (hbW.cell (p := ⟨b, 6 + 1, none⟩) hb0).trans u1
  have e2 := (hbW.cell (p := ⟨b, 6 + 2, none⟩) hb0).trans u2
  have e3 := (hbW.cell (p := ⟨b, 6 + 3, none⟩) hb0).trans u3
  have e4 := (hbW.cell (p := ⟨b, 6 + 4, none⟩) hb0).trans u4
  have e5 := (hbW.cell (p := ⟨b, 6 + 5, none⟩) hb0).trans u5
  simp only [Nat.zero_add, Nat.reduceAdd] at p0 p1 p2 p3 p4 p5 e0 e1 e2 e3 e4 e5
  have m1 : w.heap.size + 1 < W.heap.size := by rw [hW]; simp
  have m0 : w.heap.size < W.heap.size := by omega
  have mb : b < W.heap.size := by omega
  clear hW q0 q1 q2 q3 q4 q5 u0 u1 u2 u3 u4 u5
  go_wp2_with fail
  go_region_held3 (fun w' => w'.cell? ⟨w.heap.size, 5, none⟩ = some (.slice (some ⟨b, 0, none⟩) 2 2) ∧ (w'.cell? ⟨b, 0, none⟩ = some (.int .i64 o1) ∧ w'.cell? ⟨b, 1, none⟩ = some (.int .i64 k1) ∧ w'.cell? ⟨b, 2, none⟩ = some (.int .i64 l1) ∧ w'.cell? ⟨b, 3, none⟩ = some (.int .i64 h1) ∧ w'.cell? ⟨b, 4, none⟩ = some (.string t1) ∧ w'.cell? ⟨b, 5, none⟩ = some (.slice x1 n1 n1)) ∧ (w'.cell? ⟨b, 6, none⟩ = some (.int .i64 o2) ∧ w'.cell? ⟨b, 7, none⟩ = some (.int .i64 k2) ∧ w'.cell? ⟨b, 8, none⟩ = some (.int .i64 l2) ∧ w'.cell? ⟨b, 9, none⟩ = some (.int .i64 h2) ∧ w'.cell? ⟨b, 10, none⟩ = some (.string t2) ∧ w'.cell? ⟨b, 11, none⟩ = some (.slice x2 n2 n2)) ∧ (w'.cell? ⟨w.heap.size + 1, 0, none⟩ = some (.int .i64 v.it) ∧ w'.cell? ⟨w.heap.size + 1, 1, none⟩ = some (.int .i64 v.L) ∧ w'.cell? ⟨w.heap.size + 1, 2, none⟩ = some (.int .i64 v.R) ∧ w'.cell? ⟨w.heap.size + 1, 3, none⟩ = some (.int .i64 v.N) ∧ w'.cell? ⟨w.heap.size + 1, 4, none⟩ = some (.bool v.dead) ∧ w'.cell? ⟨w.heap.size + 1, 5, none⟩ = some (.slice v.ao v.len v.cap) ∧ w'.cell? ⟨w.heap.size + 1, 6, none⟩ = some (.string v.tag) ∧ w'.cell? ⟨w.heap.size + 1, 7, none⟩ = some (.string v.body)))
    (go_keep)
    (first
      | (go_at_call_of 18 (o1); refine (c1 _ hbW.drew).mono ?_; rintro e w2 ⟨rfl, hb2⟩; have hcl := fun b o (h : b < W.heap.size) => hb2.cell (p := ⟨b, o, none⟩) h)
      | (go_at_call_of 18 (o2); refine (c2 _ (hbW.drew.trans (hb2.mono (Nat.le_of_lt m0)))).mono ?_; rintro e w3 ⟨rfl, hb3⟩; have hcl3 := fun b o (h : b < w2.heap.size) => hb3.cell (p := ⟨b, o, none⟩) h; have m0' := Nat.lt_of_lt_of_le m0 hb2.size; have m1' := Nat.lt_of_lt_of_le m1 hb2.size; have mb' := Nat.lt_of_lt_of_le mb hb2.size))
  go_wp2
  go_ret
  exact ⟨rfl, (hbW.drew.trans (hb2.mono (Nat.le_of_lt m0))).trans (hb3.mono (Nat.le_of_lt m0'))⟩

set_option maxHeartbeats 4000000 in
theorem ref_and_stop (v : Vs) (w : World) (b : Nat) (o1 k1 l1 h1 : Int) (t1 : ByteArray) (x1 : Option Addr) (n1 : Nat) (s : Six w b 0 o1 k1 l1 h1 t1 x1 n1) (o2 k2 l2 h2 : Int) (t2 : ByteArray) (x2 : Option Addr) (n2 : Nat) (s' : Six w b 6 o2 k2 l2 h2 t2 x2 n2) (r2 : Bool)
    (c1 : ∀ w', Below w.heap.size w w' → Calls Try.prog 18 #[.agg #[.int .i64 o1, .int .i64 k1, .int .i64 l1, .int .i64 h1, .string t1, .slice x1 n1 n1], v.val] w' fun e w'' => e = .returned (.bool false) ∧ Below w'.heap.size w' w'')
    (c2 : ∀ w', Below w.heap.size w w' → Calls Try.prog 18 #[.agg #[.int .i64 o2, .int .i64 k2, .int .i64 l2, .int .i64 h2, .string t2, .slice x2 n2 n2], v.val] w' fun e w'' => e = .returned (.bool r2) ∧ Below w'.heap.size w' w'') :
    Calls Try.prog 18 #[.agg #[.int .i64 5, .int .i64 0, .int .i64 0, .int .i64 0, .string ⟨#[]⟩, .slice (some ⟨b, 0, none⟩) 2 2], v.val] w fun e w' => e = .returned (.bool false) ∧ Below w.heap.size w w' := by
  have hb0 := s.lt
  obtain ⟨q0, q1, q2, q3, q4, q5⟩ := s
  obtain ⟨u0, u1, u2, u3, u4, u5⟩ := s'
  unfold Vs.val at c1 c2 ⊢
  go_enter Try.func18, Try.ntmps18
  go_wp2_with fail
  obtain ⟨W, hW⟩ : ∃ W, W = (w.alloc (.cells #[.int .i64 5, .int .i64 0, .int .i64 0, .int .i64 0, .string ⟨#[]⟩, .slice (some ⟨b, 0, none⟩) 2 2] 26)).alloc (.cells #[.int .i64 v.it, .int .i64 v.L, .int .i64 v.R, .int .i64 v.N, .bool v.dead, .slice v.ao v.len v.cap, .string v.tag, .string v.body] 48) := ⟨_, rfl⟩
  rw [← hW]
  have hbW : Below w.heap.size w W := by rw [hW]; exact ((Below.refl _ _).alloc (Nat.le_refl _) _).alloc (by simp) _
  have f0 : W.cell? ⟨w.heap.size, 0, none⟩ = some (.int .i64 5) := by rw [hW]; simp
  have f5 : W.cell? ⟨w.heap.size, 5, none⟩ = some (.slice (some ⟨b, 0, none⟩) 2 2) := by rw [hW]; simp
  have g0 : W.cell? ⟨w.heap.size + 1, 0, none⟩ = some (.int .i64 v.it) := by rw [hW]; simp
  have g1 : W.cell? ⟨w.heap.size + 1, 1, none⟩ = some (.int .i64 v.L) := by rw [hW]; simp
  have g2 : W.cell? ⟨w.heap.size + 1, 2, none⟩ = some (.int .i64 v.R) := by rw [hW]; simp
  have g3 : W.cell? ⟨w.heap.size + 1, 3, none⟩ = some (.int .i64 v.N) := by rw [hW]; simp
  have g4 : W.cell? ⟨w.heap.size + 1, 4, none⟩ = some (.bool v.dead) := by rw [hW]; simp
  have g5 : W.cell? ⟨w.heap.size + 1, 5, none⟩ = some (.slice v.ao v.len v.cap) := by rw [hW]; simp
  have g6 : W.cell? ⟨w.heap.size + 1, 6, none⟩ = some (.string v.tag) := by rw [hW]; simp
  have g7 : W.cell? ⟨w.heap.size + 1, 7, none⟩ = some (.string v.body) := by rw [hW]; simp
  have p0 := (hbW.cell (p := ⟨b, 0, none⟩) hb0).trans q0
  have p1 := (hbW.cell (p := ⟨b, 0 + 1, none⟩) hb0).trans q1
  have p2 := (hbW.cell (p := ⟨b, 0 + 2, none⟩) hb0).trans q2
  have p3 := (hbW.cell (p := ⟨b, 0 + 3, none⟩) hb0).trans q3
  have p4 := (hbW.cell (p := ⟨b, 0 + 4, none⟩) hb0).trans q4
  have p5 := (hbW.cell (p := ⟨b, 0 + 5, none⟩) hb0).trans q5
  have e0 := (hbW.cell (p := ⟨b, 6, none⟩) hb0).trans u0
  have e1 := (hbW.cell (p := ⟨b, 6 + 1, none⟩) hb0).trans u1
  have e2 := (hbW.cell (p := ⟨b, 6 + 2, none⟩) hb0).trans u2
  have e3 := (hbW.cell (p := ⟨b, 6 + 3, none⟩) hb0).trans u3
  have e4 := (hbW.cell (p := ⟨b, 6 + 4, none⟩) hb0).trans u4
  have e5 := (hbW.cell (p := ⟨b, 6 + 5, none⟩) hb0).trans u5
  simp only [Nat.zero_add, Nat.reduceAdd] at p0 p1 p2 p3 p4 p5 e0 e1 e2 e3 e4 e5
  have m1 : w.heap.size + 1 < W.heap.size := by rw [hW]; simp
  have m0 : w.heap.size < W.heap.size := by omega
  have mb : b < W.heap.size := by omega
  clear hW q0 q1 q2 q3 q4 q5 u0 u1 u2 u3 u4 u5
  go_wp2_with fail
  clear c2
  first
    | (go_region_with (first
        | (go_at_call 18; refine (c1 _ hbW.drew).mono ?_; rintro e w2 ⟨rfl, hb2⟩; have hcl := fun b o (h : b < W.heap.size) => hb2.cell (p := ⟨b, o, none⟩) h)))
    | fail
  all_goals
    go_wp2
    go_ret
    exact ⟨rfl, hbW.drew.trans (hb2.mono (Nat.le_of_lt m0))⟩

set_option maxHeartbeats 4000000 in
theorem ref_or_go (v : Vs) (w : World) (b : Nat) (o1 k1 l1 h1 : Int) (t1 : ByteArray) (x1 : Option Addr) (n1 : Nat) (s : Six w b 0 o1 k1 l1 h1 t1 x1 n1) (o2 k2 l2 h2 : Int) (t2 : ByteArray) (x2 : Option Addr) (n2 : Nat) (s' : Six w b 6 o2 k2 l2 h2 t2 x2 n2) (r2 : Bool)
    (c1 : ∀ w', Below w.heap.size w w' → Calls Try.prog 18 #[.agg #[.int .i64 o1, .int .i64 k1, .int .i64 l1, .int .i64 h1, .string t1, .slice x1 n1 n1], v.val] w' fun e w'' => e = .returned (.bool false) ∧ Below w'.heap.size w' w'')
    (c2 : ∀ w', Below w.heap.size w w' → Calls Try.prog 18 #[.agg #[.int .i64 o2, .int .i64 k2, .int .i64 l2, .int .i64 h2, .string t2, .slice x2 n2 n2], v.val] w' fun e w'' => e = .returned (.bool r2) ∧ Below w'.heap.size w' w'') :
    Calls Try.prog 18 #[.agg #[.int .i64 6, .int .i64 0, .int .i64 0, .int .i64 0, .string ⟨#[]⟩, .slice (some ⟨b, 0, none⟩) 2 2], v.val] w fun e w' => e = .returned (.bool r2) ∧ Below w.heap.size w w' := by
  have hb0 := s.lt
  obtain ⟨q0, q1, q2, q3, q4, q5⟩ := s
  obtain ⟨u0, u1, u2, u3, u4, u5⟩ := s'
  unfold Vs.val at c1 c2 ⊢
  go_enter Try.func18, Try.ntmps18
  go_wp2_with fail
  obtain ⟨W, hW⟩ : ∃ W, W = (w.alloc (.cells #[.int .i64 6, .int .i64 0, .int .i64 0, .int .i64 0, .string ⟨#[]⟩, .slice (some ⟨b, 0, none⟩) 2 2] 26)).alloc (.cells #[.int .i64 v.it, .int .i64 v.L, .int .i64 v.R, .int .i64 v.N, .bool v.dead, .slice v.ao v.len v.cap, .string v.tag, .string v.body] 48) := ⟨_, rfl⟩
  rw [← hW]
  have hbW : Below w.heap.size w W := by rw [hW]; exact ((Below.refl _ _).alloc (Nat.le_refl _) _).alloc (by simp) _
  have f0 : W.cell? ⟨w.heap.size, 0, none⟩ = some (.int .i64 6) := by rw [hW]; simp
  have f5 : W.cell? ⟨w.heap.size, 5, none⟩ = some (.slice (some ⟨b, 0, none⟩) 2 2) := by rw [hW]; simp
  have g0 : W.cell? ⟨w.heap.size + 1, 0, none⟩ = some (.int .i64 v.it) := by rw [hW]; simp
  have g1 : W.cell? ⟨w.heap.size + 1, 1, none⟩ = some (.int .i64 v.L) := by rw [hW]; simp
  have g2 : W.cell? ⟨w.heap.size + 1, 2, none⟩ = some (.int .i64 v.R) := by rw [hW]; simp
  have g3 : W.cell? ⟨w.heap.size + 1, 3, none⟩ = some (.int .i64 v.N) := by rw [hW]; simp
  have g4 : W.cell? ⟨w.heap.size + 1, 4, none⟩ = some (.bool v.dead) := by rw [hW]; simp
  have g5 : W.cell? ⟨w.heap.size + 1, 5, none⟩ = some (.slice v.ao v.len v.cap) := by rw [hW]; simp
  have g6 : W.cell? ⟨w.heap.size + 1, 6, none⟩ = some (.string v.tag) := by rw [hW]; simp
  have g7 : W.cell? ⟨w.heap.size + 1, 7, none⟩ = some (.string v.body) := by rw [hW]; simp
  have p0 := (hbW.cell (p := ⟨b, 0, none⟩) hb0).trans q0
  have p1 := (hbW.cell (p := ⟨b, 0 + 1, none⟩) hb0).trans q1
  have p2 := (hbW.cell (p := ⟨b, 0 + 2, none⟩) hb0).trans q2
  have p3 := (hbW.cell (p := ⟨b, 0 + 3, none⟩) hb0).trans q3
  have p4 := (hbW.cell (p := ⟨b, 0 + 4, none⟩) hb0).trans q4
  have p5 := (hbW.cell (p := ⟨b, 0 + 5, none⟩) hb0).trans q5
  have e0 := (hbW.cell (p := ⟨b, 6, none⟩) hb0).trans u0
  have e1 := (hbW.cell (p := ⟨b, 6 + 1, none⟩) hb0).trans u1
  have e2 := (hbW.cell (p := ⟨b, 6 + 2, none⟩) hb0).trans u2
  have e3 := (hbW.cell (p := ⟨b, 6 + 3, none⟩) hb0).trans u3
  have e4 := (hbW.cell (p := ⟨b, 6 + 4, none⟩) hb0).trans u4
  have e5 := (hbW.cell (p := ⟨b, 6 + 5, none⟩) hb0).trans u5
  simp only [Nat.zero_add, Nat.reduceAdd] at p0 p1 p2 p3 p4 p5 e0 e1 e2 e3 e4 e5
  have m1 : w.heap.size + 1 < W.heap.size := by rw [hW]; simp
  have m0 : w.heap.size < W.heap.size := by omega
  have mb : b < W.heap.size := by omega
  clear hW q0 q1 q2 q3 q4 q5 u0 u1 u2 u3 u4 u5
  go_wp2_with fail
  go_region_held3 (fun w' => w'.cell? ⟨w.heap.size, 5, none⟩ = some (.slice (some ⟨b, 0, none⟩) 2 2) ∧ (w'.cell? ⟨b, 0, none⟩ = some (.int .i64 o1) ∧ w'.cell? ⟨b, 1, none⟩ = some (.int .i64 k1) ∧ w'.cell? ⟨b, 2, none⟩ = some (.int .i64 l1) ∧ w'.cell? ⟨b, 3, none⟩ = some (.int .i64 h1) ∧ w'.cell? ⟨b, 4, none⟩ = some (.string t1) ∧ w'.cell? ⟨b, 5, none⟩ = some (.slice x1 n1 n1)) ∧ (w'.cell? ⟨b, 6, none⟩ = some (.int .i64 o2) ∧ w'.cell? ⟨b, 7, none⟩ = some (.int .i64 k2) ∧ w'.cell? ⟨b, 8, none⟩ = some (.int .i64 l2) ∧ w'.cell? ⟨b, 9, none⟩ = some (.int .i64 h2) ∧ w'.cell? ⟨b, 10, none⟩ = some (.string t2) ∧ w'.cell? ⟨b, 11, none⟩ = some (.slice x2 n2 n2)) ∧ (w'.cell? ⟨w.heap.size + 1, 0, none⟩ = some (.int .i64 v.it) ∧ w'.cell? ⟨w.heap.size + 1, 1, none⟩ = some (.int .i64 v.L) ∧ w'.cell? ⟨w.heap.size + 1, 2, none⟩ = some (.int .i64 v.R) ∧ w'.cell? ⟨w.heap.size + 1, 3, none⟩ = some (.int .i64 v.N) ∧ w'.cell? ⟨w.heap.size + 1, 4, none⟩ = some (.bool v.dead) ∧ w'.cell? ⟨w.heap.size + 1, 5, none⟩ = some (.slice v.ao v.len v.cap) ∧ w'.cell? ⟨w.heap.size + 1, 6, none⟩ = some (.string v.tag) ∧ w'.cell? ⟨w.heap.size + 1, 7, none⟩ = some (.string v.body)))
    (go_keep)
    (first
      | (go_at_call_of 18 (o1); refine (c1 _ hbW.drew).mono ?_; rintro e w2 ⟨rfl, hb2⟩; have hcl := fun b o (h : b < W.heap.size) => hb2.cell (p := ⟨b, o, none⟩) h)
      | (go_at_call_of 18 (o2); refine (c2 _ (hbW.drew.trans (hb2.mono (Nat.le_of_lt m0)))).mono ?_; rintro e w3 ⟨rfl, hb3⟩; have hcl3 := fun b o (h : b < w2.heap.size) => hb3.cell (p := ⟨b, o, none⟩) h; have m0' := Nat.lt_of_lt_of_le m0 hb2.size; have m1' := Nat.lt_of_lt_of_le m1 hb2.size; have mb' := Nat.lt_of_lt_of_le mb hb2.size))
  go_wp2
  go_ret
  exact ⟨rfl, (hbW.drew.trans (hb2.mono (Nat.le_of_lt m0))).trans (hb3.mono (Nat.le_of_lt m0'))⟩

set_option maxHeartbeats 4000000 in
theorem ref_or_stop (v : Vs) (w : World) (b : Nat) (o1 k1 l1 h1 : Int) (t1 : ByteArray) (x1 : Option Addr) (n1 : Nat) (s : Six w b 0 o1 k1 l1 h1 t1 x1 n1) (o2 k2 l2 h2 : Int) (t2 : ByteArray) (x2 : Option Addr) (n2 : Nat) (s' : Six w b 6 o2 k2 l2 h2 t2 x2 n2) (r2 : Bool)
    (c1 : ∀ w', Below w.heap.size w w' → Calls Try.prog 18 #[.agg #[.int .i64 o1, .int .i64 k1, .int .i64 l1, .int .i64 h1, .string t1, .slice x1 n1 n1], v.val] w' fun e w'' => e = .returned (.bool true) ∧ Below w'.heap.size w' w'')
    (c2 : ∀ w', Below w.heap.size w w' → Calls Try.prog 18 #[.agg #[.int .i64 o2, .int .i64 k2, .int .i64 l2, .int .i64 h2, .string t2, .slice x2 n2 n2], v.val] w' fun e w'' => e = .returned (.bool r2) ∧ Below w'.heap.size w' w'') :
    Calls Try.prog 18 #[.agg #[.int .i64 6, .int .i64 0, .int .i64 0, .int .i64 0, .string ⟨#[]⟩, .slice (some ⟨b, 0, none⟩) 2 2], v.val] w fun e w' => e = .returned (.bool true) ∧ Below w.heap.size w w' := by
  have hb0 := s.lt
  obtain ⟨q0, q1, q2, q3, q4, q5⟩ := s
  obtain ⟨u0, u1, u2, u3, u4, u5⟩ := s'
  unfold Vs.val at c1 c2 ⊢
  go_enter Try.func18, Try.ntmps18
  go_wp2_with fail
  obtain ⟨W, hW⟩ : ∃ W, W = (w.alloc (.cells #[.int .i64 6, .int .i64 0, .int .i64 0, .int .i64 0, .string ⟨#[]⟩, .slice (some ⟨b, 0, none⟩) 2 2] 26)).alloc (.cells #[.int .i64 v.it, .int .i64 v.L, .int .i64 v.R, .int .i64 v.N, .bool v.dead, .slice v.ao v.len v.cap, .string v.tag, .string v.body] 48) := ⟨_, rfl⟩
  rw [← hW]
  have hbW : Below w.heap.size w W := by rw [hW]; exact ((Below.refl _ _).alloc (Nat.le_refl _) _).alloc (by simp) _
  have f0 : W.cell? ⟨w.heap.size, 0, none⟩ = some (.int .i64 6) := by rw [hW]; simp
  have f5 : W.cell? ⟨w.heap.size, 5, none⟩ = some (.slice (some ⟨b, 0, none⟩) 2 2) := by rw [hW]; simp
  have g0 : W.cell? ⟨w.heap.size + 1, 0, none⟩ = some (.int .i64 v.it) := by rw [hW]; simp
  have g1 : W.cell? ⟨w.heap.size + 1, 1, none⟩ = some (.int .i64 v.L) := by rw [hW]; simp
  have g2 : W.cell? ⟨w.heap.size + 1, 2, none⟩ = some (.int .i64 v.R) := by rw [hW]; simp
  have g3 : W.cell? ⟨w.heap.size + 1, 3, none⟩ = some (.int .i64 v.N) := by rw [hW]; simp
  have g4 : W.cell? ⟨w.heap.size + 1, 4, none⟩ = some (.bool v.dead) := by rw [hW]; simp
  have g5 : W.cell? ⟨w.heap.size + 1, 5, none⟩ = some (.slice v.ao v.len v.cap) := by rw [hW]; simp
  have g6 : W.cell? ⟨w.heap.size + 1, 6, none⟩ = some (.string v.tag) := by rw [hW]; simp
  have g7 : W.cell? ⟨w.heap.size + 1, 7, none⟩ = some (.string v.body) := by rw [hW]; simp
  have p0 := (hbW.cell (p := ⟨b, 0, none⟩) hb0).trans q0
  have p1 := (hbW.cell (p := ⟨b, 0 + 1, none⟩) hb0).trans q1
  have p2 := (hbW.cell (p := ⟨b, 0 + 2, none⟩) hb0).trans q2
  have p3 := (hbW.cell (p := ⟨b, 0 + 3, none⟩) hb0).trans q3
  have p4 := (hbW.cell (p := ⟨b, 0 + 4, none⟩) hb0).trans q4
  have p5 := (hbW.cell (p := ⟨b, 0 + 5, none⟩) hb0).trans q5
  have e0 := (hbW.cell (p := ⟨b, 6, none⟩) hb0).trans u0
  have e1 := (hbW.cell (p := ⟨b, 6 + 1, none⟩) hb0).trans u1
  have e2 := (hbW.cell (p := ⟨b, 6 + 2, none⟩) hb0).trans u2
  have e3 := (hbW.cell (p := ⟨b, 6 + 3, none⟩) hb0).trans u3
  have e4 := (hbW.cell (p := ⟨b, 6 + 4, none⟩) hb0).trans u4
  have e5 := (hbW.cell (p := ⟨b, 6 + 5, none⟩) hb0).trans u5
  simp only [Nat.zero_add, Nat.reduceAdd] at p0 p1 p2 p3 p4 p5 e0 e1 e2 e3 e4 e5
  have m1 : w.heap.size + 1 < W.heap.size := by rw [hW]; simp
  have m0 : w.heap.size < W.heap.size := by omega
  have mb : b < W.heap.size := by omega
  clear hW q0 q1 q2 q3 q4 q5 u0 u1 u2 u3 u4 u5
  go_wp2_with fail
  clear c2
  first
    | (go_region_with (first
        | (go_at_call 18; refine (c1 _ hbW.drew).mono ?_; rintro e w2 ⟨rfl, hb2⟩; have hcl := fun b o (h : b < W.heap.size) => hb2.cell (p := ⟨b, o, none⟩) h)))
    | fail
  all_goals
    go_wp2
    go_ret
    exact ⟨rfl, hbW.drew.trans (hb2.mono (Nat.le_of_lt m0))⟩

theorem lets14 (f : Ev.Ft) : ∀ (v : Vs) (al : List (Int × Int)) (w : World) (o k l h : Int) (t : ByteArray) (x : Option Addr) (n : Nat), f.ok → Lies Any w f o k l h t x n → Has Any w v al →
    Calls Try.prog 18 #[.agg #[.int .i64 o, .int .i64 k, .int .i64 l, .int .i64 h, .string t, .slice x n n], v.val] w fun e w' => e = .returned (.bool (f.lets al v.tag)) ∧ Below w.heap.size w w' := by
  induction f with
  | leaf op key lo hi tag =>
    rintro v al w o k l h t x n ⟨ok1, ok2, ok3⟩ ⟨rfl, rfl, rfl, rfl, rfl, rfl, rfl⟩ hv
    have hop : o = 1 ∨ (o = 2 ∨ o = 3) ∨ o = 4 := by omega
    rcases hop with rfl | hop | rfl
    · exact ref_leaf1 k l h t v w
    · have e : Ev.Ft.lets al v.tag (.leaf o k l h t) = Ev.between al k l h := by
        unfold Ev.Ft.lets
        rw [if_neg (by omega), if_pos hop]
      rw [e]
      exact ref_leaf2 o k l h hop t v al w hv
    · exact ref_leaf4 k l h t v w hv.2.2.1 ok3
  | non f ih =>
    rintro v al w o k l h t x n hok ⟨rfl, rfl, rfl, rfl, rfl, b, o1, k1, l1, h1, t1, x1, n1, rfl, rfl, _, s, y⟩ hv
    exact ref_non v w b o1 k1 l1 h1 t1 x1 n1 s _ (fun w' hb => ih v al w' o1 k1 l1 h1 t1 x1 n1 hok (y.below hb) (hv.below hb))
  | two op f g ihf ihg =>
    rintro v al w o k l h t x n ⟨hop, hok1, hok2⟩ ⟨rfl, rfl, rfl, rfl, rfl, b, o1, k1, l1, h1, t1, x1, n1, o2, k2, l2, h2, t2, x2, n2, rfl, rfl, _, s, y, s', z⟩ hv
    have c1 := fun w' hb => ihf v al w' o1 k1 l1 h1 t1 x1 n1 hok1 (y.below hb) (hv.below hb)
    have c2 := fun w' hb => ihg v al w' o2 k2 l2 h2 t2 x2 n2 hok2 (z.below hb) (hv.below hb)
    rcases hop with rfl | rfl
    · show Calls _ _ _ _ fun e w' => e = .returned (.bool (f.lets al v.tag && g.lets al v.tag)) ∧ _
      cases hr : f.lets al v.tag with
      | true => rw [hr] at c1; rw [Bool.true_and]; exact ref_and_go v w b o1 k1 l1 h1 t1 x1 n1 s o2 k2 l2 h2 t2 x2 n2 s' _ c1 c2
      | false => rw [hr] at c1; rw [Bool.false_and]; exact ref_and_stop v w b o1 k1 l1 h1 t1 x1 n1 s o2 k2 l2 h2 t2 x2 n2 s' _ c1 c2
    · show Calls _ _ _ _ fun e w' => e = .returned (.bool (f.lets al v.tag || g.lets al v.tag)) ∧ _
      cases hr : f.lets al v.tag with
      | true => rw [hr] at c1; rw [Bool.true_or]; exact ref_or_stop v w b o1 k1 l1 h1 t1 x1 n1 s o2 k2 l2 h2 t2 x2 n2 s' _ c1 c2
      | false => rw [hr] at c1; rw [Bool.false_or]; exact ref_or_go v w b o1 k1 l1 h1 t1 x1 n1 s o2 k2 l2 h2 t2 x2 n2 s' _ c1 c2

end Go.Proofs.Ytflpdekifkcfkab
