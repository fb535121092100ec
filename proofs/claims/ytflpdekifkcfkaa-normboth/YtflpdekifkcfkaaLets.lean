/- eval.Lets: what a filter lets through. -/
import Derived.Test.YtflpdekifkcfkaaLeaves
import Derived.Deep.RegionHeld3
namespace Go.Proofs.Ytflpdekifkcfkaa
open Go.RowKit
set_option linter.unusedVariables false

theorem lets_leaf1 (k l h d : Int) (t : ByteArray) (v : Vs) (w : World) (h1 : 1 ≤ d) (h6 : d ≤ 6) :
    Calls Try.prog 64 #[.agg #[.int .i64 1, .int .i64 k, .int .i64 l, .int .i64 h, .string t, .slice none 0 0], v.val, .int .i64 d] w fun e w' => e = .returned (.bool true) ∧ Below w.heap.size w w' := by
  have hd : (d == 0) = false := beq_eq_false_iff_ne.2 (by omega)
  unfold Vs.val
  go_enter Try.func64, Try.ntmps64
  go_wp2
  go_ret
  exact ⟨rfl, ((Below.refl _ _).alloc (Nat.le_refl _) _).alloc (by simp) _⟩

set_option maxHeartbeats 1000000 in
theorem lets_leaf2 (op k l h d : Int) (hop : op = 2 ∨ op = 3) (t : ByteArray) (v : Vs) (al : List (Int × Int)) (w : World) (h1 : 1 ≤ d) (h6 : d ≤ 6) (hv : Has Any w v al) :
    Calls Try.prog 64 #[.agg #[.int .i64 op, .int .i64 k, .int .i64 l, .int .i64 h, .string t, .slice none 0 0], v.val, .int .i64 d] w fun e w' => e = .returned (.bool (Ev.between al k l h)) ∧ Below w.heap.size w w' := by
  have hd : (d == 0) = false := beq_eq_false_iff_ne.2 (by omega)
  have c := fun w' (hb : Below w.heap.size w w') => between27 v al k l h w' (hv.below hb)
  clear hv
  unfold Vs.val at c ⊢
  rcases hop with rfl | rfl
  · go_enter Try.func64, Try.ntmps64
    go_wp2_with fail
    refine (c _ (((Below.refl _ _).alloc (Nat.le_refl _) _).alloc (by simp) _)).mono ?_
    rintro e w1 ⟨rfl, hb⟩
    clear c
    go_wp2
    go_ret
    exact ⟨rfl, (((Below.refl _ _).alloc (Nat.le_refl _) _).alloc (by simp) _).trans (hb.mono (by simp; omega))⟩
  · go_enter Try.func64, Try.ntmps64
    go_wp2_with fail
    refine (c _ (((Below.refl _ _).alloc (Nat.le_refl _) _).alloc (by simp) _)).mono ?_
    rintro e w1 ⟨rfl, hb⟩
    clear c
    go_wp2
    go_ret
    exact ⟨rfl, (((Below.refl _ _).alloc (Nat.le_refl _) _).alloc (by simp) _).trans (hb.mono (by simp; omega))⟩

set_option maxHeartbeats 1000000 in
theorem lets_leaf4 (k l h d : Int) (t : ByteArray) (v : Vs) (w : World) (h1 : 1 ≤ d) (h6 : d ≤ 6) (hv : v.tag.size ≤ 1000) (ht : t.size ≤ 1000) :
    Calls Try.prog 64 #[.agg #[.int .i64 4, .int .i64 k, .int .i64 l, .int .i64 h, .string t, .slice none 0 0], v.val, .int .i64 d] w fun e w' => e = .returned (.bool (Ev.begins v.tag t)) ∧ Below w.heap.size w w' := by
  have hd : (d == 0) = false := beq_eq_false_iff_ne.2 (by omega)
  have c := fun w' => prefix28 v.tag t w' hv ht
  unfold Vs.val
  go_enter Try.func64, Try.ntmps64
  go_wp2_with fail
  refine (c _).mono ?_
  rintro e w1 ⟨rfl, rfl⟩
  clear c
  go_wp2
  go_ret
  exact ⟨rfl, ((Below.refl _ _).alloc (Nat.le_refl _) _).alloc (by simp) _⟩

set_option maxHeartbeats 2000000 in
theorem lets_non (d d1 : Int) (hd1 : d1 = d - 1) (v : Vs) (w : World) (h1 : 1 ≤ d) (h6 : d ≤ 6) (b : Nat) (o1 k1 l1 h1' : Int) (t1 : ByteArray) (x1 : Option Addr) (n1 : Nat) (s : Six w b 0 o1 k1 l1 h1' t1 x1 n1) (r : Bool)
    (c : ∀ w', Below w.heap.size w w' → Calls Try.prog 64 #[.agg #[.int .i64 o1, .int .i64 k1, .int .i64 l1, .int .i64 h1', .string t1, .slice x1 n1 n1], v.val, .int .i64 d1] w' fun e w'' => e = .returned (.bool r) ∧ Below w'.heap.size w' w'') :
    Calls Try.prog 64 #[.agg #[.int .i64 7, .int .i64 0, .int .i64 0, .int .i64 0, .string ⟨#[]⟩, .slice (some ⟨b, 0, none⟩) 1 1], v.val, .int .i64 d] w fun e w' => e = .returned (.bool (!r)) ∧ Below w.heap.size w w' := by
  have hd : (d == 0) = false := beq_eq_false_iff_ne.2 (by omega)
  have hwr : IntKind.i64.wrap (d - 1) = d1 := by rw [hd1]; simp only [IntKind.wrap, IntKind.signed, IntKind.bits]; simp; omega
  clear hd1
  have hb0 := s.lt
  obtain ⟨q0, q1, q2, q3, q4, q5⟩ := s
  unfold Vs.val at c ⊢
  go_enter Try.func64, Try.ntmps64
  go_wp2_with fail
  obtain ⟨W, hW⟩ : ∃ W, W = (w.alloc (.cells #[.int .i64 7, .int .i64 0, .int .i64 0, .int .i64 0, .string ⟨#[]⟩, .slice (some ⟨b, 0, none⟩) 1 1] 26)).alloc (.cells #[.int .i64 v.it, .int .i64 v.L, .int .i64 v.R, .int .i64 v.N, .bool v.dead, .slice v.ao v.len v.cap, .string v.tag, .string v.body] 40) := ⟨_, rfl⟩
  rw [← hW]
  have hbW : Below w.heap.size w W := by rw [hW]; exact ((Below.refl _ _).alloc (Nat.le_refl _) _).alloc (by simp) _
  have f0 : W.cell? ⟨w.heap.size, 0, none⟩ = some (.int .i64 7) := by rw [hW]; simp
  have f5 : W.cell? ⟨w.heap.size, 5, none⟩ = some (.slice (some ⟨b, 0, none⟩) 1 1) := by rw [hW]; simp
  have g0 : W.cell? ⟨w.heap.size + 1, 0, none⟩ = some (.int .i64 v.it) := by rw [hW]; simp
  have g1 : W.cell? ⟨w.heap.size + 1, 1, none⟩ = some (.int .i64 v.L) := by rw [hW]; simp
  have g2 : W.cell? ⟨w.heap.size + 1, 2, none⟩ = some (.int .i64 v.R) := by rw [hW]; simp
  have g3 : W.cell? ⟨w.heap.size + 1, 3, none⟩ = some (.int .i64 v.N) := by rw [hW]; simp
  have g4 : W.cell? ⟨w.heap.size + 1, 4, none⟩ = some (.bool v.dead) := by rw [hW]; simp
  have g5 : W.cell? ⟨w.heap.size + 1, 5, none⟩ = some (.slice v.ao v.len v.cap) := by rw [hW]; simp
  have g6 : W.cell? ⟨w.heap.size + 1, 6, none⟩ = some (.string v.tag) := by rw [hW]; simp
  have g7 : W.cell? ⟨w.heap.size + 1, 7, none⟩ = some (.string v.body) := by rw [hW]; simp
  have p0 := (hbW.cell (p := ⟨b, 0, none⟩) hb0).trans q0
  have p1 := (hbW.cell (p := ⟨b, 0 + 1, none⟩) hb0).trans q1
  have p2 := (hbW.cell (p := ⟨b, 0 + 2, none⟩) hb0).trans q2
  have p3 := (hbW.cell (p := ⟨b, 0 + 3, none⟩) hb0).trans q3
  have p4 := (hbW.cell (p := ⟨b, 0 + 4, none⟩) hb0).trans q4
  have p5 := (hbW.cell (p := ⟨b, 0 + 5, none⟩) hb0).trans q5
  simp only [Nat.zero_add] at p0 p1 p2 p3 p4 p5
  have hsz : W.heap.size = w.heap.size + 2 := by rw [hW]; simp
  have m0 : w.heap.size < W.heap.size := by omega
  have m1 : w.heap.size + 1 < W.heap.size := by omega
  have mb : b < W.heap.size := by omega
  clear hW q0 q1 q2 q3 q4 q5 hsz
  go_wp2_with fail
  go_region_held3 (fun w' => w'.cell? ⟨w.heap.size, 5, none⟩ = some (.slice (some ⟨b, 0, none⟩) 1 1) ∧
      w'.cell? ⟨b, 0, none⟩ = some (.int .i64 o1) ∧ w'.cell? ⟨b, 1, none⟩ = some (.int .i64 k1) ∧ w'.cell? ⟨b, 2, none⟩ = some (.int .i64 l1) ∧ w'.cell? ⟨b, 3, none⟩ = some (.int .i64 h1') ∧ w'.cell? ⟨b, 4, none⟩ = some (.string t1) ∧ w'.cell? ⟨b, 5, none⟩ = some (.slice x1 n1 n1) ∧
      w'.cell? ⟨w.heap.size + 1, 0, none⟩ = some (.int .i64 v.it) ∧ w'.cell? ⟨w.heap.size + 1, 1, none⟩ = some (.int .i64 v.L) ∧ w'.cell? ⟨w.heap.size + 1, 2, none⟩ = some (.int .i64 v.R) ∧ w'.cell? ⟨w.heap.size + 1, 3, none⟩ = some (.int .i64 v.N) ∧ w'.cell? ⟨w.heap.size + 1, 4, none⟩ = some (.bool v.dead) ∧
      w'.cell? ⟨w.heap.size + 1, 5, none⟩ = some (.slice v.ao v.len v.cap) ∧ w'.cell? ⟨w.heap.size + 1, 6, none⟩ = some (.string v.tag) ∧ w'.cell? ⟨w.heap.size + 1, 7, none⟩ = some (.string v.body))
    (go_keep)
    (first
      | (go_at_call 64; refine (c _ hbW.drew).mono ?_; rintro e w2 ⟨rfl, hb2⟩; have hcl := fun b o (h : b < W.heap.size) => hb2.cell (p := ⟨b, o, none⟩) h))
  go_wp2
  go_ret
  exact ⟨rfl, hbW.drew.trans (hb2.mono (Nat.le_of_lt m0))⟩

set_option maxHeartbeats 2000000 in
theorem lets_and (d d1 : Int) (hd1 : d1 = d - 1) (v : Vs) (w : World) (h1 : 1 ≤ d) (h6 : d ≤ 6) (b : Nat) (o1 k1 l1 h1' : Int) (t1 : ByteArray) (x1 : Option Addr) (n1 : Nat) (s : Six w b 0 o1 k1 l1 h1' t1 x1 n1)
    (o2 k2 l2 h2' : Int) (t2 : ByteArray) (x2 : Option Addr) (n2 : Nat) (s' : Six w b 6 o2 k2 l2 h2' t2 x2 n2) (r r2 : Bool)
    (c : ∀ w', Below w.heap.size w w' → Calls Try.prog 64 #[.agg #[.int .i64 o1, .int .i64 k1, .int .i64 l1, .int .i64 h1', .string t1, .slice x1 n1 n1], v.val, .int .i64 d1] w' fun e w'' => e = .returned (.bool r) ∧ Below w'.heap.size w' w'')
    (c2 : ∀ w', Below w.heap.size w w' → Calls Try.prog 64 #[.agg #[.int .i64 o2, .int .i64 k2, .int .i64 l2, .int .i64 h2', .string t2, .slice x2 n2 n2], v.val, .int .i64 d1] w' fun e w'' => e = .returned (.bool r2) ∧ Below w'.heap.size w' w'') :
    Calls Try.prog 64 #[.agg #[.int .i64 5, .int .i64 0, .int .i64 0, .int .i64 0, .string ⟨#[]⟩, .slice (some ⟨b, 0, none⟩) 2 2], v.val, .int .i64 d] w fun e w' => e = .returned (.bool (r && r2)) ∧ Below w.heap.size w w' := by
  have hd : (d == 0) = false := beq_eq_false_iff_ne.2 (by omega)
  have hwr : IntKind.i64.wrap (d - 1) = d1 := by rw [hd1]; simp only [IntKind.wrap, IntKind.signed, IntKind.bits]; simp; omega
  clear hd1
  have hb0 := s.lt
  obtain ⟨q0, q1, q2, q3, q4, q5⟩ := s
  obtain ⟨u0, u1, u2, u3, u4, u5⟩ := s'
  unfold Vs.val at c c2 ⊢
  go_enter Try.func64, Try.ntmps64
  go_wp2_with fail
  obtain ⟨W, hW⟩ : ∃ W, W = (w.alloc (.cells #[.int .i64 5, .int .i64 0, .int .i64 0, .int .i64 0, .string ⟨#[]⟩, .slice (some ⟨b, 0, none⟩) 2 2] 26)).alloc (.cells #[.int .i64 v.it, .int .i64 v.L, .int .i64 v.R, .int .i64 v.N, .bool v.dead, .slice v.ao v.len v.cap, .string v.tag, .string v.body] 40) := ⟨_, rfl⟩
  rw [← hW]
  have hbW : Below w.heap.size w W := by rw [hW]; exact ((Below.refl _ _).alloc (Nat.le_refl _) _).alloc (by simp) _
  have f0 : W.cell? ⟨w.heap.size, 0, none⟩ = some (.int .i64 5) := by rw [hW]; simp
  have f5 : W.cell? ⟨w.heap.size, 5, none⟩ = some (.slice (some ⟨b, 0, none⟩) 2 2) := by rw [hW]; simp
  have g0 : W.cell? ⟨w.heap.size + 1, 0, none⟩ = some (.int .i64 v.it) := by rw [hW]; simp
  have g1 : W.cell? ⟨w.heap.size + 1, 1, none⟩ = some (.int .i64 v.L) := by rw [hW]; simp
  have g2 : W.cell? ⟨w.heap.size + 1, 2, none⟩ = some (.int .i64 v.R) := by rw [hW]; simp
  have g3 : W.cell? ⟨w.heap.size + 1, 3, none⟩ = some (.int .i64 v.N) := by rw [hW]; simp
  have g4 : W.cell? ⟨w.heap.size + 1, 4, none⟩ = some (.bool v.dead) := by rw [hW]; simp
  have g5 : W.cell? ⟨w.heap.size + 1, 5, none⟩ = some (.slice v.ao v.len v.cap) := by rw [hW]; simp
  have g6 : W.cell? ⟨w.heap.size + 1, 6, none⟩ = some (.string v.tag) := by rw [hW]; simp
  have g7 : W.cell? ⟨w.heap.size + 1, 7, none⟩ = some (.string v.body) := by rw [hW]; simp
  have p0 := (hbW.cell (p := ⟨b, 0, none⟩) hb0).trans q0
  have p1 := (hbW.cell (p := ⟨b, 0 + 1, none⟩) hb0).trans q1
  have p2 := (hbW.cell (p := ⟨b, 0 + 2, none⟩) hb0).trans q2
  have p3 := (hbW.cell (p := ⟨b, 0 + 3, none⟩) hb0).trans q3
  have p4 := (hbW.cell (p := ⟨b, 0 + 4, none⟩) hb0).trans q4
  have p5 := (hbW.cell (p := ⟨b, 0 + 5, none⟩) hb0).trans q5
  have r0 := (hbW.cell (p := ⟨b, 6, none⟩) hb0).trans u0
  have r1 := (hbW.cell (p := ⟨b, 6 + 1, none⟩) hb0).trans u1
  have r2 := (hbW.cell (p := ⟨b, 6 + 2, none⟩) hb0).trans u2
  have r3 := (hbW.cell (p := ⟨b, 6 + 3, none⟩) hb0).trans u3
  have r4 := (hbW.cell (p := ⟨b, 6 + 4, none⟩) hb0).trans u4
  have r5 := (hbW.cell (p := ⟨b, 6 + 5, none⟩) hb0).trans u5
  simp only [Nat.zero_add, Nat.reduceAdd] at p0 p1 p2 p3 p4 p5 r0 r1 r2 r3 r4 r5
  have hsz : W.heap.size = w.heap.size + 2 := by rw [hW]; simp
  have m0 : w.heap.size < W.heap.size := by omega
  have m1 : w.heap.size + 1 < W.heap.size := by omega
  have mb : b < W.heap.size := by omega
  clear hW q0 q1 q2 q3 q4 q5 u0 u1 u2 u3 u4 u5 hsz
  go_wp2_with fail
  go_region_held3 (fun w' => w'.cell? ⟨w.heap.size, 5, none⟩ = some (.slice (some ⟨b, 0, none⟩) 2 2) ∧
      w'.cell? ⟨b, 6, none⟩ = some (.int .i64 o2) ∧ w'.cell? ⟨b, 7, none⟩ = some (.int .i64 k2) ∧ w'.cell? ⟨b, 8, none⟩ = some (.int .i64 l2) ∧ w'.cell? ⟨b, 9, none⟩ = some (.int .i64 h2') ∧ w'.cell? ⟨b, 10, none⟩ = some (.string t2) ∧ w'.cell? ⟨b, 11, none⟩ = some (.slice x2 n2 n2) ∧
      w'.cell? ⟨w.heap.size + 1, 0, none⟩ = some (.int .i64 v.it) ∧ w'.cell? ⟨w.heap.size + 1, 1, none⟩ = some (.int .i64 v.L) ∧ w'.cell? ⟨w.heap.size + 1, 2, none⟩ = some (.int .i64 v.R) ∧ w'.cell? ⟨w.heap.size + 1, 3, none⟩ = some (.int .i64 v.N) ∧ w'.cell? ⟨w.heap.size + 1, 4, none⟩ = some (.bool v.dead) ∧ w'.cell? ⟨w.heap.size + 1, 5, none⟩ = some (.slice v.ao v.len v.cap) ∧ w'.cell? ⟨w.heap.size + 1, 6, none⟩ = some (.string v.tag) ∧ w'.cell? ⟨w.heap.size + 1, 7, none⟩ = some (.string v.body))
    (go_keep)
    (first
      | (go_at_call 64; refine (c2 _ hbW.drew).mono ?_; rintro e w2 ⟨rfl, hb2⟩; have hcl := fun b o (h : b < W.heap.size) => hb2.cell (p := ⟨b, o, none⟩) h))
  have hbW2 : Below w.heap.size w w2 := hbW.drew.trans (hb2.mono (Nat.le_of_lt m0))
  have hs2 : W.heap.size ≤ w2.heap.size := hb2.size
  have m0' : w.heap.size < w2.heap.size := by omega
  have m1' : w.heap.size + 1 < w2.heap.size := by omega
  have mb' : b < w2.heap.size := by omega
  clear hb2
  go_wp2_with fail
  go_region_held3 (fun w' => w'.cell? ⟨w.heap.size, 0, none⟩ = some (.int .i64 5) ∧ w'.cell? ⟨w.heap.size, 5, none⟩ = some (.slice (some ⟨b, 0, none⟩) 2 2) ∧
      w'.cell? ⟨b, 0, none⟩ = some (.int .i64 o1) ∧ w'.cell? ⟨b, 1, none⟩ = some (.int .i64 k1) ∧ w'.cell? ⟨b, 2, none⟩ = some (.int .i64 l1) ∧ w'.cell? ⟨b, 3, none⟩ = some (.int .i64 h1') ∧ w'.cell? ⟨b, 4, none⟩ = some (.string t1) ∧ w'.cell? ⟨b, 5, none⟩ = some (.slice x1 n1 n1) ∧
      w'.cell? ⟨w.heap.size + 1, 0, none⟩ = some (.int .i64 v.it) ∧ w'.cell? ⟨w.heap.size + 1, 1, none⟩ = some (.int .i64 v.L) ∧ w'.cell? ⟨w.heap.size + 1, 2, none⟩ = some (.int .i64 v.R) ∧ w'.cell? ⟨w.heap.size + 1, 3, none⟩ = some (.int .i64 v.N) ∧ w'.cell? ⟨w.heap.size + 1, 4, none⟩ = some (.bool v.dead) ∧ w'.cell? ⟨w.heap.size + 1, 5, none⟩ = some (.slice v.ao v.len v.cap) ∧ w'.cell? ⟨w.heap.size + 1, 6, none⟩ = some (.string v.tag) ∧ w'.cell? ⟨w.heap.size + 1, 7, none⟩ = some (.string v.body))
    (go_keep)
    (first
      | (go_at_call 64; refine (c _ hbW2.drew).mono ?_; rintro e w3 ⟨rfl, hb3⟩; have hcl3 := fun b o (h : b < w2.heap.size) => hb3.cell (p := ⟨b, o, none⟩) h))
  have hbW3 : Below w.heap.size w w3 := hbW2.drew.trans (hb3.mono (Nat.le_of_lt m0'))
  clear hb3
  cases r
  · go_wp2
    go_ret
    exact ⟨rfl, hbW3⟩
  · go_wp2
    go_ret
    exact ⟨rfl, hbW3⟩

set_option maxHeartbeats 2000000 in
theorem lets_or (d d1 : Int) (hd1 : d1 = d - 1) (v : Vs) (w : World) (h1 : 1 ≤ d) (h6 : d ≤ 6) (b : Nat) (o1 k1 l1 h1' : Int) (t1 : ByteArray) (x1 : Option Addr) (n1 : Nat) (s : Six w b 0 o1 k1 l1 h1' t1 x1 n1)
    (o2 k2 l2 h2' : Int) (t2 : ByteArray) (x2 : Option Addr) (n2 : Nat) (s' : Six w b 6 o2 k2 l2 h2' t2 x2 n2) (r r2 : Bool)
    (c : ∀ w', Below w.heap.size w w' → Calls Try.prog 64 #[.agg #[.int .i64 o1, .int .i64 k1, .int .i64 l1, .int .i64 h1', .string t1, .slice x1 n1 n1], v.val, .int .i64 d1] w' fun e w'' => e = .returned (.bool r) ∧ Below w'.heap.size w' w'')
    (c2 : ∀ w', Below w.heap.size w w' → Calls Try.prog 64 #[.agg #[.int .i64 o2, .int .i64 k2, .int .i64 l2, .int .i64 h2', .string t2, .slice x2 n2 n2], v.val, .int .i64 d1] w' fun e w'' => e = .returned (.bool r2) ∧ Below w'.heap.size w' w'') :
    Calls Try.prog 64 #[.agg #[.int .i64 6, .int .i64 0, .int .i64 0, .int .i64 0, .string ⟨#[]⟩, .slice (some ⟨b, 0, none⟩) 2 2], v.val, .int .i64 d] w fun e w' => e = .returned (.bool (r || r2)) ∧ Below w.heap.size w w' := by
  have hd : (d == 0) = false := beq_eq_false_iff_ne.2 (by omega)
  have hwr : IntKind.i64.wrap (d - 1) = d1 := by rw [hd1]; simp only [IntKind.wrap, IntKind.signed, IntKind.bits]; simp; omega
  clear hd1
  have hb0 := s.lt
  obtain ⟨q0, q1, q2, q3, q4, q5⟩ := s
  obtain ⟨u0, u1, u2, u3, u4, u5⟩ := s'
  unfold Vs.val at c c2 ⊢
  go_enter Try.func64, Try.ntmps64
  go_wp2_with fail
  obtain ⟨W, hW⟩ : ∃ W, W = (w.alloc (.cells #[.int .i64 6, .int .i64 0, .int .i64 0, .int .i64 0, .string ⟨#[]⟩, .slice (some ⟨b, 0, none⟩) 2 2] 26)).alloc (.cells #[.int .i64 v.it, .int .i64 v.L, .int .i64 v.R, .int .i64 v.N, .bool v.dead, .slice v.ao v.len v.cap, .string v.tag, .string v.body] 40) := ⟨_, rfl⟩
  rw [← hW]
  have hbW : Below w.heap.size w W := by rw [hW]; exact ((Below.refl _ _).alloc (Nat.le_refl _) _).alloc (by simp) _
  have f0 : W.cell? ⟨w.heap.size, 0, none⟩ = some (.int .i64 6) := by rw [hW]; simp
  have f5 : W.cell? ⟨w.heap.size, 5, none⟩ = some (.slice (some ⟨b, 0, none⟩) 2 2) := by rw [hW]; simp
  have g0 : W.cell? ⟨w.heap.size + 1, 0, none⟩ = some (.int .i64 v.it) := by rw [hW]; simp
  have g1 : W.cell? ⟨w.heap.size + 1, 1, none⟩ = some (.int .i64 v.L) := by rw [hW]; simp
  have g2 : W.cell? ⟨w.heap.size + 1, 2, none⟩ = some (.int .i64 v.R) := by rw [hW]; simp
  have g3 : W.cell? ⟨w.heap.size + 1, 3, none⟩ = some (.int .i64 v.N) := by rw [hW]; simp
  have g4 : W.cell? ⟨w.heap.size + 1, 4, none⟩ = some (.bool v.dead) := by rw [hW]; simp
  have g5 : W.cell? ⟨w.heap.size + 1, 5, none⟩ = some (.slice v.ao v.len v.cap) := by rw [hW]; simp
  have g6 : W.cell? ⟨w.heap.size + 1, 6, none⟩ = some (.string v.tag) := by rw [hW]; simp
  have g7 : W.cell? ⟨w.heap.size + 1, 7, none⟩ = some (.string v.body) := by rw [hW]; simp
  have p0 := (hbW.cell (p := ⟨b, 0, none⟩) hb0).trans q0
  have p1 := (hbW.cell (p := ⟨b, 0 + 1, none⟩) hb0).trans q1
  have p2 := (hbW.cell (p := ⟨b, 0 + 2, none⟩) hb0).trans q2
  have p3 := (hbW.cell (p := ⟨b, 0 + 3, none⟩) hb0).trans q3
  have p4 := (hbW.cell (p := ⟨b, 0 + 4, none⟩) hb0).trans q4
  have p5 := (hbW.cell (p := ⟨b, 0 + 5, none⟩) hb0).trans q5
  have r0 := (hbW.cell (p := ⟨b, 6, none⟩) hb0).trans u0
  have r1 := (hbW.cell (p := ⟨b, 6 + 1, none⟩) hb0).trans u1
  have r2 := (hbW.cell (p := ⟨b, 6 + 2, none⟩) hb0).trans u2
  have r3 := (hbW.cell (p := ⟨b, 6 + 3, none⟩) hb0).trans u3
  have r4 := (hbW.cell (p := ⟨b, 6 + 4, none⟩) hb0).trans u4
  have r5 := (hbW.cell (p := ⟨b, 6 + 5, none⟩) hb0).trans u5
  simp only [Nat.zero_add, Nat.reduceAdd] at p0 p1 p2 p3 p4 p5 r0 r1 r2 r3 r4 r5
  have hsz : W.heap.size = w.heap.size + 2 := by rw [hW]; simp
  have m0 : w.heap.size < W.heap.size := by omega
  have m1 : w.heap.size + 1 < W.heap.size := by omega
  have mb : b < W.heap.size := by omega
  clear hW q0 q1 q2 q3 q4 q5 u0 u1 u2 u3 u4 u5 hsz
  go_wp2_with fail
  go_region_held3 (fun w' => w'.cell? ⟨w.heap.size, 5, none⟩ = some (.slice (some ⟨b, 0, none⟩) 2 2) ∧
      w'.cell? ⟨b, 6, none⟩ = some (.int .i64 o2) ∧ w'.cell? ⟨b, 7, none⟩ = some (.int .i64 k2) ∧ w'.cell? ⟨b, 8, none⟩ = some (.int .i64 l2) ∧ w'.cell? ⟨b, 9, none⟩ = some (.int .i64 h2') ∧ w'.cell? ⟨b, 10, none⟩ = some (.string t2) ∧ w'.cell? ⟨b, 11, none⟩ = some (.slice x2 n2 n2) ∧
      w'.cell? ⟨w.heap.size + 1, 0, none⟩ = some (.int .i64 v.it) ∧ w'.cell? ⟨w.heap.size + 1, 1, none⟩ = some (.int .i64 v.L) ∧ w'.cell? ⟨w.heap.size + 1, 2, none⟩ = some (.int .i64 v.R) ∧ w'.cell? ⟨w.heap.size + 1, 3, none⟩ = some (.int .i64 v.N) ∧ w'.cell? ⟨w.heap.size + 1, 4, none⟩ = some (.bool v.dead) ∧ w'.cell? ⟨w.heap.size + 1, 5, none⟩ = some (.slice v.ao v.len v.cap) ∧ w'.cell? ⟨w.heap.size + 1, 6, none⟩ = some (.string v.tag) ∧ w'.cell? ⟨w.heap.size + 1, 7, none⟩ = some (.string v.body))
    (go_keep)
    (first
      | (go_at_call 64; refine (c2 _ hbW.drew).mono ?_; rintro e w2 ⟨rfl, hb2⟩; have hcl := fun b o (h : b < W.heap.size) => hb2.cell (p := ⟨b, o, none⟩) h))
  have hbW2 : Below w.heap.size w w2 := hbW.drew.trans (hb2.mono (Nat.le_of_lt m0))
  have hs2 : W.heap.size ≤ w2.heap.size := hb2.size
  have m0' : w.heap.size < w2.heap.size := by omega
  have m1' : w.heap.size + 1 < w2.heap.size := by omega
  have mb' : b < w2.heap.size := by omega
  clear hb2
  go_wp2_with fail
  go_region_held3 (fun w' => w'.cell? ⟨w.heap.size, 0, none⟩ = some (.int .i64 6) ∧ w'.cell? ⟨w.heap.size, 5, none⟩ = some (.slice (some ⟨b, 0, none⟩) 2 2) ∧
      w'.cell? ⟨b, 0, none⟩ = some (.int .i64 o1) ∧ w'.cell? ⟨b, 1, none⟩ = some (.int .i64 k1) ∧ w'.cell? ⟨b, 2, none⟩ = some (.int .i64 l1) ∧ w'.cell? ⟨b, 3, none⟩ = some (.int .i64 h1') ∧ w'.cell? ⟨b, 4, none⟩ = some (.string t1) ∧ w'.cell? ⟨b, 5, none⟩ = some (.slice x1 n1 n1) ∧
      w'.cell? ⟨w.heap.size + 1, 0, none⟩ = some (.int .i64 v.it) ∧ w'.cell? ⟨w.heap.size + 1, 1, none⟩ = some (.int .i64 v.L) ∧ w'.cell? ⟨w.heap.size + 1, 2, none⟩ = some (.int .i64 v.R) ∧ w'.cell? ⟨w.heap.size + 1, 3, none⟩ = some (.int .i64 v.N) ∧ w'.cell? ⟨w.heap.size + 1, 4, none⟩ = some (.bool v.dead) ∧ w'.cell? ⟨w.heap.size + 1, 5, none⟩ = some (.slice v.ao v.len v.cap) ∧ w'.cell? ⟨w.heap.size + 1, 6, none⟩ = some (.string v.tag) ∧ w'.cell? ⟨w.heap.size + 1, 7, none⟩ = some (.string v.body))
    (go_keep)
    (first
      | (go_at_call 64; refine (c _ hbW2.drew).mono ?_; rintro e w3 ⟨rfl, hb3⟩; have hcl3 := fun b o (h : b < w2.heap.size) => hb3.cell (p := ⟨b, o, none⟩) h))
  have hbW3 : Below w.heap.size w w3 := hbW2.drew.trans (hb3.mono (Nat.le_of_lt m0'))
  clear hb3
  cases r
  · go_wp2
    go_ret
    exact ⟨rfl, hbW3⟩
  · go_wp2
    go_ret
    exact ⟨rfl, hbW3⟩

theorem lets20 (f : Ev.Ft) : ∀ (d : Int) (v : Vs) (al : List (Int × Int)) (w : World) (o k l h : Int) (t : ByteArray) (x : Option Addr) (n : Nat), (f.deep : Int) ≤ d → d ≤ 6 → f.ok → Lies Any w f o k l h t x n → Has Any w v al →
    Calls Try.prog 64 #[.agg #[.int .i64 o, .int .i64 k, .int .i64 l, .int .i64 h, .string t, .slice x n n], v.val, .int .i64 d] w fun e w' => e = .returned (.bool (f.lets al v.tag)) ∧ Below w.heap.size w w' := by
  induction f with
  | leaf op key lo hi tag =>
    rintro d v al w o k l h t x n h1 h6 ⟨ok1, ok2, ok3⟩ ⟨rfl, rfl, rfl, rfl, rfl, rfl, rfl⟩ hv
    simp only [Ev.Ft.deep] at h1
    have hop : o = 1 ∨ (o = 2 ∨ o = 3) ∨ o = 4 := by omega
    rcases hop with rfl | hop | rfl
    · exact lets_leaf1 k l h d t v w (by omega) h6
    · have e : Ev.Ft.lets al v.tag (.leaf o k l h t) = Ev.between al k l h := by
        unfold Ev.Ft.lets
        rw [if_neg (by omega), if_pos hop]
      rw [e]
      exact lets_leaf2 o k l h d hop t v al w (by omega) h6 hv
    · exact lets_leaf4 k l h d t v w (by omega) h6 hv.2.2.1 ok3
  | non f ih =>
    rintro d v al w o k l h t x n h1 h6 hok ⟨rfl, rfl, rfl, rfl, rfl, b, o1, k1, l1, h1', t1, x1, n1, rfl, rfl, _, s, y⟩ hv
    simp only [Ev.Ft.deep] at h1
    have hp := f.deep_pos
    exact lets_non d (d - 1) rfl v w (by omega) h6 b o1 k1 l1 h1' t1 x1 n1 s _ (fun w' hb => ih (d - 1) v al w' o1 k1 l1 h1' t1 x1 n1 (by omega) (by omega) hok (y.below hb) (hv.below hb))
  | two op f g ihf ihg =>
    rintro d v al w o k l h t x n h1 h6 ⟨hop, hok1, hok2⟩ ⟨rfl, rfl, rfl, rfl, rfl, b, o1, k1, l1, h1', t1, x1, n1, o2, k2, l2, h2', t2, x2, n2, rfl, rfl, _, s, y, s', z⟩ hv
    simp only [Ev.Ft.deep] at h1
    have hp := f.deep_pos
    have c1 := fun w' hb => ihf (d - 1) v al w' o1 k1 l1 h1' t1 x1 n1 (by omega) (by omega) hok1 (y.below hb) (hv.below hb)
    have c2 := fun w' hb => ihg (d - 1) v al w' o2 k2 l2 h2' t2 x2 n2 (by omega) (by omega) hok2 (z.below hb) (hv.below hb)
    rcases hop with rfl | rfl
    · exact lets_and d (d - 1) rfl v w (by omega) h6 b o1 k1 l1 h1' t1 x1 n1 s o2 k2 l2 h2' t2 x2 n2 s' _ _ c1 c2
    · exact lets_or d (d - 1) rfl v w (by omega) h6 b o1 k1 l1 h1' t1 x1 n1 s o2 k2 l2 h2' t2 x2 n2 s' _ _ c1 c2

set_option maxHeartbeats 1000000 in
/-- eval.Lets tells what the filter lets through. -/
theorem lets13 (f : Ev.Ft) (v : Vs) (al : List (Int × Int)) (w : World) (o k l h : Int) (t : ByteArray) (x : Option Addr) (n : Nat) (hd : f.deep ≤ 6) (hok : f.ok) (hl : Lies Any w f o k l h t x n) (hv : Has Any w v al) :
    Calls Try.prog 48 #[.agg #[.int .i64 o, .int .i64 k, .int .i64 l, .int .i64 h, .string t, .slice x n n], v.val] w fun e w' => e = .returned (.bool (f.lets al v.tag)) ∧ Below w.heap.size w w' := by
  have c := fun w' (hb : Below w.heap.size w w') => lets20 f 6 v al w' o k l h t x n (by omega) (by omega) hok (hl.below hb) (hv.below hb)
  clear hl hv
  unfold Vs.val at c ⊢
  go_enter Try.func48, Try.ntmps48
  go_wp2_with fail
  refine (c _ (((Below.refl _ _).alloc (Nat.le_refl _) _).alloc (by simp) _)).mono ?_
  rintro e w1 ⟨rfl, hb⟩
  clear c
  go_wp2
  go_ret
  exact ⟨rfl, (((Below.refl _ _).alloc (Nat.le_refl _) _).alloc (by simp) _).trans (hb.mono (by simp; omega))⟩

end Go.Proofs.Ytflpdekifkcfkaa
