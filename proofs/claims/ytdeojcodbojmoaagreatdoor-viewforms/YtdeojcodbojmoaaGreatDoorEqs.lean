/- Rows of numbers and of heads that are held against each other. -/
import Derived.Test.YtdeojcodbojmoaaGreatDoorVw
namespace Go.Proofs.YtdeojcodbojmoaaGreatDoor
open Go.RowKit
set_option maxRecDepth 100000
set_option linter.unusedVariables false

theorem bel_dN {B : Nat} {a w : World} (h : Below B a w) (q : Nat) : Below B a (w.drewN q) := ⟨h.os, h.tape, h.output, h.size, h.block⟩

/-- A row of numbers, of heads, read one by one. -/
theorem int_at {w : World} {b off : Nat} {l : List Int} (hc : ∀ j u, (icells l)[j]? = some u → w.cell? ⟨b, off + j, none⟩ = some u) (i : Nat) (hi : i < l.length) : w.cell? ⟨b, off + i, none⟩ = some (.int .i64 l[i]) :=
  hc i _ (by simp [icells, hi])

theorem head_at {w : World} {b off : Nat} {l : List Hd} (hc : ∀ j u, (hcells l)[j]? = some u → w.cell? ⟨b, off + j, none⟩ = some u) (i : Nat) (hi : i < l.length) :
    w.cell? ⟨b, off + i * 4, none⟩ = some (.int .i64 (l[i]).it) ∧ w.cell? ⟨b, off + i * 4 + 1, none⟩ = some (.int .i64 (l[i]).L) ∧ w.cell? ⟨b, off + i * 4 + 2, none⟩ = some (.int .i64 (l[i]).R) ∧ w.cell? ⟨b, off + i * 4 + 3, none⟩ = some (.int .i64 (l[i]).N) := by
  have h : ∀ q (hq : q < 4) u, (l[i]).vals[q]? = some u → w.cell? ⟨b, off + i * 4 + q, none⟩ = some u := fun q hq u hu => by
    have := hc (i * 4 + q) u (by rw [hcells_get l i q hi hq]; exact hu)
    rw [← Nat.add_assoc] at this
    exact this
  exact ⟨h 0 (by omega) _ rfl, h 1 (by omega) _ rfl, h 2 (by omega) _ rfl, h 3 (by omega) _ rfl⟩

/-- The first k are alike. -/
def Alike {α : Type} (l m : List α) (k : Nat) : Prop := ∀ j (h1 : j < l.length) (h2 : j < m.length), j < k → l[j] = m[j]
theorem Alike.zero {α : Type} (l m : List α) : Alike l m 0 := fun j _ _ h => by omega
theorem Alike.succ {α : Type} {l m : List α} {k : Nat} (h : Alike l m k) (h1 : k < l.length) (h2 : k < m.length) (e : l[k] = m[k]) : Alike l m (k + 1) := fun j a b hj => by
  by_cases hjk : j < k
  · exact h j a b hjk
  · have : j = k := by omega
    subst this
    exact e
theorem Alike.all {α : Type} {l m : List α} {k : Nat} (h : Alike l m k) (hk : l.length ≤ k) (hl : l.length = m.length) : l = m := List.ext_getElem hl (fun j a b => h j a b (by omega))
set_option maxHeartbeats 1000000 in
/-- Two heads that differ are told apart. -/
theorem hd_ne (x y : Hd) (h : x ≠ y) (w : World) : (Op.equalIn 10000 45 (.agg #[.int .i64 x.it, .int .i64 x.L, .int .i64 x.R, .int .i64 x.N]) (.agg #[.int .i64 y.it, .int .i64 y.L, .int .i64 y.R, .int .i64 y.N])).run Tryz.prog w = .ok false w := by
  obtain ⟨xi, xL, xR, xN⟩ := x
  obtain ⟨yi, yL, yR, yN⟩ := y
  simp only
  by_cases h0 : xi = yi
  · subst h0
    by_cases h1 : xL = yL
    · subst h1
      by_cases h2 : xR = yR
      · subst h2
        have h3 : (xN == yN) = false := by simp at h; simpa using h
        clear h
        go_simp
      · have h3 : (xR == yR) = false := by simpa using h2
        clear h h2
        go_simp
    · have h3 : (xL == yL) = false := by simpa using h1
      clear h h1
      go_simp
  · have h3 : (xi == yi) = false := by simpa using h0
    clear h h0
    go_simp

set_option maxHeartbeats 1000000 in
theorem ints19 (w : World) (P1 P2 : Nat → Prop) (a1 a2 : Option Addr) (c1 c2 : Nat) (l m : List Int) (r1 : Rdz P1 w 1 a1 l.length (icells l)) (r2 : Rdz P2 w 1 a2 m.length (icells m)) :
    Calls Tryz.prog 19 #[.slice a1 l.length c1, .slice a2 m.length c2] w fun e w' => e = .returned (.bool (decide (l = m))) ∧ Below w.heap.size w w' := by
  have hl1 := r1.2.1
  have hl2 := r2.2.1
  by_cases hl : l.length = m.length
  · have hne : ((l.length : Int) != (m.length : Int)) = false := by rw [hl]; simp
    have HL : Hid (l.length = m.length) := hl
    clear hl
    go_enter Tryz.func19, Tryz.ntmps19
    go_wp2
    go_loopw [5] (fun i wr => ∃ k : Nat, k ≤ l.length ∧ i = .int .i64 k ∧ Alike l m k ∧ Below w.heap.size w wr) (fun i _ => l.length - (intOf i).toNat)
    case atStart => exact ⟨0, Nat.zero_le _, rfl, Alike.zero _ _, Below.refl _ _⟩
    case round =>
      obtain ⟨k, hk, rfl, hal, hbel⟩ := hrel
      by_cases hlt : k < l.length
      · have hk1 : k < l.length := hlt
        have hk2 : k < m.length := by rw [← HL.out]; exact hlt
        obtain ⟨b1, o1, rfl, _, hb1, hc1⟩ := r1.2.2 (by omega)
        obtain ⟨b2, o2, rfl, _, hb2, hc2⟩ := r2.2.2 (by omega)
        have f0 := int_at (w := wr) (fun j u hu => (hbel.cell (p := ⟨b1, o1 + j, none⟩) hb1).trans (hc1 j u hu)) k hk1
        have g0 := int_at (w := wr) (fun j u hu => (hbel.cell (p := ⟨b2, o2 + j, none⟩) hb2).trans (hc2 j u hu)) k hk2
        have HC : Hid (_ ∧ _) := ⟨hal, hbel⟩
        have HKm : Hid (l[k] = m[k] → Alike l m (k + 1)) := fun e => hal.succ hk1 hk2 e
        have HKn : Hid (l[k] ≠ m[k] → decide (l = m) = false) := fun e => decide_eq_false (fun x => by subst x; exact e rfl)
        clear hc1 hc2 hal hbel
        generalize l[k] = x at *
        generalize m[k] = y at *
        by_cases hxy : x = y
        · subst hxy
          go_wp2_with fail
          go_quiet (fail)
          go_wp2
          go_roundw
          case rel => exact ⟨k + 1, by omega, by go_num, HKm.out (by simp), bel_dN HC.out.2 _⟩
          case measure => simp [intOf]; omega
        · have hne2 : (x != y) = true := by simpa using hxy
          go_wp2_with fail
          go_quiet (fail)
          go_wp2
          go_ret
          exact ⟨by rw [HKn.out hxy]; rfl, bel_dN HC.out.2 _⟩
      · go_wp2
        go_ret
        exact ⟨by rw [decide_eq_true (hal.all (by omega) HL.out)]; rfl, hbel⟩
  · have hne : ((l.length : Int) != (m.length : Int)) = true := by simp; omega
    have hd : decide (l = m) = false := decide_eq_false (fun e => hl (by rw [e]))
    rw [hd]
    clear hl hd
    go_enter Tryz.func19, Tryz.ntmps19
    go_wp2
    go_ret
    exact ⟨rfl, Below.refl _ _⟩

set_option maxHeartbeats 1000000 in
theorem ints32 (w : World) (P1 P2 : Nat → Prop) (a1 a2 : Option Addr) (c1 c2 : Nat) (l m : List Int) (r1 : Rdz P1 w 1 a1 l.length (icells l)) (r2 : Rdz P2 w 1 a2 m.length (icells m)) :
    Calls Tryz.prog 32 #[.slice a1 l.length c1, .slice a2 m.length c2] w fun e w' => e = .returned (.bool (decide (l = m))) ∧ Below w.heap.size w w' := by
  have hl1 := r1.2.1
  have hl2 := r2.2.1
  by_cases hl : l.length = m.length
  · have hne : ((l.length : Int) != (m.length : Int)) = false := by rw [hl]; simp
    have HL : Hid (l.length = m.length) := hl
    clear hl
    go_enter Tryz.func32, Tryz.ntmps32
    go_wp2
    go_loopw [13] (fun i wr => ∃ k : Nat, k ≤ l.length ∧ i = .int .i64 k ∧ Alike l m k ∧ Below w.heap.size w wr) (fun i _ => l.length - (intOf i).toNat)
    case atStart => exact ⟨0, Nat.zero_le _, rfl, Alike.zero _ _, Below.refl _ _⟩
    case round =>
      obtain ⟨k, hk, rfl, hal, hbel⟩ := hrel
      by_cases hlt : k < l.length
      · have hk1 : k < l.length := hlt
        have hk2 : k < m.length := by rw [← HL.out]; exact hlt
        obtain ⟨b1, o1, rfl, _, hb1, hc1⟩ := r1.2.2 (by omega)
        obtain ⟨b2, o2, rfl, _, hb2, hc2⟩ := r2.2.2 (by omega)
        have f0 := int_at (w := wr) (fun j u hu => (hbel.cell (p := ⟨b1, o1 + j, none⟩) hb1).trans (hc1 j u hu)) k hk1
        have g0 := int_at (w := wr) (fun j u hu => (hbel.cell (p := ⟨b2, o2 + j, none⟩) hb2).trans (hc2 j u hu)) k hk2
        have HC : Hid (_ ∧ _) := ⟨hal, hbel⟩
        have HKm : Hid (l[k] = m[k] → Alike l m (k + 1)) := fun e => hal.succ hk1 hk2 e
        have HKn : Hid (l[k] ≠ m[k] → decide (l = m) = false) := fun e => decide_eq_false (fun x => by subst x; exact e rfl)
        clear hc1 hc2 hal hbel
        generalize l[k] = x at *
        generalize m[k] = y at *
        by_cases hxy : x = y
        · subst hxy
          go_wp2_with fail
          go_quiet (fail)
          go_wp2
          go_roundw
          case rel => exact ⟨k + 1, by omega, by go_num, HKm.out (by simp), bel_dN HC.out.2 _⟩
          case measure => simp [intOf]; omega
        · have hne2 : (x != y) = true := by simpa using hxy
          go_wp2_with fail
          go_quiet (fail)
          go_wp2
          go_ret
          exact ⟨by rw [HKn.out hxy]; rfl, bel_dN HC.out.2 _⟩
      · go_wp2
        go_ret
        exact ⟨by rw [decide_eq_true (hal.all (by omega) HL.out)]; rfl, hbel⟩
  · have hne : ((l.length : Int) != (m.length : Int)) = true := by simp; omega
    have hd : decide (l = m) = false := decide_eq_false (fun e => hl (by rw [e]))
    rw [hd]
    clear hl hd
    go_enter Tryz.func32, Tryz.ntmps32
    go_wp2
    go_ret
    exact ⟨rfl, Below.refl _ _⟩

set_option maxHeartbeats 1000000 in
theorem heads33 (w : World) (P1 P2 : Nat → Prop) (a1 a2 : Option Addr) (c1 c2 : Nat) (l m : List Hd) (r1 : Rdz P1 w 4 a1 l.length (hcells l)) (r2 : Rdz P2 w 4 a2 m.length (hcells m)) :
    Calls Tryz.prog 33 #[.slice a1 l.length c1, .slice a2 m.length c2] w fun e w' => e = .returned (.bool (decide (l = m))) ∧ Below w.heap.size w w' := by
  have hl1 := r1.2.1
  have hl2 := r2.2.1
  by_cases hl : l.length = m.length
  · have hne : ((l.length : Int) != (m.length : Int)) = false := by rw [hl]; simp
    have HL : Hid (l.length = m.length) := hl
    clear hl
    go_enter Tryz.func33, Tryz.ntmps33
    go_wp2
    go_loopw [5] (fun i wr => ∃ k : Nat, k ≤ l.length ∧ i = .int .i64 k ∧ Alike l m k ∧ Below w.heap.size w wr) (fun i _ => l.length - (intOf i).toNat)
    case atStart => exact ⟨0, Nat.zero_le _, rfl, Alike.zero _ _, Below.refl _ _⟩
    case round =>
      obtain ⟨k, hk, rfl, hal, hbel⟩ := hrel
      by_cases hlt : k < l.length
      · have hk1 : k < l.length := hlt
        have hk2 : k < m.length := by rw [← HL.out]; exact hlt
        obtain ⟨b1, o1, rfl, _, hb1, hc1⟩ := r1.2.2 (by omega)
        obtain ⟨b2, o2, rfl, _, hb2, hc2⟩ := r2.2.2 (by omega)
        obtain ⟨f0, f1, f2, f3⟩ := head_at (w := wr) (fun j u hu => (hbel.cell (p := ⟨b1, o1 + j, none⟩) hb1).trans (hc1 j u hu)) k hk1
        obtain ⟨g0, g1, g2, g3⟩ := head_at (w := wr) (fun j u hu => (hbel.cell (p := ⟨b2, o2 + j, none⟩) hb2).trans (hc2 j u hu)) k hk2
        have HC : Hid (_ ∧ _) := ⟨hal, hbel⟩
        have HKm : Hid (l[k] = m[k] → Alike l m (k + 1)) := fun e => hal.succ hk1 hk2 e
        have HKn : Hid (l[k] ≠ m[k] → decide (l = m) = false) := fun e => decide_eq_false (fun x => by subst x; exact e rfl)
        clear hc1 hc2 hal hbel
        generalize l[k] = x at *
        generalize m[k] = y at *
        by_cases hxy : x = y
        · subst hxy
          go_wp2_with fail
          go_quiet (fail)
          go_wp2
          go_roundw
          case rel => exact ⟨k + 1, by omega, by go_num, HKm.out (by simp), bel_dN HC.out.2 _⟩
          case measure => simp [intOf]; omega
        · have hne2 : (x != y) = true := by simpa using hxy
          have he := fun w => hd_ne x y hxy w
          go_wp2_with fail
          go_quiet (fail)
          go_wp2
          go_ret
          exact ⟨by rw [HKn.out hxy]; rfl, bel_dN HC.out.2 _⟩
      · go_wp2
        go_ret
        exact ⟨by rw [decide_eq_true (hal.all (by omega) HL.out)]; rfl, hbel⟩
  · have hne : ((l.length : Int) != (m.length : Int)) = true := by simp; omega
    have hd : decide (l = m) = false := decide_eq_false (fun e => hl (by rw [e]))
    rw [hd]
    clear hl hd
    go_enter Tryz.func33, Tryz.ntmps33
    go_wp2
    go_ret
    exact ⟨rfl, Below.refl _ _⟩

set_option maxHeartbeats 1000000 in
theorem heads31 (w : World) (P1 P2 : Nat → Prop) (a1 a2 : Option Addr) (c1 c2 : Nat) (l m : List Hd) (r1 : Rdz P1 w 4 a1 l.length (hcells l)) (r2 : Rdz P2 w 4 a2 m.length (hcells m)) :
    Calls Tryz.prog 31 #[.slice a1 l.length c1, .slice a2 m.length c2] w fun e w' => e = .returned (.bool (decide (l = m))) ∧ Below w.heap.size w w' := by
  have hl1 := r1.2.1
  have hl2 := r2.2.1
  by_cases hl : l.length = m.length
  · have hne : ((l.length : Int) != (m.length : Int)) = false := by rw [hl]; simp
    have HL : Hid (l.length = m.length) := hl
    clear hl
    go_enter Tryz.func31, Tryz.ntmps31
    go_wp2
    go_loopw [13] (fun i wr => ∃ k : Nat, k ≤ l.length ∧ i = .int .i64 k ∧ Alike l m k ∧ Below w.heap.size w wr) (fun i _ => l.length - (intOf i).toNat)
    case atStart => exact ⟨0, Nat.zero_le _, rfl, Alike.zero _ _, Below.refl _ _⟩
    case round =>
      obtain ⟨k, hk, rfl, hal, hbel⟩ := hrel
      by_cases hlt : k < l.length
      · have hk1 : k < l.length := hlt
        have hk2 : k < m.length := by rw [← HL.out]; exact hlt
        obtain ⟨b1, o1, rfl, _, hb1, hc1⟩ := r1.2.2 (by omega)
        obtain ⟨b2, o2, rfl, _, hb2, hc2⟩ := r2.2.2 (by omega)
        obtain ⟨f0, f1, f2, f3⟩ := head_at (w := wr) (fun j u hu => (hbel.cell (p := ⟨b1, o1 + j, none⟩) hb1).trans (hc1 j u hu)) k hk1
        obtain ⟨g0, g1, g2, g3⟩ := head_at (w := wr) (fun j u hu => (hbel.cell (p := ⟨b2, o2 + j, none⟩) hb2).trans (hc2 j u hu)) k hk2
        have HC : Hid (_ ∧ _) := ⟨hal, hbel⟩
        have HKm : Hid (l[k] = m[k] → Alike l m (k + 1)) := fun e => hal.succ hk1 hk2 e
        have HKn : Hid (l[k] ≠ m[k] → decide (l = m) = false) := fun e => decide_eq_false (fun x => by subst x; exact e rfl)
        clear hc1 hc2 hal hbel
        generalize l[k] = x at *
        generalize m[k] = y at *
        by_cases hxy : x = y
        · subst hxy
          go_wp2_with fail
          go_quiet (fail)
          go_wp2
          go_roundw
          case rel => exact ⟨k + 1, by omega, by go_num, HKm.out (by simp), bel_dN HC.out.2 _⟩
          case measure => simp [intOf]; omega
        · have hne2 : (x != y) = true := by simpa using hxy
          have he := fun w => hd_ne x y hxy w
          go_wp2_with fail
          go_quiet (fail)
          go_wp2
          go_ret
          exact ⟨by rw [HKn.out hxy]; rfl, bel_dN HC.out.2 _⟩
      · go_wp2
        go_ret
        exact ⟨by rw [decide_eq_true (hal.all (by omega) HL.out)]; rfl, hbel⟩
  · have hne : ((l.length : Int) != (m.length : Int)) = true := by simp; omega
    have hd : decide (l = m) = false := decide_eq_false (fun e => hl (by rw [e]))
    rw [hd]
    clear hl hd
    go_enter Tryz.func31, Tryz.ntmps31
    go_wp2
    go_ret
    exact ⟨rfl, Below.refl _ _⟩

end Go.Proofs.YtdeojcodbojmoaaGreatDoor
