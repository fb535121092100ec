/- norm.Meet: what two boxes let through both. -/
import Derived.Test.YtflpdekifkcfkabBval
import Derived.Test.YtflpdekifkcfkabAllnots
import Derived.Test.YtflpdekifkcfkabOne
import Derived.Deep.RegionWith
namespace Go.Proofs.Ytflpdekifkcfkab
open Go.RowKit
set_option linter.unusedVariables false

theorem callee_old {w w' : World} (h : Below w.drew.heap.size w.drew w') :
    (∀ b o, b < w.heap.size → w'.cell? ⟨b, o, none⟩ = w.cell? ⟨b, o, none⟩) ∧ (∀ b o, b < w.heap.size → w'.frozen? ⟨b, o, none⟩ = w.frozen? ⟨b, o, none⟩) ∧ w.heap.size ≤ w'.heap.size :=
  ⟨fun b o hb => h.cell (p := ⟨b, o, none⟩) hb, fun b o hb => h.frozen (p := ⟨b, o, none⟩) hb, h.size⟩

theorem callee_new {w w' : World} {o : Obj} (h : Below (w.alloc o).drew.heap.size (w.alloc o).drew w') :
    (∀ b i, b < w.heap.size → w'.cell? ⟨b, i, none⟩ = w.cell? ⟨b, i, none⟩) ∧ (∀ b i, b < w.heap.size → w'.frozen? ⟨b, i, none⟩ = w.frozen? ⟨b, i, none⟩) ∧ w.heap.size < w'.heap.size :=
  ⟨fun b i hb => (h.cell (p := ⟨b, i, none⟩) (by simp; omega)).trans (World.cell?_alloc_past _ _ _ (hn := hb)), fun b i hb => (h.frozen (p := ⟨b, i, none⟩) (by simp; omega)).trans (World.frozen?_alloc_past _ _ _ (hn := hb)), by have := h.size; simp at this; omega⟩

theorem callee_ne {a b c : Nat} (h : a ≤ c) (k : b < a) : c ≠ b := by omega

theorem callee_own {w w' : World} {a : Array Value} {t : TypeId} (h : Below (w.alloc (.cells a t)).drew.heap.size (w.alloc (.cells a t)).drew w') :
    (∀ i, w'.cell? ⟨w.heap.size, i, none⟩ = a[i]?) ∧ (∀ i, w'.frozen? ⟨w.heap.size, i, none⟩ = false) :=
  ⟨fun i => (h.cell (p := ⟨w.heap.size, i, none⟩) (by simp)).trans (by simp), fun i => (h.frozen (p := ⟨w.heap.size, i, none⟩) (by simp)).trans (by simp)⟩

/-- The sides so far. -/
def sofar (r : Nat → Ev.Sd) : Nat → Array Value
  | 0 => #[.int .i64 0, .int .i64 0, .int .i64 0, .int .i64 0, .int .i64 0, .int .i64 0, .int .i64 0, .int .i64 0, .int .i64 0, .int .i64 0, .int .i64 0, .int .i64 0, .string ⟨#[]⟩, .slice none 0 0]
  | 1 => #[.int .i64 (r 0).how, .int .i64 (r 0).lo, .int .i64 (r 0).hi, .int .i64 0, .int .i64 0, .int .i64 0, .int .i64 0, .int .i64 0, .int .i64 0, .int .i64 0, .int .i64 0, .int .i64 0, .string ⟨#[]⟩, .slice none 0 0]
  | 2 => #[.int .i64 (r 0).how, .int .i64 (r 0).lo, .int .i64 (r 0).hi, .int .i64 (r 1).how, .int .i64 (r 1).lo, .int .i64 (r 1).hi, .int .i64 0, .int .i64 0, .int .i64 0, .int .i64 0, .int .i64 0, .int .i64 0, .string ⟨#[]⟩, .slice none 0 0]
  | 3 => #[.int .i64 (r 0).how, .int .i64 (r 0).lo, .int .i64 (r 0).hi, .int .i64 (r 1).how, .int .i64 (r 1).lo, .int .i64 (r 1).hi, .int .i64 (r 2).how, .int .i64 (r 2).lo, .int .i64 (r 2).hi, .int .i64 0, .int .i64 0, .int .i64 0, .string ⟨#[]⟩, .slice none 0 0]
  | _ => #[.int .i64 (r 0).how, .int .i64 (r 0).lo, .int .i64 (r 0).hi, .int .i64 (r 1).how, .int .i64 (r 1).lo, .int .i64 (r 1).hi, .int .i64 (r 2).how, .int .i64 (r 2).lo, .int .i64 (r 2).hi, .int .i64 (r 3).how, .int .i64 (r 3).lo, .int .i64 (r 3).hi, .string ⟨#[]⟩, .slice none 0 0]

theorem sofar_step (r : Nat → Ev.Sd) (k : Nat) (h : k < 4) : (((sofar r k).setIfInBounds (k * 3) (.int .i64 (r k).how)).setIfInBounds (k * 3 + 1) (.int .i64 (r k).lo)).setIfInBounds (k * 3 + 2) (.int .i64 (r k).hi) = sofar r (k + 1) := by
  have hc : k = 0 ∨ k = 1 ∨ k = 2 ∨ k = 3 := by omega
  rcases hc with rfl | rfl | rfl | rfl <;> rfl

theorem sofar_zero (r : Nat → Ev.Sd) (k : Nat) (h : k < 4) : (sofar r k)[k * 3]? = some (.int .i64 0) ∧ (sofar r k)[k * 3 + 1]? = some (.int .i64 0) ∧ (sofar r k)[k * 3 + 2]? = some (.int .i64 0) := by
  have hc : k = 0 ∨ k = 1 ∨ k = 2 ∨ k = 3 := by omega
  rcases hc with rfl | rfl | rfl | rfl <;> exact ⟨rfl, rfl, rfl⟩

theorem side_at (p : Nat → Ev.Sd) (t : Value) (s : Value) (k : Nat) (h : k < 4) :
    let a : Array Value := #[.int .i64 (p 0).how, .int .i64 (p 0).lo, .int .i64 (p 0).hi, .int .i64 (p 1).how, .int .i64 (p 1).lo, .int .i64 (p 1).hi, .int .i64 (p 2).how, .int .i64 (p 2).lo, .int .i64 (p 2).hi, .int .i64 (p 3).how, .int .i64 (p 3).lo, .int .i64 (p 3).hi, t, s]
    a[k * 3]? = some (.int .i64 (p k).how) ∧ a[k * 3 + 1]? = some (.int .i64 (p k).lo) ∧ a[k * 3 + 2]? = some (.int .i64 (p k).hi) := by
  have hc : k = 0 ∨ k = 1 ∨ k = 2 ∨ k = 3 := by omega
  rcases hc with rfl | rfl | rfl | rfl <;> exact ⟨rfl, rfl, rfl⟩

theorem set_block {w : World} {b o : Nat} {c : Array Value} {t : TypeId} {f : Nat × Nat} (h : w.heap[b]? = some (.cells c t f)) (v : Value) : (w.setCell ⟨b, o, none⟩ v).heap[b]? = some (.cells (c.setIfInBounds o v) t f) := by
  rw [Go.Sort.setCell_eq]
  simp [Go.Sort.mapBlock, Array.getElem?_modify, h, Go.Sort.onCells]

theorem set_far {w : World} {b b' o : Nat} (h : b' ≠ b) (v : Value) : (w.setCell ⟨b', o, none⟩ v).heap[b]? = w.heap[b]? := Below.heap_setCell _ _ _ _ (fun e => h e.symm)

theorem three_old {w w1 : World} (h : Below w.drew.heap.size w.drew w1) (a : Array Value) : Below w.heap.size w (w1.alloc (.cells a 36)) :=
  (Below.trans (b := w.drew) (Below.refl _ w).drew h).alloc h.size _

theorem three_new {w w1 : World} {o : Obj} (h : Below (w.alloc o).drew.heap.size (w.alloc o).drew w1) (x y z : Value) :
    Below w.heap.size w (((w1.setCell ⟨w.heap.size, 0, none⟩ x).setCell ⟨w.heap.size, 1, none⟩ y).setCell ⟨w.heap.size, 2, none⟩ z) := by
  have h1 : Below w.heap.size w w1 := (((Below.refl _ w).alloc (Nat.le_refl _) o).drew).trans (h.mono (by simp))
  exact ((h1.setCell (Nat.le_refl _) _).setCell (Nat.le_refl _) _).setCell (Nat.le_refl _) _

theorem three_cells {w1 : World} {n : Nat} {x y z : Value} {a b c : Value} (h0 : w1.cell? ⟨n, 0, none⟩ = some a) (h1 : w1.cell? ⟨n, 1, none⟩ = some b) (h2 : w1.cell? ⟨n, 2, none⟩ = some c) :
    let V := ((w1.setCell ⟨n, 0, none⟩ x).setCell ⟨n, 1, none⟩ y).setCell ⟨n, 2, none⟩ z
    V.cell? ⟨n, 0, none⟩ = some x ∧ V.cell? ⟨n, 1, none⟩ = some y ∧ V.cell? ⟨n, 2, none⟩ = some z := by
  intro V
  refine ⟨?_, ?_, ?_⟩
  · rw [World.cell?_setCell_other _ _ _ _ (by simp), World.cell?_setCell_other _ _ _ _ (by simp)]
    exact World.cell?_setCell_same _ _ _ h0
  · rw [World.cell?_setCell_other _ _ _ _ (by simp)]
    exact World.cell?_setCell_same _ _ _ (u := b) (by rw [World.cell?_setCell_other _ _ _ _ (by simp)]; exact h1)
  · exact World.cell?_setCell_same _ _ _ (u := c) (by rw [World.cell?_setCell_other _ _ _ _ (by simp), World.cell?_setCell_other _ _ _ _ (by simp)]; exact h2)

theorem cells_of {w : World} {b : Nat} {c : Array Value} {t : TypeId} (h : w.heap[b]? = some (.cells c t (0, 0))) : (∀ o, w.cell? ⟨b, o, none⟩ = c[o]?) ∧ ∀ o, w.frozen? ⟨b, o, none⟩ = false :=
  ⟨fun o => by simp [World.cell?, h], fun o => by simp [World.frozen?, h]⟩

theorem heap_at (w : World) (o : Obj) {n : Nat} (h : n = w.heap.size) : (w.alloc o).heap[n]? = some o := by subst h; exact heap_alloc_new _ _
theorem heap_old (w : World) (o : Obj) {n : Nat} (h : n < w.heap.size) : (w.alloc o).heap[n]? = w.heap[n]? := Below.heap_alloc _ _ _ h

/-- What is told where there is none. -/
def Zbox : Value := .agg #[.int .i64 0, .int .i64 0, .int .i64 0, .int .i64 0, .int .i64 0, .int .i64 0, .int .i64 0, .int .i64 0, .int .i64 0, .int .i64 0, .int .i64 0, .int .i64 0, .string ⟨#[]⟩, .slice none 0 0]

set_option maxRecDepth 100000 in
set_option maxHeartbeats 16000000 in
theorem meet_any (p q r : Nat → Ev.Sd) (kk : Nat → Bool) (kt ka good : Bool) (HG : Hid (good = (kk 0 && (kk 1 && (kk 2 && (kk 3 && (kt && !ka))))))) (ta tb tg : ByteArray) (ao bo : Option Addr) (na ca nb cb : Nat) (rl : List (List UInt8)) (w : World)
    (c : ∀ k, k < 4 → ∀ w', Calls Try.prog 69 #[Sval (p k), Sval (q k)] w' fun e w'' => e = .returned (.tuple #[Sval (r k), .bool (kk k)]) ∧ Below w'.heap.size w' w'')
    (cT : ∀ w', Calls Try.prog 70 #[.string ta, .string tb] w' fun e w'' => e = .returned (.tuple #[.string tg, .bool kt]) ∧ w'' = w')
    (cN : ∀ w', Below w.heap.size w w' → Calls Try.prog 71 #[.slice ao na ca, .slice bo nb cb] w' fun e w'' => ∃ o cap, e = .returned (.slice o rl.length cap) ∧ Nt w'.heap.size w'' o cap rl ∧ Below w'.heap.size w' w'')
    (cO : ∀ w' o cap, Txts Any w' o rl → Calls Try.prog 72 #[.string tg, .slice o rl.length cap] w' fun e w'' => e = .returned (.bool ka) ∧ Below w'.heap.size w' w'')
    (cC : ∀ w', Calls Try.prog 62 #[.string tg] w' fun e w'' => e = .returned (.string tg) ∧ Below w'.heap.size w' w'') :
    Calls Try.prog 66 #[.agg #[.int .i64 (p 0).how, .int .i64 (p 0).lo, .int .i64 (p 0).hi, .int .i64 (p 1).how, .int .i64 (p 1).lo, .int .i64 (p 1).hi, .int .i64 (p 2).how, .int .i64 (p 2).lo, .int .i64 (p 2).hi, .int .i64 (p 3).how, .int .i64 (p 3).lo, .int .i64 (p 3).hi, .string ta, .slice ao na ca], .agg #[.int .i64 (q 0).how, .int .i64 (q 0).lo, .int .i64 (q 0).hi, .int .i64 (q 1).how, .int .i64 (q 1).lo, .int .i64 (q 1).hi, .int .i64 (q 2).how, .int .i64 (q 2).lo, .int .i64 (q 2).hi, .int .i64 (q 3).how, .int .i64 (q 3).lo, .int .i64 (q 3).hi, .string tb, .slice bo nb cb]] w fun e w' => Below w.heap.size w w' ∧ ((good = false ∧ e = .returned (.tuple #[Zbox, .bool false])) ∨
      (good = true ∧ ∃ o cap, e = .returned (.tuple #[.agg #[.int .i64 (r 0).how, .int .i64 (r 0).lo, .int .i64 (r 0).hi, .int .i64 (r 1).how, .int .i64 (r 1).lo, .int .i64 (r 1).hi, .int .i64 (r 2).how, .int .i64 (r 2).lo, .int .i64 (r 2).hi, .int .i64 (r 3).how, .int .i64 (r 3).lo, .int .i64 (r 3).hi, .string tg, .slice o rl.length cap], .bool true]) ∧ Nt w.heap.size w' o cap rl)) := by
  unfold Sval at c
  unfold Zbox
  go_enter Try.func66, Try.ntmps66
  go_wp2_with fail
  obtain ⟨W, hW⟩ : ∃ W, W = (((w.alloc (.cells #[.int .i64 (p 0).how, .int .i64 (p 0).lo, .int .i64 (p 0).hi, .int .i64 (p 1).how, .int .i64 (p 1).lo, .int .i64 (p 1).hi, .int .i64 (p 2).how, .int .i64 (p 2).lo, .int .i64 (p 2).hi, .int .i64 (p 3).how, .int .i64 (p 3).lo, .int .i64 (p 3).hi, .string ta, .slice ao na ca] 40)).alloc (.cells #[.int .i64 (q 0).how, .int .i64 (q 0).lo, .int .i64 (q 0).hi, .int .i64 (q 1).how, .int .i64 (q 1).lo, .int .i64 (q 1).hi, .int .i64 (q 2).how, .int .i64 (q 2).lo, .int .i64 (q 2).hi, .int .i64 (q 3).how, .int .i64 (q 3).lo, .int .i64 (q 3).hi, .string tb, .slice bo nb cb] 40)).alloc (.cells #[.int .i64 0, .int .i64 0, .int .i64 0, .int .i64 0, .int .i64 0, .int .i64 0, .int .i64 0, .int .i64 0, .int .i64 0, .int .i64 0, .int .i64 0, .int .i64 0, .string ⟨#[]⟩, .slice none 0 0] 40)).alloc (.cells #[.int .i64 0, .int .i64 0, .int .i64 0, .int .i64 0, .int .i64 0, .int .i64 0, .int .i64 0, .int .i64 0, .int .i64 0, .int .i64 0, .int .i64 0, .int .i64 0, .string ⟨#[]⟩, .slice none 0 0] 40) := ⟨_, rfl⟩
  rw [← hW]
  have e3 : W.heap[w.heap.size + 1 + 1 + 1]? = some (.cells (sofar r 0) 40 (0, 0)) := by rw [hW]; exact heap_at _ _ (by simp)
  have e2 : W.heap[w.heap.size + 1 + 1]? = some (.cells #[.int .i64 0, .int .i64 0, .int .i64 0, .int .i64 0, .int .i64 0, .int .i64 0, .int .i64 0, .int .i64 0, .int .i64 0, .int .i64 0, .int .i64 0, .int .i64 0, .string ⟨#[]⟩, .slice none 0 0] 40 (0, 0)) := by rw [hW, heap_old _ _ (by simp)]; exact heap_at _ _ (by simp)
  have e1 : W.heap[w.heap.size + 1]? = some (.cells #[.int .i64 (q 0).how, .int .i64 (q 0).lo, .int .i64 (q 0).hi, .int .i64 (q 1).how, .int .i64 (q 1).lo, .int .i64 (q 1).hi, .int .i64 (q 2).how, .int .i64 (q 2).lo, .int .i64 (q 2).hi, .int .i64 (q 3).how, .int .i64 (q 3).lo, .int .i64 (q 3).hi, .string tb, .slice bo nb cb] 40 (0, 0)) := by rw [hW, heap_old _ _ (by simp <;> omega), heap_old _ _ (by simp)]; exact heap_at _ _ (by simp)
  have e0 : W.heap[w.heap.size]? = some (.cells #[.int .i64 (p 0).how, .int .i64 (p 0).lo, .int .i64 (p 0).hi, .int .i64 (p 1).how, .int .i64 (p 1).lo, .int .i64 (p 1).hi, .int .i64 (p 2).how, .int .i64 (p 2).lo, .int .i64 (p 2).hi, .int .i64 (p 3).how, .int .i64 (p 3).lo, .int .i64 (p 3).hi, .string ta, .slice ao na ca] 40 (0, 0)) := by rw [hW, heap_old _ _ (by simp <;> omega), heap_old _ _ (by simp <;> omega), heap_old _ _ (by simp)]; exact heap_at _ _ (by simp)
  have hs : w.heap.size + 1 + 1 + 1 < W.heap.size := by rw [hW]; simp
  have hbW : Below w.heap.size w W := by rw [hW]; exact ((((Below.refl _ _).alloc (Nat.le_refl _) _).alloc (by simp) _).alloc (by simp <;> omega) _).alloc (by simp <;> omega) _
  clear hW
  go_loopw [13] (fun i wr => ∃ k : Nat, k ≤ 4 ∧ i = .int .i64 k ∧ Hid (∀ j, j < k → kk j = true) ∧ wr.heap[w.heap.size + 1 + 1 + 1]? = some (.cells (sofar r k) 40 (0, 0)) ∧ Below (w.heap.size + 1 + 1 + 1) W wr) (fun i _ => 4 - (intOf i).toNat)
  case atStart => exact ⟨0, by omega, rfl, fun j h => by omega, e3, Below.refl _ _⟩
  case round =>
    obtain ⟨k, hk, rfl, H, E3, hbel⟩ := hrel
    have hsr := hbel.size
    have m0 : w.heap.size < wr.heap.size := by omega
    have m1 : w.heap.size + 1 < wr.heap.size := by omega
    have m2 : w.heap.size + 1 + 1 < wr.heap.size := by omega
    have m3 : w.heap.size + 1 + 1 + 1 < wr.heap.size := by omega
    have E0 := (hbel.block (w.heap.size) (by omega)).trans e0
    have E1 := (hbel.block (w.heap.size + 1) (by omega)).trans e1
    have E2 := (hbel.block (w.heap.size + 1 + 1) (by omega)).trans e2
    have HB : Hid (Below w.heap.size w W) := hbW
    clear e0 e1 e2 e3 hbW
    by_cases hk4 : k < 4

    · have cc := c k hk4
      clear c cT cN cO cC
      obtain ⟨C0, _⟩ := cells_of E0
      obtain ⟨C1, _⟩ := cells_of E1
      obtain ⟨ph, pl, pu, hp⟩ : ∃ ph pl pu, p k = ⟨ph, pl, pu⟩ := ⟨_, _, _, rfl⟩
      obtain ⟨qh, ql, qu, hq⟩ : ∃ qh ql qu, q k = ⟨qh, ql, qu⟩ := ⟨_, _, _, rfl⟩
      obtain ⟨rh, rl0, ru, hr⟩ : ∃ rh rl0 ru, r k = ⟨rh, rl0, ru⟩ := ⟨_, _, _, rfl⟩
      obtain ⟨a0, a1, a2⟩ := side_at p (.string ta) (.slice ao na ca) k hk4
      obtain ⟨b0, b1, b2⟩ := side_at q (.string tb) (.slice bo nb cb) k hk4
      have A0 := (C0 _).trans a0
      have A1 := (C0 _).trans a1
      have A2 := (C0 _).trans a2
      have B0 := (C1 _).trans b0
      have B1 := (C1 _).trans b1
      have B2 := (C1 _).trans b2
      rw [hp] at A0 A1 A2 cc
      rw [hq] at B0 B1 B2 cc
      rw [hr] at cc
      simp only at A0 A1 A2 B0 B1 B2 cc
      have HR : Hid (r k = ⟨rh, rl0, ru⟩) := hr
      clear a0 a1 a2 b0 b1 b2 C0 C1 hp hq hr E0 E1
      obtain ⟨kb, hkb⟩ : ∃ kb, kk k = kb := ⟨_, rfl⟩
      rw [hkb] at cc
      have HK : Hid (kk k = kb) := hkb
      clear hkb
      have hki : (k : Int) < 4 := by omega
      have n0 : wr.heap.size ≠ w.heap.size := by omega
      have n1 : wr.heap.size ≠ w.heap.size + 1 := by omega
      have n2 : wr.heap.size ≠ w.heap.size + 1 + 1 := by omega
      have n3 : wr.heap.size ≠ w.heap.size + 1 + 1 + 1 := by omega
      cases kb with
      | true =>
        go_wp2_with fail
        go_region_held3 (fun w' => w'.cell? ⟨w.heap.size, k * 3, none⟩ = some (.int .i64 ph) ∧ w'.cell? ⟨w.heap.size, k * 3 + 1, none⟩ = some (.int .i64 pl) ∧ w'.cell? ⟨w.heap.size, k * 3 + 2, none⟩ = some (.int .i64 pu) ∧ w'.cell? ⟨w.heap.size + 1, k * 3, none⟩ = some (.int .i64 qh) ∧ w'.cell? ⟨w.heap.size + 1, k * 3 + 1, none⟩ = some (.int .i64 ql) ∧ w'.cell? ⟨w.heap.size + 1, k * 3 + 2, none⟩ = some (.int .i64 qu))
          (go_keep)
          (first
            | (go_at_call 69; refine (cc (wr.alloc (.cells #[.int .i64 0, .int .i64 0, .int .i64 0] 36)).drew).mono ?_; rintro e w1 ⟨rfl, hb1⟩; obtain ⟨hcl, hfl, z1⟩ := callee_new hb1; obtain ⟨hn1, hf1⟩ := callee_own hb1)
            | (go_at_call 69; refine (cc wr.drew).mono ?_; rintro e w1 ⟨rfl, hb1⟩; obtain ⟨hcl, hfl, z1⟩ := callee_old hb1; have o0 := callee_ne z1 m0; have o1 := callee_ne z1 m1; have o2 := callee_ne z1 m2; have o3 := callee_ne z1 m3))
        · obtain ⟨V, hV⟩ : ∃ V, V = w1.alloc (.cells #[.int .i64 rh, .int .i64 rl0, .int .i64 ru] 36) := ⟨_, rfl⟩
          rw [← hV]
          have hbV : Below wr.heap.size wr V := by rw [hV]; exact three_old hb1 _
          have x0 : V.cell? ⟨w1.heap.size, 0, none⟩ = some (.int .i64 rh) := by rw [hV]; simp
          have x1 : V.cell? ⟨w1.heap.size, 1, none⟩ = some (.int .i64 rl0) := by rw [hV]; simp
          have x2 : V.cell? ⟨w1.heap.size, 2, none⟩ = some (.int .i64 ru) := by rw [hV]; simp
          have HV : Hid (Below wr.heap.size wr V) := hbV
          have G3 := (hbV.block _ m3).trans E3
          have G2 := (hbV.block _ m2).trans E2
          obtain ⟨C2, F2⟩ := cells_of G2
          obtain ⟨C3, F3⟩ := cells_of G3
          clear hV hb1 hcl hfl z1 hbV o0 o1 o2 o3
          clear C2 F2 G2
          have y0 : V.cell? ⟨w.heap.size + 1 + 1 + 1, k * 3, none⟩ = some (.int .i64 0) := (C3 _).trans (sofar_zero r k hk4).1
          have y1 : V.cell? ⟨w.heap.size + 1 + 1 + 1, k * 3 + 1, none⟩ = some (.int .i64 0) := (C3 _).trans (sofar_zero r k hk4).2.1
          have y2 : V.cell? ⟨w.heap.size + 1 + 1 + 1, k * 3 + 2, none⟩ = some (.int .i64 0) := (C3 _).trans (sofar_zero r k hk4).2.2
          have GG : Hid (V.heap[w.heap.size + 1 + 1 + 1]? = some (.cells (sofar r k) 40 (0, 0))) := G3
          clear G3 C3
          go_wp2
          go_roundw
          case rel =>
            refine ⟨k + 1, by omega, by go_num, (fun j hj => ?_), ?_, ?_⟩
            · by_cases e : j = k
              · subst e; exact HK.out
              · exact H.out j (by omega)
            · refine (set_block (set_block (set_block GG.out _) _) _).trans ?_
              have e := sofar_step r k hk4
              rw [HR.out] at e
              rw [e]
            · exact ((hbel.trans (HV.out.mono (by omega))).setCell (Nat.le_refl _) _ |>.setCell (Nat.le_refl _) _).setCell (Nat.le_refl _) _
          case measure => simp [intOf]; omega
        · obtain ⟨V, hV⟩ : ∃ V, V = ((w1.setCell ⟨wr.heap.size, 0, none⟩ (.int .i64 rh)).setCell ⟨wr.heap.size, 1, none⟩ (.int .i64 rl0)).setCell ⟨wr.heap.size, 2, none⟩ (.int .i64 ru) := ⟨_, rfl⟩
          rw [← hV]
          have hbV : Below wr.heap.size wr V := by rw [hV]; exact three_new hb1 _ _ _
          have x := three_cells (x := (.int .i64 rh)) (y := (.int .i64 rl0)) (z := (.int .i64 ru)) (hn1 0) (hn1 1) (hn1 2)
          simp only at x
          rw [← hV] at x
          obtain ⟨x0, x1, x2⟩ := x
          have HV : Hid (Below wr.heap.size wr V) := hbV
          have G3 := (hbV.block _ m3).trans E3
          have G2 := (hbV.block _ m2).trans E2
          obtain ⟨C2, F2⟩ := cells_of G2
          obtain ⟨C3, F3⟩ := cells_of G3
          clear hV hb1 hcl hfl z1 hbV hn1 hf1
          clear C2 F2 G2
          have y0 : V.cell? ⟨w.heap.size + 1 + 1 + 1, k * 3, none⟩ = some (.int .i64 0) := (C3 _).trans (sofar_zero r k hk4).1
          have y1 : V.cell? ⟨w.heap.size + 1 + 1 + 1, k * 3 + 1, none⟩ = some (.int .i64 0) := (C3 _).trans (sofar_zero r k hk4).2.1
          have y2 : V.cell? ⟨w.heap.size + 1 + 1 + 1, k * 3 + 2, none⟩ = some (.int .i64 0) := (C3 _).trans (sofar_zero r k hk4).2.2
          have GG : Hid (V.heap[w.heap.size + 1 + 1 + 1]? = some (.cells (sofar r k) 40 (0, 0))) := G3
          clear G3 C3
          go_wp2
          go_roundw
          case rel =>
            refine ⟨k + 1, by omega, by go_num, (fun j hj => ?_), ?_, ?_⟩
            · by_cases e : j = k
              · subst e; exact HK.out
              · exact H.out j (by omega)
            · refine (set_block (set_block (set_block GG.out _) _) _).trans ?_
              have e := sofar_step r k hk4
              rw [HR.out] at e
              rw [e]
            · exact ((hbel.trans (HV.out.mono (by omega))).setCell (Nat.le_refl _) _ |>.setCell (Nat.le_refl _) _).setCell (Nat.le_refl _) _
          case measure => simp [intOf]; omega
      | false =>
        go_wp2_with fail
        go_region_held3 (fun w' => w'.cell? ⟨w.heap.size, k * 3, none⟩ = some (.int .i64 ph) ∧ w'.cell? ⟨w.heap.size, k * 3 + 1, none⟩ = some (.int .i64 pl) ∧ w'.cell? ⟨w.heap.size, k * 3 + 2, none⟩ = some (.int .i64 pu) ∧ w'.cell? ⟨w.heap.size + 1, k * 3, none⟩ = some (.int .i64 qh) ∧ w'.cell? ⟨w.heap.size + 1, k * 3 + 1, none⟩ = some (.int .i64 ql) ∧ w'.cell? ⟨w.heap.size + 1, k * 3 + 2, none⟩ = some (.int .i64 qu))
          (go_keep)
          (first
            | (go_at_call 69; refine (cc (wr.alloc (.cells #[.int .i64 0, .int .i64 0, .int .i64 0] 36)).drew).mono ?_; rintro e w1 ⟨rfl, hb1⟩; obtain ⟨hcl, hfl, z1⟩ := callee_new hb1; obtain ⟨hn1, hf1⟩ := callee_own hb1)
            | (go_at_call 69; refine (cc wr.drew).mono ?_; rintro e w1 ⟨rfl, hb1⟩; obtain ⟨hcl, hfl, z1⟩ := callee_old hb1; have o0 := callee_ne z1 m0; have o1 := callee_ne z1 m1; have o2 := callee_ne z1 m2; have o3 := callee_ne z1 m3))
        · obtain ⟨V, hV⟩ : ∃ V, V = w1.alloc (.cells #[.int .i64 rh, .int .i64 rl0, .int .i64 ru] 36) := ⟨_, rfl⟩
          rw [← hV]
          have hbV : Below wr.heap.size wr V := by rw [hV]; exact three_old hb1 _
          have x0 : V.cell? ⟨w1.heap.size, 0, none⟩ = some (.int .i64 rh) := by rw [hV]; simp
          have x1 : V.cell? ⟨w1.heap.size, 1, none⟩ = some (.int .i64 rl0) := by rw [hV]; simp
          have x2 : V.cell? ⟨w1.heap.size, 2, none⟩ = some (.int .i64 ru) := by rw [hV]; simp
          have HV : Hid (Below wr.heap.size wr V) := hbV
          have G3 := (hbV.block _ m3).trans E3
          have G2 := (hbV.block _ m2).trans E2
          obtain ⟨C2, F2⟩ := cells_of G2
          obtain ⟨C3, F3⟩ := cells_of G3
          clear hV hb1 hcl hfl z1 hbV o0 o1 o2 o3
          clear C3 F3 G3 G2 x0 x1 x2
          go_wp2
          refine bodyPost_ret (v := .tuple #[.agg #[.int .i64 0, .int .i64 0, .int .i64 0, .int .i64 0, .int .i64 0, .int .i64 0, .int .i64 0, .int .i64 0, .int .i64 0, .int .i64 0, .int .i64 0, .int .i64 0, .string ⟨#[]⟩, .slice none 0 0], .bool false]) (by simp [results, Try.results66, go_sem, C2]) rfl ⟨?_, .inl ⟨?_, rfl⟩⟩
          · repeat (refine Below.setCell ?_ (by simp <;> omega) _)
            exact (HB.out.trans (hbel.mono (by omega))).trans (HV.out.mono (by omega))
          · rw [HG.out]
            have hc : k = 0 ∨ k = 1 ∨ k = 2 ∨ k = 3 := by omega
            have hf := HK.out
            rcases hc with rfl | rfl | rfl | rfl <;> rw [hf] <;> simp
        · obtain ⟨V, hV⟩ : ∃ V, V = ((w1.setCell ⟨wr.heap.size, 0, none⟩ (.int .i64 rh)).setCell ⟨wr.heap.size, 1, none⟩ (.int .i64 rl0)).setCell ⟨wr.heap.size, 2, none⟩ (.int .i64 ru) := ⟨_, rfl⟩
          rw [← hV]
          have hbV : Below wr.heap.size wr V := by rw [hV]; exact three_new hb1 _ _ _
          have x := three_cells (x := (.int .i64 rh)) (y := (.int .i64 rl0)) (z := (.int .i64 ru)) (hn1 0) (hn1 1) (hn1 2)
          simp only at x
          rw [← hV] at x
          obtain ⟨x0, x1, x2⟩ := x
          have HV : Hid (Below wr.heap.size wr V) := hbV
          have G3 := (hbV.block _ m3).trans E3
          have G2 := (hbV.block _ m2).trans E2
          obtain ⟨C2, F2⟩ := cells_of G2
          obtain ⟨C3, F3⟩ := cells_of G3
          clear hV hb1 hcl hfl z1 hbV hn1 hf1
          clear C3 F3 G3 G2 x0 x1 x2
          go_wp2
          refine bodyPost_ret (v := .tuple #[.agg #[.int .i64 0, .int .i64 0, .int .i64 0, .int .i64 0, .int .i64 0, .int .i64 0, .int .i64 0, .int .i64 0, .int .i64 0, .int .i64 0, .int .i64 0, .int .i64 0, .string ⟨#[]⟩, .slice none 0 0], .bool false]) (by simp [results, Try.results66, go_sem, C2]) rfl ⟨?_, .inl ⟨?_, rfl⟩⟩
          · repeat (refine Below.setCell ?_ (by simp <;> omega) _)
            exact (HB.out.trans (hbel.mono (by omega))).trans (HV.out.mono (by omega))
          · rw [HG.out]
            have hc : k = 0 ∨ k = 1 ∨ k = 2 ∨ k = 3 := by omega
            have hf := HK.out
            rcases hc with rfl | rfl | rfl | rfl <;> rw [hf] <;> simp
    · have tt := cT wr
      obtain rfl : k = 4 := by omega
      have hbr : Below w.heap.size w wr := HB.out.trans (hbel.mono (by omega))
      have tn := cN wr hbr
      have hgood : Hid (good = (kt && !ka)) := HG.out.trans (by rw [H.out 0 (by omega), H.out 1 (by omega), H.out 2 (by omega), H.out 3 (by omega)]; simp)
      obtain ⟨C0, _⟩ := cells_of E0
      obtain ⟨C1, _⟩ := cells_of E1
      clear c cT cN H HG HB E0 E1 hbel hs hk4
      go_wp2_with fail
      refine tt.mono ?_
      rintro e w1 ⟨rfl, rfl⟩
      go_wp2_with fail
      refine tn.mono ?_
      rintro e w2 ⟨o, cap, rfl, hnt, hb2⟩
      have hcl : ∀ b i, b < w1.heap.size → w2.cell? ⟨b, i, none⟩ = w1.cell? ⟨b, i, none⟩ := fun b i h => hb2.cell (p := ⟨b, i, none⟩) h
      have hbw2 : Below w.heap.size w w2 := hbr.trans (hb2.mono hbr.size)
      have G2 := (hb2.block _ m2).trans E2
      have G3 := (hb2.block _ m3).trans E3
      have l2 := hb2.size
      have hnt0 : Nt w.heap.size w2 o cap rl := hnt.mono hbr.size
      clear C0 C1 E2 E3 hcl hbr hnt hb2 tt tn
      cases kt with
      | false =>
        obtain ⟨C2, F2⟩ := cells_of G2
        clear G3 G2 cO cC
        go_wp2
        refine bodyPost_ret (v := .tuple #[.agg #[.int .i64 0, .int .i64 0, .int .i64 0, .int .i64 0, .int .i64 0, .int .i64 0, .int .i64 0, .int .i64 0, .int .i64 0, .int .i64 0, .int .i64 0, .int .i64 0, .string ⟨#[]⟩, .slice none 0 0], .bool false]) (by simp [results, Try.results66, go_sem, C2]) rfl ⟨?_, .inl ⟨by rw [hgood.out]; simp, rfl⟩⟩
        repeat (refine Below.setCell ?_ (by simp <;> omega) _)
        exact hbw2
      | true =>
        have to := cO w2 o cap hnt0.txts
        go_wp2_with fail
        refine to.mono ?_
        rintro e w3 ⟨rfl, hb3⟩
        have G2' := (hb3.block _ (by omega)).trans G2
        have G3' := (hb3.block _ (by omega)).trans G3
        have hbw3 : Below w.heap.size w w3 := hbw2.trans (hb3.mono (by omega))
        have l3 := hb3.size
        have hnt3 := hnt0.below hb3
        clear to cO G2 G3 hb3 hbw2 hnt0
        cases ka with
        | true =>
          obtain ⟨C2, F2⟩ := cells_of G2'
          clear G3' G2' cC
          go_wp2
          refine bodyPost_ret (v := .tuple #[.agg #[.int .i64 0, .int .i64 0, .int .i64 0, .int .i64 0, .int .i64 0, .int .i64 0, .int .i64 0, .int .i64 0, .int .i64 0, .int .i64 0, .int .i64 0, .int .i64 0, .string ⟨#[]⟩, .slice none 0 0], .bool false]) (by simp [results, Try.results66, go_sem, C2]) rfl ⟨?_, .inl ⟨by rw [hgood.out]; simp, rfl⟩⟩
          repeat (refine Below.setCell ?_ (by simp <;> omega) _)
          exact hbw3
        | false =>
          have tc := cC w3
          clear cC
          go_wp2_with fail
          refine tc.mono ?_
          rintro e w4 ⟨rfl, hb4⟩
          have G2'' := (hb4.block _ (by omega)).trans G2'
          have G3'' := (hb4.block _ (by omega)).trans G3'
          have hbw4 : Below w.heap.size w w4 := hbw3.trans (hb4.mono (by omega))
          have hnt4 := hnt3.below hb4
          obtain ⟨C2, F2⟩ := cells_of G2''
          obtain ⟨C3, F3⟩ := cells_of G3''
          simp only [sofar] at C3
          have HH : Hid (_ ∧ _) := ⟨G2'', G3''⟩
          clear tc G2' G3' hb4 hbw3 hnt3 G2'' G3''
          go_wp2
          refine bodyPost_ret (v := .tuple #[.agg #[.int .i64 (r 0).how, .int .i64 (r 0).lo, .int .i64 (r 0).hi, .int .i64 (r 1).how, .int .i64 (r 1).lo, .int .i64 (r 1).hi, .int .i64 (r 2).how, .int .i64 (r 2).lo, .int .i64 (r 2).hi, .int .i64 (r 3).how, .int .i64 (r 3).lo, .int .i64 (r 3).hi, .string tg, .slice o rl.length cap], .bool true]) (by simp [results, Try.results66, go_sem, C2]) rfl ⟨?_, .inr ⟨by rw [hgood.out]; rfl, o, cap, rfl, ?_⟩⟩
          · repeat (refine Below.setCell ?_ (by simp <;> omega) _)
            exact hbw4
          · refine hnt4.keep (fun b c _ hc => ?_)
            have h2 : w.heap.size + 1 + 1 ≠ b := by intro e; rw [← e, HH.out.1] at hc; simp at hc
            have h3 : w.heap.size + 1 + 1 + 1 ≠ b := by intro e; rw [← e, HH.out.2] at hc; simp at hc
            simp only [set_far h2, set_far h3]

end Go.Proofs.Ytflpdekifkcfkab
