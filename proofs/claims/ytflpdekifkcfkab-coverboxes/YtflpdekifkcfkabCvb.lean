/- cover.keepsOutAll, cover.Within: one box within another. -/
import Derived.Test.YtflpdekifkcfkabCva
import Derived.Test.YtflpdekifkcfkabMeetd
import Derived.Deep.RegionHeld3
import Derived.Deep.LoopGhost
namespace Go.Proofs.Ytflpdekifkcfkab
open Go.RowKit
set_option linter.unusedVariables false

/-- The first k are kept out. -/
def OutTo (x : Ev.Bx) (l : List (List UInt8)) (k : Nat) : Prop := ∀ j (hj : j < l.length), j < k → Ev.out x l[j] = true

theorem outTo_all {x : Ev.Bx} {l : List (List UInt8)} (h : OutTo x l l.length) : l.all (Ev.out x) = true := by
  rw [List.all_eq_true]
  intro n hn
  obtain ⟨j, hj, rfl⟩ := List.getElem_of_mem hn
  exact h j hj hj

theorem outTo_step {x : Ev.Bx} {l : List (List UInt8)} {k : Nat} (hk : k < l.length) (h : OutTo x l k) (e : Ev.out x l[k] = true) : OutTo x l (k + 1) := by
  intro j hj hlt
  by_cases ej : j = k
  · subst ej; exact e
  · exact h j hj (by omega)

theorem outTo_none {x : Ev.Bx} {l : List (List UInt8)} {k : Nat} (hk : k < l.length) (e : Ev.out x l[k] = false) : l.all (Ev.out x) = false := by
  rw [← Bool.not_eq_true, List.all_eq_true]
  intro h
  rw [h _ (List.getElem_mem hk)] at e; cases e

set_option maxRecDepth 100000 in
set_option maxHeartbeats 4000000 in
/-- cover.keepsOutAll. -/
theorem keeps_any (x : Ev.Bx) (ao bo : Option Addr) (ca cb n : Nat) (l : List (List UInt8)) (w : World) (hx : x.ok n) (hn : n ≤ 1000) (hl : l.length ≤ 1000) (hls : ∀ a ∈ l, a.length ≤ 1000) (ha : Txts Any w ao x.nots) (hb : Txts Any w bo l) :
    Calls Try.prog 26 #[.agg #[.int .i64 (x.s 0).how, .int .i64 (x.s 0).lo, .int .i64 (x.s 0).hi, .int .i64 (x.s 1).how, .int .i64 (x.s 1).lo, .int .i64 (x.s 1).hi, .int .i64 (x.s 2).how, .int .i64 (x.s 2).lo, .int .i64 (x.s 2).hi, .int .i64 (x.s 3).how, .int .i64 (x.s 3).lo, .int .i64 (x.s 3).hi, .string x.tag, .slice ao x.nots.length ca], .slice bo l.length cb] w fun e w' => e = .returned (.bool (l.all (Ev.out x))) ∧ Below w.heap.size w w' := by
  have htg := hx.2.1
  have HX : Hid (x.ok n ∧ n ≤ 1000 ∧ (∀ a ∈ l, a.length ≤ 1000) ∧ Txts Any w ao x.nots ∧ Txts Any w bo l) := ⟨hx, hn, hls, ha, hb⟩
  obtain ⟨r, hr⟩ : ∃ r, r = l.all (Ev.out x) := ⟨_, rfl⟩
  have HR : Hid (r = l.all (Ev.out x)) := hr
  rw [← hr]
  clear hx hn hls ha hb hr
  go_enter Try.func26, Try.ntmps26
  go_wp2_with fail
  obtain ⟨W, hW⟩ : ∃ W, W = w.alloc (.cells #[.int .i64 (x.s 0).how, .int .i64 (x.s 0).lo, .int .i64 (x.s 0).hi, .int .i64 (x.s 1).how, .int .i64 (x.s 1).lo, .int .i64 (x.s 1).hi, .int .i64 (x.s 2).how, .int .i64 (x.s 2).lo, .int .i64 (x.s 2).hi, .int .i64 (x.s 3).how, .int .i64 (x.s 3).lo, .int .i64 (x.s 3).hi, .string x.tag, .slice ao x.nots.length ca] 40) := ⟨_, rfl⟩
  rw [← hW]
  have hbW : Below w.heap.size w W := by rw [hW]; exact (Below.refl _ _).alloc (Nat.le_refl _) _
  have b12 : W.cell? ⟨w.heap.size, 12, none⟩ = some (.string x.tag) := by rw [hW]; simp
  have b13 : W.cell? ⟨w.heap.size, 13, none⟩ = some (.slice ao x.nots.length ca) := by rw [hW]; simp
  have hsW : w.heap.size < W.heap.size := by rw [hW]; simp
  have HB : Hid (Below w.heap.size w W) := hbW
  clear hW hbW
  go_loopg [9] l.length (fun g i wr => ∃ k : Nat, k ≤ l.length ∧ g = l.length - k ∧ i = .int .i64 k ∧ Hid (OutTo x l k) ∧ Hid (Below W.heap.size W wr))
  case atStart => exact ⟨0, by omega, rfl, rfl, fun j hj h => by omega, Below.refl _ _⟩
  case round =>
    obtain ⟨k, hk, hgk, rfl, HO, hbel⟩ := hrel
    have HGK : Hid (gk = l.length - k) := hgk
    clear hgk
    have hsr := hbel.out.size
    have c12 := (hbel.out.cell (p := ⟨w.heap.size, 12, none⟩) hsW).trans b12
    have c13 := (hbel.out.cell (p := ⟨w.heap.size, 13, none⟩) hsW).trans b13
    have m0 : w.heap.size < wr.heap.size := by omega
    clear b12 b13
    have HBr : Hid (Below w.heap.size w wr) := HB.out.trans (hbel.out.mono (by omega))
    by_cases hlt : k < l.length
    · have hki : (k : Int) < (l.length : Int) := by omega
      have hwr : Below w.heap.size w wr := HBr.out
      obtain ⟨b, rfl, _, hbl, hcell⟩ := (HX.out.2.2.2.2.below hwr) (by omega)
      have q := hcell k hlt
      have hsz : (Ev.bts l[k]).size ≤ 1000 := by rw [bts_size]; exact HX.out.2.2.1 _ (List.getElem_mem hlt)
      obtain ⟨sx, hsx⟩ : ∃ sx, sx = Ev.bts l[k] := ⟨_, rfl⟩
      rw [← hsx] at q hsz
      have hout : Ev.out x l[k] = (Ev.anyOf sx x.nots || Ev.apart sx x.tag) := by rw [hsx]; rfl
      have HOUT : Hid (Ev.out x l[k] = (Ev.anyOf sx x.nots || Ev.apart sx x.tag)) := hout
      have c1 := cone sx ao ca x.nots wr hsz (Nat.le_trans HX.out.1.2.2.1 HX.out.2.1) HX.out.1.2.2.2 (HX.out.2.2.2.1.below hwr)
      have c2 := fun w' => apart_any sx x.tag w' hsz htg
      clear hsx hcell hout hwr
      generalize Ev.anyOf sx x.nots = r1 at *
      generalize Ev.apart sx x.tag = r2 at *
      cases r1 with
      | true =>
        clear c2
        go_wp2_with fail
        refine c1.mono ?_
        rintro e w1 ⟨rfl, hb1⟩
        clear c1
        go_wp2
        go_roundg (l.length - (k + 1))
        case measure => have := HGK.out; omega
        case rel => exact ⟨k + 1, by omega, rfl, by go_num, outTo_step hlt HO.out (HOUT.out.trans rfl), hbel.out.trans (hb1.mono hsr)⟩
      | false =>
        go_wp2_with fail
        refine c1.mono ?_
        rintro e w1 ⟨rfl, hb1⟩
        have hs1 := hb1.size
        have d12 := (hb1.cell (p := ⟨w.heap.size, 12, none⟩) m0).trans c12
        have m1 : w.heap.size < w1.heap.size := by omega
        have Hb1 : Hid (Below wr.heap.size wr w1) := hb1
        clear c1 c12 c13 hb1
        cases r2 with
        | true =>
          go_wp2_with fail
          refine (c2 _).mono ?_
          rintro e w2 ⟨rfl, rfl⟩
          clear c2
          go_wp2
          go_roundg (l.length - (k + 1))
          case measure => have := HGK.out; omega
          case rel => exact ⟨k + 1, by omega, rfl, by go_num, outTo_step hlt HO.out (HOUT.out.trans rfl), hbel.out.trans (Hb1.out.mono hsr)⟩
        | false =>
          go_wp2_with fail
          refine (c2 _).mono ?_
          rintro e w2 ⟨rfl, rfl⟩
          clear c2
          go_wp2
          go_ret
          exact ⟨by rw [HR.out, outTo_none hlt (HOUT.out.trans rfl)]; rfl, HBr.out.trans (Hb1.out.mono (by omega))⟩
    · obtain rfl : k = l.length := by omega
      clear hk hlt
      go_wp2
      go_ret
      exact ⟨by rw [HR.out, outTo_all HO.out]; rfl, HBr.out⟩

theorem sides_none {x y : Ev.Bx} {k : Nat} (h : k < 4) (e : Ev.withinS (x.s k) (y.s k) = false) : Ev.within x y = false := by
  have hc : k = 0 ∨ k = 1 ∨ k = 2 ∨ k = 3 := by omega
  unfold Ev.within Ev.sides
  rcases hc with rfl | rfl | rfl | rfl <;> rw [e] <;> simp

theorem Try.keys4 (h0 l0 u0 h1 l1 u1 h2 l2 u2 h3 l3 u3 : Int) (w : World) :
    (Instr.index 37 (.agg #[.int .i64 h0, .int .i64 l0, .int .i64 u0, .int .i64 h1, .int .i64 l1, .int .i64 u1, .int .i64 h2, .int .i64 l2, .int .i64 u2, .int .i64 h3, .int .i64 l3, .int .i64 u3]) (.int .i64 0)).run Try.prog w = .ok (.agg #[.int .i64 h0, .int .i64 l0, .int .i64 u0]) w ∧
    (Instr.index 37 (.agg #[.int .i64 h0, .int .i64 l0, .int .i64 u0, .int .i64 h1, .int .i64 l1, .int .i64 u1, .int .i64 h2, .int .i64 l2, .int .i64 u2, .int .i64 h3, .int .i64 l3, .int .i64 u3]) (.int .i64 1)).run Try.prog w = .ok (.agg #[.int .i64 h1, .int .i64 l1, .int .i64 u1]) w ∧
    (Instr.index 37 (.agg #[.int .i64 h0, .int .i64 l0, .int .i64 u0, .int .i64 h1, .int .i64 l1, .int .i64 u1, .int .i64 h2, .int .i64 l2, .int .i64 u2, .int .i64 h3, .int .i64 l3, .int .i64 u3]) (.int .i64 2)).run Try.prog w = .ok (.agg #[.int .i64 h2, .int .i64 l2, .int .i64 u2]) w ∧
    (Instr.index 37 (.agg #[.int .i64 h0, .int .i64 l0, .int .i64 u0, .int .i64 h1, .int .i64 l1, .int .i64 u1, .int .i64 h2, .int .i64 l2, .int .i64 u2, .int .i64 h3, .int .i64 l3, .int .i64 u3]) (.int .i64 3)).run Try.prog w = .ok (.agg #[.int .i64 h3, .int .i64 l3, .int .i64 u3]) w :=
  ⟨by kernel_rfl, by kernel_rfl, by kernel_rfl, by kernel_rfl⟩

theorem Try.keyAt (p : Nat → Ev.Sd) (k : Nat) (hk : k < 4) (w : World) :
    (Instr.index 37 (.agg #[.int .i64 (p 0).how, .int .i64 (p 0).lo, .int .i64 (p 0).hi, .int .i64 (p 1).how, .int .i64 (p 1).lo, .int .i64 (p 1).hi, .int .i64 (p 2).how, .int .i64 (p 2).lo, .int .i64 (p 2).hi, .int .i64 (p 3).how, .int .i64 (p 3).lo, .int .i64 (p 3).hi]) (.int .i64 k)).run Try.prog w = .ok (.agg #[.int .i64 (p k).how, .int .i64 (p k).lo, .int .i64 (p k).hi]) w := by
  have hc : k = 0 ∨ k = 1 ∨ k = 2 ∨ k = 3 := by omega
  obtain ⟨q0, q1, q2, q3⟩ := Try.keys4 (p 0).how (p 0).lo (p 0).hi (p 1).how (p 1).lo (p 1).hi (p 2).how (p 2).lo (p 2).hi (p 3).how (p 3).lo (p 3).hi w
  rcases hc with rfl | rfl | rfl | rfl
  · exact q0
  · exact q1
  · exact q2
  · exact q3

set_option maxRecDepth 100000 in
set_option maxHeartbeats 8000000 in
theorem within_any (x y : Ev.Bx) (ao bo : Option Addr) (ca cb n m : Nat) (w : World) (hx : x.ok n) (hy : y.ok m) (hn : n ≤ 1000) (hm : m ≤ 1000) (ha : Txts Any w ao x.nots) (hb : Txts Any w bo y.nots) :
    Calls Try.prog 14 #[.agg #[.int .i64 (x.s 0).how, .int .i64 (x.s 0).lo, .int .i64 (x.s 0).hi, .int .i64 (x.s 1).how, .int .i64 (x.s 1).lo, .int .i64 (x.s 1).hi, .int .i64 (x.s 2).how, .int .i64 (x.s 2).lo, .int .i64 (x.s 2).hi, .int .i64 (x.s 3).how, .int .i64 (x.s 3).lo, .int .i64 (x.s 3).hi, .string x.tag, .slice ao x.nots.length ca], .agg #[.int .i64 (y.s 0).how, .int .i64 (y.s 0).lo, .int .i64 (y.s 0).hi, .int .i64 (y.s 1).how, .int .i64 (y.s 1).lo, .int .i64 (y.s 1).hi, .int .i64 (y.s 2).how, .int .i64 (y.s 2).lo, .int .i64 (y.s 2).hi, .int .i64 (y.s 3).how, .int .i64 (y.s 3).lo, .int .i64 (y.s 3).hi, .string y.tag, .slice bo y.nots.length cb]] w fun e w' => e = .returned (.bool (Ev.within x y)) ∧ Below w.heap.size w w' := by
  have HX : Hid (x.ok n ∧ y.ok m ∧ n ≤ 1000 ∧ m ≤ 1000 ∧ Txts Any w ao x.nots ∧ Txts Any w bo y.nots) := ⟨hx, hy, hn, hm, ha, hb⟩
  have tx := hx.2.1
  have ty := hy.2.1
  obtain ⟨r, hr⟩ : ∃ r, r = Ev.within x y := ⟨_, rfl⟩
  have HR : Hid (r = Ev.within x y) := hr
  rw [← hr]
  clear hx hy hn hm ha hb hr
  go_enter Try.func14, Try.ntmps14
  go_wp2_with fail
  obtain ⟨W, hW⟩ : ∃ W, W = (w.alloc (.cells #[.int .i64 (x.s 0).how, .int .i64 (x.s 0).lo, .int .i64 (x.s 0).hi, .int .i64 (x.s 1).how, .int .i64 (x.s 1).lo, .int .i64 (x.s 1).hi, .int .i64 (x.s 2).how, .int .i64 (x.s 2).lo, .int .i64 (x.s 2).hi, .int .i64 (x.s 3).how, .int .i64 (x.s 3).lo, .int .i64 (x.s 3).hi, .string x.tag, .slice ao x.nots.length ca] 40)).alloc (.cells #[.int .i64 (y.s 0).how, .int .i64 (y.s 0).lo, .int .i64 (y.s 0).hi, .int .i64 (y.s 1).how, .int .i64 (y.s 1).lo, .int .i64 (y.s 1).hi, .int .i64 (y.s 2).how, .int .i64 (y.s 2).lo, .int .i64 (y.s 2).hi, .int .i64 (y.s 3).how, .int .i64 (y.s 3).lo, .int .i64 (y.s 3).hi, .string y.tag, .slice bo y.nots.length cb] 40) := ⟨_, rfl⟩
  rw [← hW]
  have e1 : W.heap[w.heap.size + 1]? = some (.cells #[.int .i64 (y.s 0).how, .int .i64 (y.s 0).lo, .int .i64 (y.s 0).hi, .int .i64 (y.s 1).how, .int .i64 (y.s 1).lo, .int .i64 (y.s 1).hi, .int .i64 (y.s 2).how, .int .i64 (y.s 2).lo, .int .i64 (y.s 2).hi, .int .i64 (y.s 3).how, .int .i64 (y.s 3).lo, .int .i64 (y.s 3).hi, .string y.tag, .slice bo y.nots.length cb] 40 (0, 0)) := by rw [hW]; exact heap_at _ _ (by simp)
  have e0 : W.heap[w.heap.size]? = some (.cells #[.int .i64 (x.s 0).how, .int .i64 (x.s 0).lo, .int .i64 (x.s 0).hi, .int .i64 (x.s 1).how, .int .i64 (x.s 1).lo, .int .i64 (x.s 1).hi, .int .i64 (x.s 2).how, .int .i64 (x.s 2).lo, .int .i64 (x.s 2).hi, .int .i64 (x.s 3).how, .int .i64 (x.s 3).lo, .int .i64 (x.s 3).hi, .string x.tag, .slice ao x.nots.length ca] 40 (0, 0)) := by rw [hW, heap_old _ _ (by simp)]; exact heap_at _ _ (by simp)
  have hs : w.heap.size + 1 < W.heap.size := by rw [hW]; simp
  have hbW : Below w.heap.size w W := by rw [hW]; exact ((Below.refl _ _).alloc (Nat.le_refl _) _).alloc (by simp) _
  have HB : Hid (Below w.heap.size w W) := hbW
  clear hW hbW
  go_loopg [9] 4 (fun g i wr => ∃ k : Nat, k ≤ 4 ∧ g = 4 - k ∧ i = .int .i64 k ∧ Hid (∀ j, j < k → Ev.withinS (x.s j) (y.s j) = true) ∧ Hid (Below W.heap.size W wr))
  case atStart => exact ⟨0, by omega, rfl, rfl, fun j h => by omega, Below.refl _ _⟩
  case round =>
    obtain ⟨k, hk, hgk, rfl, H, hbel⟩ := hrel
    have HGK : Hid (gk = 4 - k) := hgk
    clear hgk
    have hsr := hbel.out.size
    have m0 : w.heap.size < wr.heap.size := by omega
    have m1 : w.heap.size + 1 < wr.heap.size := by omega
    have E0 := (hbel.out.block (w.heap.size) (by omega)).trans e0
    have E1 := (hbel.out.block (w.heap.size + 1) (by omega)).trans e1
    clear e0 e1
    by_cases hk4 : k < 4
    · have hki : (k : Int) < 4 := by omega
      have ix := fun w => Try.keyAt x.s k hk4 w
      obtain ⟨C1, _⟩ := cells_of E1
      obtain ⟨a0, a1, a2⟩ := side_at y.s (.string y.tag) (.slice bo y.nots.length cb) k hk4
      have A0 := (C1 _).trans a0
      have A1 := (C1 _).trans a1
      have A2 := (C1 _).trans a2
      obtain ⟨ph, pl, pu, hp⟩ : ∃ ph pl pu, x.s k = ⟨ph, pl, pu⟩ := ⟨_, _, _, rfl⟩
      obtain ⟨qh, ql, qu, hq⟩ : ∃ qh ql qu, y.s k = ⟨qh, ql, qu⟩ := ⟨_, _, _, rfl⟩
      have okq := HX.out.2.1.1 k hk4
      rw [hq] at okq
      have c := fun w' => side_in ph pl pu qh ql qu w' okq
      obtain ⟨rk, hrk⟩ : ∃ rk, rk = Ev.withinS ⟨ph, pl, pu⟩ ⟨qh, ql, qu⟩ := ⟨_, rfl⟩
      have HRK : Hid (Ev.withinS (x.s k) (y.s k) = rk) := by rw [hp, hq]; exact hrk.symm
      rw [← hrk] at c
      rw [hp] at ix
      rw [hq] at A0 A1 A2
      simp only at ix A0 A1 A2
      clear a0 a1 a2 C1 E0 E1 hp hq okq hrk
      go_wp2_with fail
      obtain ⟨V, hV⟩ : ∃ V, V = wr.alloc (.cells #[.int .i64 ph, .int .i64 pl, .int .i64 pu] 36) := ⟨_, rfl⟩
      rw [← hV]
      have v0 : V.cell? ⟨wr.heap.size, 0, none⟩ = some (.int .i64 ph) := by rw [hV]; simp
      have v1 : V.cell? ⟨wr.heap.size, 1, none⟩ = some (.int .i64 pl) := by rw [hV]; simp
      have v2 : V.cell? ⟨wr.heap.size, 2, none⟩ = some (.int .i64 pu) := by rw [hV]; simp
      have hbV : Below wr.heap.size wr V := by rw [hV]; exact (Below.refl _ _).alloc (Nat.le_refl _) _
      have B0 := (hbV.cell (p := ⟨w.heap.size + 1, k * 3, none⟩) m1).trans A0
      have B1 := (hbV.cell (p := ⟨w.heap.size + 1, k * 3 + 1, none⟩) m1).trans A1
      have B2 := (hbV.cell (p := ⟨w.heap.size + 1, k * 3 + 2, none⟩) m1).trans A2
      have hsV : wr.heap.size < V.heap.size := by rw [hV]; simp
      have m1V : w.heap.size + 1 < V.heap.size := by omega
      have HV : Hid (Below wr.heap.size wr V) := hbV
      clear hV hbV A0 A1 A2 ix
      generalize wr.heap.size = NN at v0 v1 v2 hsV ⊢
      go_region_held3 (fun w' => w'.cell? ⟨NN, 0, none⟩ = some (.int .i64 ph) ∧ w'.cell? ⟨NN, 1, none⟩ = some (.int .i64 pl) ∧ w'.cell? ⟨NN, 2, none⟩ = some (.int .i64 pu) ∧ w'.cell? ⟨w.heap.size + 1, k * 3, none⟩ = some (.int .i64 qh) ∧ w'.cell? ⟨w.heap.size + 1, k * 3 + 1, none⟩ = some (.int .i64 ql) ∧ w'.cell? ⟨w.heap.size + 1, k * 3 + 2, none⟩ = some (.int .i64 qu))
        (go_keep)
        (first
          | (go_at_call 24; refine (c V.drew).mono ?_; rintro e w1 ⟨rfl, hb1⟩; obtain ⟨hcl, hfl, z1⟩ := callee_old hb1))
      have hb1' : Below V.heap.size V w1 := Below.trans (b := V.drew) (Below.refl _ V).drew hb1
      have HN : Hid (Below W.heap.size W w1) := hbel.out.trans ((HV.out.mono hsr).trans (hb1'.mono (Nat.le_trans hsr HV.out.size)))
      clear c hcl hfl z1 hb1 hb1' v0 v1 v2 B0 B1 B2
      cases rk with
      | true =>
        go_wp2
        go_roundg (4 - (k + 1))
        case measure => have := HGK.out; omega
        case rel =>
          refine ⟨k + 1, by omega, rfl, by go_num, fun j hj => ?_, HN.out⟩
          by_cases ej : j = k
          · rw [ej]; exact HRK.out
          · exact H.out j (by omega)
      | false =>
        go_wp2
        go_ret
        refine ⟨by rw [HR.out, sides_none hk4 HRK.out]; rfl, HB.out.trans (HN.out.mono HB.out.size)⟩
    · obtain rfl : k = 4 := by omega
      clear hk hk4
      have hr : r = (Ev.begins x.tag y.tag && y.nots.all (Ev.out x)) := by rw [HR.out]; unfold Ev.within Ev.sides; rw [H.out 0 (by omega), H.out 1 (by omega), H.out 2 (by omega), H.out 3 (by omega)]; rfl
      have HR' : Hid (r = (Ev.begins x.tag y.tag && y.nots.all (Ev.out x))) := hr
      have hwr : Below w.heap.size w wr := HB.out.trans (hbel.out.mono HB.out.size)
      have c1 := fun w' => prefix28 x.tag y.tag w' tx ty
      have c2 := keeps_any x ao bo ca cb n y.nots wr HX.out.1 HX.out.2.2.1 (Nat.le_trans HX.out.2.1.2.2.1 HX.out.2.2.2.1) HX.out.2.1.2.2.2 (HX.out.2.2.2.2.1.below hwr) (HX.out.2.2.2.2.2.below hwr)
      obtain ⟨C0, _⟩ := cells_of E0
      obtain ⟨C1, _⟩ := cells_of E1
      have HWR : Hid (Below w.heap.size w wr) := hwr
      clear hr H HGK E0 E1 hwr
      generalize Ev.begins x.tag y.tag = r1 at *
      generalize y.nots.all (Ev.out x) = r2 at *
      cases r1 with
      | false =>
        clear c2
        go_wp2_with fail
        refine (c1 _).mono ?_
        rintro e w1 ⟨rfl, rfl⟩
        go_wp2
        go_ret
        exact ⟨by rw [HR'.out]; rfl, HWR.out⟩
      | true =>
        go_wp2_with fail
        refine (c1 _).mono ?_
        rintro e w1 ⟨rfl, rfl⟩
        go_wp2_with fail
        refine c2.mono ?_
        rintro e w2 ⟨rfl, hb2⟩
        clear c1 c2 C0 C1
        go_wp2
        go_ret
        exact ⟨by rw [HR'.out]; simp, HWR.out.trans (hb2.mono HWR.out.size)⟩

/-- cover.Within. -/
theorem within14 (x y : Ev.Bx) (ao bo : Option Addr) (ca cb n m : Nat) (w : World) (hx : x.ok n) (hy : y.ok m) (hn : n ≤ 1000) (hm : m ≤ 1000) (ha : Txts Any w ao x.nots) (hb : Txts Any w bo y.nots) :
    Calls Try.prog 14 #[Bval x ao ca, Bval y bo cb] w fun e w' => e = .returned (.bool (Ev.within x y)) ∧ Below w.heap.size w w' :=
  within_any x y ao bo ca cb n m w hx hy hn hm ha hb

end Go.Proofs.Ytflpdekifkcfkab
