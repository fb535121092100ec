/- norm.Lets: what a box lets through. -/
import Derived.Test.YtflpdekifkcfkaaBval
import Derived.Test.YtflpdekifkcfkaaOne
namespace Go.Proofs.Ytflpdekifkcfkaa
open Go.RowKit
set_option linter.unusedVariables false

theorem Try.index45 (h0 l0 u0 h1 l1 u1 h2 l2 u2 h3 l3 u3 : Int) (w : World) :
    (Instr.index 45 (.agg #[.int .i64 h0, .int .i64 l0, .int .i64 u0, .int .i64 h1, .int .i64 l1, .int .i64 u1, .int .i64 h2, .int .i64 l2, .int .i64 u2, .int .i64 h3, .int .i64 l3, .int .i64 u3]) (.int .i64 0)).run Try.prog w = .ok (.agg #[.int .i64 h0, .int .i64 l0, .int .i64 u0]) w ∧
    (Instr.index 45 (.agg #[.int .i64 h0, .int .i64 l0, .int .i64 u0, .int .i64 h1, .int .i64 l1, .int .i64 u1, .int .i64 h2, .int .i64 l2, .int .i64 u2, .int .i64 h3, .int .i64 l3, .int .i64 u3]) (.int .i64 1)).run Try.prog w = .ok (.agg #[.int .i64 h1, .int .i64 l1, .int .i64 u1]) w ∧
    (Instr.index 45 (.agg #[.int .i64 h0, .int .i64 l0, .int .i64 u0, .int .i64 h1, .int .i64 l1, .int .i64 u1, .int .i64 h2, .int .i64 l2, .int .i64 u2, .int .i64 h3, .int .i64 l3, .int .i64 u3]) (.int .i64 2)).run Try.prog w = .ok (.agg #[.int .i64 h2, .int .i64 l2, .int .i64 u2]) w ∧
    (Instr.index 45 (.agg #[.int .i64 h0, .int .i64 l0, .int .i64 u0, .int .i64 h1, .int .i64 l1, .int .i64 u1, .int .i64 h2, .int .i64 l2, .int .i64 u2, .int .i64 h3, .int .i64 l3, .int .i64 u3]) (.int .i64 3)).run Try.prog w = .ok (.agg #[.int .i64 h3, .int .i64 l3, .int .i64 u3]) w :=
  ⟨by kernel_rfl, by kernel_rfl, by kernel_rfl, by kernel_rfl⟩

set_option maxHeartbeats 4000000 in
theorem lets_box (h0 l0 u0 h1 l1 u1 h2 l2 u2 h3 l3 u3 : Int) (tag : ByteArray) (ao : Option Addr) (n cap : Nat) (v : Vs) (w : World) (r0 r1 r2 r3 rt rn r : Bool) (HR : Hid (r = ((r0 && (r1 && (r2 && r3))) && (rt && !rn))))
    (c0 : ∀ w', Below w.heap.size w w' → Calls Try.prog 30 #[.agg #[.int .i64 h0, .int .i64 l0, .int .i64 u0], .int .i64 0, v.val] w' fun e w'' => e = .returned (.bool r0) ∧ Below w'.heap.size w' w'')
    (c1 : ∀ w', Below w.heap.size w w' → Calls Try.prog 30 #[.agg #[.int .i64 h1, .int .i64 l1, .int .i64 u1], .int .i64 1, v.val] w' fun e w'' => e = .returned (.bool r1) ∧ Below w'.heap.size w' w'')
    (c2 : ∀ w', Below w.heap.size w w' → Calls Try.prog 30 #[.agg #[.int .i64 h2, .int .i64 l2, .int .i64 u2], .int .i64 2, v.val] w' fun e w'' => e = .returned (.bool r2) ∧ Below w'.heap.size w' w'')
    (c3 : ∀ w', Below w.heap.size w w' → Calls Try.prog 30 #[.agg #[.int .i64 h3, .int .i64 l3, .int .i64 u3], .int .i64 3, v.val] w' fun e w'' => e = .returned (.bool r3) ∧ Below w'.heap.size w' w'')
    (cT : ∀ w', Calls Try.prog 31 #[.string v.tag, .string tag] w' fun e w'' => e = .returned (.bool rt) ∧ w'' = w')
    (cN : ∀ w', Below w.heap.size w w' → Calls Try.prog 32 #[.string v.tag, .slice ao n cap] w' fun e w'' => e = .returned (.bool rn) ∧ Below w'.heap.size w' w'') :
    Calls Try.prog 17 #[.agg #[.int .i64 h0, .int .i64 l0, .int .i64 u0, .int .i64 h1, .int .i64 l1, .int .i64 u1, .int .i64 h2, .int .i64 l2, .int .i64 u2, .int .i64 h3, .int .i64 l3, .int .i64 u3, .string tag, .slice ao n cap], v.val] w fun e w' => e = .returned (.bool r) ∧ Below w.heap.size w w' := by
  have ix := Try.index45 h0 l0 u0 h1 l1 u1 h2 l2 u2 h3 l3 u3
  unfold Vs.val at *
  go_enter Try.func17, Try.ntmps17
  go_wp2_with fail
  obtain ⟨W, hW⟩ : ∃ W, W = (w.alloc (.cells #[.int .i64 h0, .int .i64 l0, .int .i64 u0, .int .i64 h1, .int .i64 l1, .int .i64 u1, .int .i64 h2, .int .i64 l2, .int .i64 u2, .int .i64 h3, .int .i64 l3, .int .i64 u3, .string tag, .slice ao n cap] 48)).alloc (.cells #[.int .i64 v.it, .int .i64 v.L, .int .i64 v.R, .int .i64 v.N, .bool v.dead, .slice v.ao v.len v.cap, .string v.tag, .string v.body] 40) := ⟨_, rfl⟩
  rw [← hW]
  have hbW : Below w.heap.size w W := by rw [hW]; exact ((Below.refl _ _).alloc (Nat.le_refl _) _).alloc (by simp) _
  have hsW : w.heap.size + 1 < W.heap.size := by rw [hW]; simp
  have b12 : W.cell? ⟨w.heap.size, 12, none⟩ = some (.string tag) := by rw [hW]; simp
  have b13 : W.cell? ⟨w.heap.size, 13, none⟩ = some (.slice ao n cap) := by rw [hW]; simp
  have a0 : W.cell? ⟨w.heap.size + 1, 0, none⟩ = some (.int .i64 v.it) := by rw [hW]; simp
  have a1 : W.cell? ⟨w.heap.size + 1, 1, none⟩ = some (.int .i64 v.L) := by rw [hW]; simp
  have a2 : W.cell? ⟨w.heap.size + 1, 2, none⟩ = some (.int .i64 v.R) := by rw [hW]; simp
  have a3 : W.cell? ⟨w.heap.size + 1, 3, none⟩ = some (.int .i64 v.N) := by rw [hW]; simp
  have a4 : W.cell? ⟨w.heap.size + 1, 4, none⟩ = some (.bool v.dead) := by rw [hW]; simp
  have a5 : W.cell? ⟨w.heap.size + 1, 5, none⟩ = some (.slice v.ao v.len v.cap) := by rw [hW]; simp
  have a6 : W.cell? ⟨w.heap.size + 1, 6, none⟩ = some (.string v.tag) := by rw [hW]; simp
  have a7 : W.cell? ⟨w.heap.size + 1, 7, none⟩ = some (.string v.body) := by rw [hW]; simp
  have HW : Hid (Below w.heap.size w W) := hbW
  clear hW
  go_loopw [9] (fun i wr => ∃ k : Nat, k ≤ 4 ∧ i = .int .i64 k ∧ Hid ((0 < k → r0 = true) ∧ (1 < k → r1 = true) ∧ (2 < k → r2 = true) ∧ (3 < k → r3 = true)) ∧ Below W.heap.size W wr) (fun i _ => 4 - (intOf i).toNat)
  case atStart => exact ⟨0, by omega, rfl, ⟨fun h => by omega, fun h => by omega, fun h => by omega, fun h => by omega⟩, Below.refl _ _⟩
  case round =>
    obtain ⟨k, hk, rfl, H, hbel⟩ := hrel
    have hsr := hbel.size
    have m0 : w.heap.size < wr.heap.size := by omega
    have m1 : w.heap.size + 1 < wr.heap.size := by omega
    have hbr : Below w.heap.size w wr := hbW.trans (hbel.mono (by omega))
    have B12 : wr.cell? ⟨w.heap.size, 12, none⟩ = some (.string tag) := (hbel.cell (by simp; omega)).trans b12
    have B13 : wr.cell? ⟨w.heap.size, 13, none⟩ = some (.slice ao n cap) := (hbel.cell (by simp; omega)).trans b13
    have A0 : wr.cell? ⟨w.heap.size + 1, 0, none⟩ = some (.int .i64 v.it) := (hbel.cell (by simp; omega)).trans a0
    have A1 : wr.cell? ⟨w.heap.size + 1, 1, none⟩ = some (.int .i64 v.L) := (hbel.cell (by simp; omega)).trans a1
    have A2 : wr.cell? ⟨w.heap.size + 1, 2, none⟩ = some (.int .i64 v.R) := (hbel.cell (by simp; omega)).trans a2
    have A3 : wr.cell? ⟨w.heap.size + 1, 3, none⟩ = some (.int .i64 v.N) := (hbel.cell (by simp; omega)).trans a3
    have A4 : wr.cell? ⟨w.heap.size + 1, 4, none⟩ = some (.bool v.dead) := (hbel.cell (by simp; omega)).trans a4
    have A5 : wr.cell? ⟨w.heap.size + 1, 5, none⟩ = some (.slice v.ao v.len v.cap) := (hbel.cell (by simp; omega)).trans a5
    have A6 : wr.cell? ⟨w.heap.size + 1, 6, none⟩ = some (.string v.tag) := (hbel.cell (by simp; omega)).trans a6
    have A7 : wr.cell? ⟨w.heap.size + 1, 7, none⟩ = some (.string v.body) := (hbel.cell (by simp; omega)).trans a7
    clear b12 b13 a0 a1 a2 a3 a4 a5 a6 a7 hbW
    have hcase : k = 0 ∨ k = 1 ∨ k = 2 ∨ k = 3 ∨ k = 4 := by omega
    rcases hcase with rfl | rfl | rfl | rfl | rfl
    · obtain ⟨V, hV⟩ : ∃ V, V = wr.alloc (.cells #[.int .i64 h0, .int .i64 l0, .int .i64 u0] 44) := ⟨_, rfl⟩
      have hbV : Below wr.heap.size wr V := by rw [hV]; exact (Below.refl _ _).alloc (Nat.le_refl _) _
      have c := c0 V (hbr.trans (hbV.mono hbr.size))
      have HV : Hid (Below wr.heap.size wr V) := hbV
      clear c0 c1 c2 c3 cT cN hbV hbr
      rw [hV] at c
      have HH : Hid (V = _) := hV
      clear hV
      cases r0 with
      | true =>
        go_wp2_with fail
        refine c.mono ?_
        rintro e w1 ⟨rfl, hb1⟩
        rw [← HH.out] at hb1
        clear c
        go_wp2
        go_roundw
        case rel => exact ⟨1, by omega, by go_num, ⟨fun _ => by simp, fun h => by omega, fun h => by omega, fun h => by omega⟩, hbel.trans ((HV.out.mono hsr).trans (hb1.mono (Nat.le_trans hsr HV.out.size)))⟩
        case measure => simp [intOf]
      | false =>
        go_wp2_with fail
        refine c.mono ?_
        rintro e w1 ⟨rfl, hb1⟩
        rw [← HH.out] at hb1
        clear c
        go_wp2
        go_ret
        exact ⟨by rw [HR.out]; simp, (HW.out.trans (hbel.mono (by omega))).trans ((HV.out.mono (by omega)).trans (hb1.mono (by have := HV.out.size; omega)))⟩
    · obtain ⟨V, hV⟩ : ∃ V, V = wr.alloc (.cells #[.int .i64 h1, .int .i64 l1, .int .i64 u1] 44) := ⟨_, rfl⟩
      have hbV : Below wr.heap.size wr V := by rw [hV]; exact (Below.refl _ _).alloc (Nat.le_refl _) _
      have c := c1 V (hbr.trans (hbV.mono hbr.size))
      have HV : Hid (Below wr.heap.size wr V) := hbV
      clear c0 c1 c2 c3 cT cN hbV hbr
      rw [hV] at c
      have HH : Hid (V = _) := hV
      clear hV
      cases r1 with
      | true =>
        go_wp2_with fail
        refine c.mono ?_
        rintro e w1 ⟨rfl, hb1⟩
        rw [← HH.out] at hb1
        clear c
        go_wp2
        go_roundw
        case rel => exact ⟨2, by omega, by go_num, ⟨fun _ => H.out.1 (by omega), fun _ => by simp, fun h => by omega, fun h => by omega⟩, hbel.trans ((HV.out.mono hsr).trans (hb1.mono (Nat.le_trans hsr HV.out.size)))⟩
        case measure => simp [intOf]
      | false =>
        go_wp2_with fail
        refine c.mono ?_
        rintro e w1 ⟨rfl, hb1⟩
        rw [← HH.out] at hb1
        clear c
        go_wp2
        go_ret
        exact ⟨by rw [HR.out]; simp, (HW.out.trans (hbel.mono (by omega))).trans ((HV.out.mono (by omega)).trans (hb1.mono (by have := HV.out.size; omega)))⟩
    · obtain ⟨V, hV⟩ : ∃ V, V = wr.alloc (.cells #[.int .i64 h2, .int .i64 l2, .int .i64 u2] 44) := ⟨_, rfl⟩
      have hbV : Below wr.heap.size wr V := by rw [hV]; exact (Below.refl _ _).alloc (Nat.le_refl _) _
      have c := c2 V (hbr.trans (hbV.mono hbr.size))
      have HV : Hid (Below wr.heap.size wr V) := hbV
      clear c0 c1 c2 c3 cT cN hbV hbr
      rw [hV] at c
      have HH : Hid (V = _) := hV
      clear hV
      cases r2 with
      | true =>
        go_wp2_with fail
        refine c.mono ?_
        rintro e w1 ⟨rfl, hb1⟩
        rw [← HH.out] at hb1
        clear c
        go_wp2
        go_roundw
        case rel => exact ⟨3, by omega, by go_num, ⟨fun _ => H.out.1 (by omega), fun _ => H.out.2.1 (by omega), fun _ => by simp, fun h => by omega⟩, hbel.trans ((HV.out.mono hsr).trans (hb1.mono (Nat.le_trans hsr HV.out.size)))⟩
        case measure => simp [intOf]
      | false =>
        go_wp2_with fail
        refine c.mono ?_
        rintro e w1 ⟨rfl, hb1⟩
        rw [← HH.out] at hb1
        clear c
        go_wp2
        go_ret
        exact ⟨by rw [HR.out]; simp, (HW.out.trans (hbel.mono (by omega))).trans ((HV.out.mono (by omega)).trans (hb1.mono (by have := HV.out.size; omega)))⟩
    · obtain ⟨V, hV⟩ : ∃ V, V = wr.alloc (.cells #[.int .i64 h3, .int .i64 l3, .int .i64 u3] 44) := ⟨_, rfl⟩
      have hbV : Below wr.heap.size wr V := by rw [hV]; exact (Below.refl _ _).alloc (Nat.le_refl _) _
      have c := c3 V (hbr.trans (hbV.mono hbr.size))
      have HV : Hid (Below wr.heap.size wr V) := hbV
      clear c0 c1 c2 c3 cT cN hbV hbr
      rw [hV] at c
      have HH : Hid (V = _) := hV
      clear hV
      cases r3 with
      | true =>
        go_wp2_with fail
        refine c.mono ?_
        rintro e w1 ⟨rfl, hb1⟩
        rw [← HH.out] at hb1
        clear c
        go_wp2
        go_roundw
        case rel => exact ⟨4, by omega, by go_num, ⟨fun _ => H.out.1 (by omega), fun _ => H.out.2.1 (by omega), fun _ => H.out.2.2.1 (by omega), fun _ => by simp⟩, hbel.trans ((HV.out.mono hsr).trans (hb1.mono (Nat.le_trans hsr HV.out.size)))⟩
        case measure => simp [intOf]
      | false =>
        go_wp2_with fail
        refine c.mono ?_
        rintro e w1 ⟨rfl, hb1⟩
        rw [← HH.out] at hb1
        clear c
        go_wp2
        go_ret
        exact ⟨by rw [HR.out]; simp, (HW.out.trans (hbel.mono (by omega))).trans ((HV.out.mono (by omega)).trans (hb1.mono (by have := HV.out.size; omega)))⟩
    · have t1 := cT wr
      have t2 := cN wr hbr
      have e : Hid (r = (rt && !rn)) := HR.out.trans (by rw [H.out.1 (by omega), H.out.2.1 (by omega), H.out.2.2.1 (by omega), H.out.2.2.2 (by omega)]; simp)
      clear c0 c1 c2 c3 cT cN H HR ix
      cases rt with
      | true =>
        go_wp2_with fail
        refine t1.mono ?_
        rintro _ w1 ⟨rfl, rfl⟩
        go_wp2_with fail
        refine t2.mono ?_
        rintro _ w2 ⟨rfl, hb2⟩
        go_wp2
        go_ret
        exact ⟨by rw [e.out]; rfl, hbr.trans (hb2.mono hbr.size)⟩
      | false =>
        go_wp2_with fail
        refine t1.mono ?_
        rintro _ w1 ⟨rfl, rfl⟩
        go_wp2
        go_ret
        exact ⟨by rw [e.out]; rfl, hbr⟩

/-- norm.Lets. -/
theorem lets17 (x : Ev.Bx) (ao : Option Addr) (cap m : Nat) (v : Vs) (al : List (Int × Int)) (w : World) (hx : x.ok m) (hm : m ≤ 1000) (ht : Txts Any w ao x.nots) (hv : Has Any w v al) :
    Calls Try.prog 17 #[Bval x ao cap, v.val] w fun e w' => e = .returned (.bool (x.lets al v.tag)) ∧ Below w.heap.size w w' := by
  have cs := fun (p : Ev.Sd) (hp : p.ok) (key : Int) w' (hb : Below w.heap.size w w') => side30 p key v al w' hp (hv.below hb)
  exact lets_box _ _ _ _ _ _ _ _ _ _ _ _ _ _ _ _ v w _ _ _ _ _ _ _ (show Hid (x.lets al v.tag = _) from rfl) (cs (x.s 0) (hx.1 0 (by omega)) 0) (cs (x.s 1) (hx.1 1 (by omega)) 1) (cs (x.s 2) (hx.1 2 (by omega)) 2) (cs (x.s 3) (hx.1 3 (by omega)) 3)
    (fun w' => prefix28 v.tag x.tag w' hv.2.2.1 hx.2.1) (fun w' hb => one32 v.tag ao cap x.nots w' hv.2.2.1 (Nat.le_trans hx.2.2.1 hm) hx.2.2.2 (ht.below hb))

end Go.Proofs.Ytflpdekifkcfkaa
