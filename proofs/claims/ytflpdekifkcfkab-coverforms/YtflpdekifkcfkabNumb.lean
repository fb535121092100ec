/- The document's reader of words: numbers. -/
import Derived.Test.YtflpdekifkcfkabRead
namespace Go.Proofs.Ytflpdekifkcfkab
open Go.RowKit
set_option linter.unusedVariables false

set_option maxRecDepth 100000 in
set_option maxHeartbeats 2000000 in
theorem num_yes (rb : Nat) (w : World) (below k : Int) (b len cap p : Nat) (hl : len ≤ 60) (hp : p < len) (hk : k < below) (q0 : w.cell? ⟨rb, 0, none⟩ = some (.slice (some ⟨b, 0, none⟩) len cap)) (q1 : w.cell? ⟨rb, 1, none⟩ = some (.int .i64 p)) (q3 : w.cell? ⟨rb, 3, none⟩ = some (.bool false))
    (hf : ∀ o, w.frozen? ⟨rb, o, none⟩ = false) (hne : b ≠ rb) (r0 : w.cell? ⟨b, p * 4, none⟩ = some (.int .i64 2)) (r2 : w.cell? ⟨b, p * 4 + 2, none⟩ = some (.int .i64 k)) :
    Calls Try.prog 68 #[.pointer (some ⟨rb, 0, none⟩), .int .i64 below] w fun e w' => e = .returned (.int .i64 k) ∧ ∃ n m, w' = ((w.drewN n).setCell ⟨rb, 1, none⟩ (.int .i64 ((p : Int) + 1))).drewN m := by
  have hg : decide ((len : Int) ≤ (p : Int)) = false := decide_eq_false (by omega)
  have hgN : decide (len ≤ p) = false := decide_eq_false (by omega)
  have hg2 : decide (below ≤ k) = false := decide_eq_false (by omega)
  have hp0 : (0 : Int) ≤ (p : Int) := by omega
  have hp1 : (p : Int) < (len : Int) := by omega
  go_enter Try.func68, Try.ntmps68
  go_wp2_with fail
  go_quiet (fail)
  go_wp2_with fail
  obtain ⟨V, hV⟩ : ∃ V, V = (w.drewN nq).setCell ⟨rb, 1, none⟩ (.int .i64 ((p : Int) + 1)) := ⟨_, rfl⟩
  have s0 : V.cell? ⟨rb, 0, none⟩ = some (.slice (some ⟨b, 0, none⟩) len cap) := by rw [hV, World.cell?_setCell_other _ _ _ _ (by simp)]; exact q0
  have s1 : V.cell? ⟨rb, 1, none⟩ = some (.int .i64 ((p : Int) + 1)) := by rw [hV]; exact World.cell?_setCell_same _ _ _ (u := .int .i64 p) q1
  have s2 : V.cell? ⟨b, p * 4 + 2, none⟩ = some (.int .i64 k) := by rw [hV, World.cell?_setCell_other _ _ _ _ (fun e => hne (congrArg Addr.block e).symm)]; exact r2
  rw [← hV]
  have HV : Hid _ := hV
  clear hV q0 q1 q3 hf r0 r2
  have hwr : IntKind.i64.wrap ((p : Int) + 1 - 1) = (p : Int) := by simp only [IntKind.wrap, IntKind.signed, IntKind.bits]; simp; omega
  go_quiet (fail)
  go_wp2
  go_ret
  exact ⟨rfl, _, _, by rw [HV.out]⟩

/-- The next word is a number below so much: it is read. -/
theorem num38 (rb : Nat) (ws : List Wd.Word) (p : Nat) (below k : Int) (w : World) (h : Rd w rb ws p) (hn : Ps.num ws p below = some k) :
    Calls Try.prog 68 #[.pointer (some ⟨rb, 0, none⟩), .int .i64 below] w fun e w' => e = .returned (.int .i64 k) ∧ WentR rb ws (p + 1) w w' := by
  have h' := h
  obtain ⟨h1, h2, hf, ao, cap, en, po, b, q0, q1, q2, q3, q4, h3, h4⟩ := h
  unfold Ps.num at hn
  cases hx : ws[p]? with
  | none => rw [hx] at hn; cases hn
  | some x =>
    rw [hx] at hn
    by_cases hc : x.kind = 2 ∧ x.num < below
    · simp only [if_pos hc] at hn
      cases hn
      have hp : p < ws.length := (List.getElem?_eq_some_iff.1 hx).1
      obtain ⟨rfl, hb⟩ := h3 (by omega)
      obtain ⟨r0, r1, r2, r3⟩ := h4 p _ hx
      rw [hc.1] at r0
      refine (num_yes rb w below x.num b ws.length cap p h1 hp hc.2 q0 q1 q3 hf (by omega) r0 r2).mono ?_
      rintro e w' ⟨rfl, n, m, rfl⟩
      refine ⟨rfl, h'.step (q := p + 1) (by omega) n m rfl, ?_⟩
      have a := Kept.setCell (P := Save rb) (p := ⟨rb, 1, none⟩) (⟨rfl, rfl, rfl, Nat.le_refl _, fun _ _ _ => rfl⟩ : Kept (Save rb) w (w.drewN n)) (fun k _ hk => hk) (.int .i64 ((p : Int) + 1))
      exact ⟨a.os, a.tape, a.output, a.size, a.block⟩
    · simp only [if_neg hc] at hn
      cases hn

end Go.Proofs.Ytflpdekifkcfkab
