/- The document's reader of words: marks, numbers. -/
import Derived.Test.YtflpdekifkcfkabPars
import Derived.Test.YtflpdekifkcfkabRep
import Derived.Test.YtflpdekifkcfkabProg
import Derived.WalkSpells
import Derived.WalkLawsBesides
import Derived.Handy
import Derived.Deep.RegionHeld3
import Derived.Deep.RegionWith
import Derived.BigQuiet
import Derived.BigRegion
import Derived.Deep.QuietTactic
namespace Go.Proofs.Ytflpdekifkcfkab
open Go.RowKit
set_option linter.unusedVariables false

/-- All blocks but the reader's. -/
def Save (rb : Nat) : Nat → Prop := fun k => k ≠ rb

/-- Block rb holds a reader of the words ws that stands at p, and nothing was wrong. -/
def Rd (w : World) (rb : Nat) (ws : List Wd.Word) (p : Nat) : Prop :=
  ws.length ≤ 60 ∧ p ≤ ws.length ∧ (∀ o, w.frozen? ⟨rb, o, none⟩ = false) ∧ ∃ (ao : Option Addr) (cap : Nat) (en po : Int) (b : Nat),
    w.cell? ⟨rb, 0, none⟩ = some (.slice ao ws.length cap) ∧ w.cell? ⟨rb, 1, none⟩ = some (.int .i64 p) ∧ w.cell? ⟨rb, 2, none⟩ = some (.int .i64 en) ∧ w.cell? ⟨rb, 3, none⟩ = some (.bool false) ∧ w.cell? ⟨rb, 4, none⟩ = some (.int .i64 po) ∧
    (0 < ws.length → ao = some ⟨b, 0, none⟩ ∧ b < rb) ∧
    ∀ j x, ws[j]? = some x → w.cell? ⟨b, j * 4, none⟩ = some (.int .i64 x.kind) ∧ w.cell? ⟨b, j * 4 + 1, none⟩ = some (.string ⟨x.text.toArray⟩) ∧ w.cell? ⟨b, j * 4 + 2, none⟩ = some (.int .i64 x.num) ∧ ((x.kind = 1 ∨ x.kind = 2) ∨ x.kind = 3)

theorem Rd.lt {w : World} {rb p : Nat} {ws : List Wd.Word} (h : Rd w rb ws p) : rb < w.heap.size := by
  obtain ⟨_, _, _, ao, cap, en, po, b, q0, _⟩ := h
  exact World.block_lt_of_cell? w ⟨rb, 0, none⟩ q0

theorem Rd.below {w w' : World} {rb p : Nat} {ws : List Wd.Word} (h : Rd w rb ws p) (hb : Below (rb + 1) w w') : Rd w' rb ws p := by
  obtain ⟨h1, h2, hf, ao, cap, en, po, b, q0, q1, q2, q3, q4, h3, h4⟩ := h
  refine ⟨h1, h2, fun o => (hb.frozen (by simp)).trans (hf o), ao, cap, en, po, b, (hb.cell (by simp)).trans q0, (hb.cell (by simp)).trans q1, (hb.cell (by simp)).trans q2, (hb.cell (by simp)).trans q3, (hb.cell (by simp)).trans q4, h3, fun j x hx => ?_⟩
  have hj : j < ws.length := (List.getElem?_eq_some_iff.1 hx).1
  obtain ⟨_, hlt⟩ := h3 (by omega)
  obtain ⟨e0, e1, e2, e3⟩ := h4 j x hx
  exact ⟨(hb.cell (by show b < rb + 1; omega)).trans e0, (hb.cell (by show b < rb + 1; omega)).trans e1, (hb.cell (by show b < rb + 1; omega)).trans e2, e3⟩

/-- The reader goes on. -/
theorem Rd.step {w w' : World} {rb p q : Nat} {ws : List Wd.Word} (h : Rd w rb ws p) (hq : q ≤ ws.length) (n m : Nat) (e : w' = ((w.drewN n).setCell ⟨rb, 1, none⟩ (.int .i64 q)).drewN m) : Rd w' rb ws q := by
  subst e
  obtain ⟨h1, h2, hf, ao, cap, en, po, b, q0, q1, q2, q3, q4, h3, h4⟩ := h
  have o : ∀ a : Addr, ⟨rb, 1, none⟩ ≠ a → (((w.drewN n).setCell ⟨rb, 1, none⟩ (.int .i64 q)).drewN m).cell? a = w.cell? a := fun a ha => World.cell?_setCell_other (w.drewN n) _ _ _ ha
  refine ⟨h1, hq, fun o => by simpa using hf o, ao, cap, en, po, b, (o _ (by simp)).trans q0, World.cell?_setCell_same (w.drewN n) ⟨rb, 1, none⟩ _ (u := .int .i64 p) q1, (o _ (by simp)).trans q2, (o _ (by simp)).trans q3, (o _ (by simp)).trans q4, h3, fun j x hx => ?_⟩
  have hj : j < ws.length := (List.getElem?_eq_some_iff.1 hx).1
  obtain ⟨_, hlt⟩ := h3 (by omega)
  obtain ⟨e0, e1, e2, e3⟩ := h4 j x hx
  have ne : ∀ i, (⟨rb, 1, none⟩ : Addr) ≠ ⟨b, i, none⟩ := fun i e => by have := congrArg Addr.block e; simp at this; omega
  exact ⟨(o _ (ne _)).trans e0, (o _ (ne _)).trans e1, (o _ (ne _)).trans e2, e3⟩

theorem drewN_below (B : Nat) (w : World) (n : Nat) : Below B w (w.drewN n) := ⟨rfl, rfl, rfl, Nat.le_refl _, fun _ _ => rfl⟩

/-- What reading leaves behind. -/
def WentR (rb : Nat) (ws : List Wd.Word) (q : Nat) (w w' : World) : Prop := Rd w' rb ws q ∧ Kept (Save rb) w w'

set_option maxRecDepth 100000 in
set_option maxHeartbeats 1000000 in
theorem mark_over (rb : Nat) (w : World) (s : ByteArray) (ao : Option Addr) (len cap p : Nat) (hl : len ≤ 60) (hp : len ≤ p) (hp' : p ≤ 60) (q0 : w.cell? ⟨rb, 0, none⟩ = some (.slice ao len cap)) (q1 : w.cell? ⟨rb, 1, none⟩ = some (.int .i64 p)) (q3 : w.cell? ⟨rb, 3, none⟩ = some (.bool false)) :
    Calls Try.prog 47 #[.pointer (some ⟨rb, 0, none⟩), .string s] w fun e w' => e = .returned (.bool false) ∧ ∃ n, w' = w.drewN n := by
  have hg : decide ((len : Int) ≤ (p : Int)) = true := decide_eq_true (by omega)
  go_enter Try.func47, Try.ntmps47
  go_wp2_with fail
  go_region
  go_wp2
  go_ret
  exact ⟨rfl, 1, rfl⟩

set_option maxRecDepth 100000 in
set_option maxHeartbeats 1000000 in
theorem mark_kind (rb : Nat) (w : World) (s t : ByteArray) (kind : Int) (b len cap p : Nat) (hl : len ≤ 60) (hp : p < len) (hk : kind = 1 ∨ kind = 2) (q0 : w.cell? ⟨rb, 0, none⟩ = some (.slice (some ⟨b, 0, none⟩) len cap)) (q1 : w.cell? ⟨rb, 1, none⟩ = some (.int .i64 p)) (q3 : w.cell? ⟨rb, 3, none⟩ = some (.bool false))
    (r0 : w.cell? ⟨b, p * 4, none⟩ = some (.int .i64 kind)) :
    Calls Try.prog 47 #[.pointer (some ⟨rb, 0, none⟩), .string s] w fun e w' => e = .returned (.bool false) ∧ ∃ n, w' = w.drewN n := by
  have hg : decide ((len : Int) ≤ (p : Int)) = false := decide_eq_false (by omega)
  have hgN : decide (len ≤ p) = false := decide_eq_false (by omega)
  have hp0 : (0 : Int) ≤ (p : Int) := by omega
  have hp1 : (p : Int) < (len : Int) := by omega
  rcases hk with rfl | rfl
  · go_enter Try.func47, Try.ntmps47
    go_wp2_with fail
    go_quiet (fail)
    go_wp2
    go_ret
    exact ⟨rfl, _, rfl⟩
  · go_enter Try.func47, Try.ntmps47
    go_wp2_with fail
    go_quiet (fail)
    go_wp2
    go_ret
    exact ⟨rfl, _, rfl⟩

set_option maxRecDepth 100000 in
set_option maxHeartbeats 1000000 in
theorem mark_other (rb : Nat) (w : World) (s t : ByteArray) (b len cap p : Nat) (hl : len ≤ 60) (hp : p < len) (hk : (t.toList == s.toList) = false) (q0 : w.cell? ⟨rb, 0, none⟩ = some (.slice (some ⟨b, 0, none⟩) len cap)) (q1 : w.cell? ⟨rb, 1, none⟩ = some (.int .i64 p)) (q3 : w.cell? ⟨rb, 3, none⟩ = some (.bool false))
    (r0 : w.cell? ⟨b, p * 4, none⟩ = some (.int .i64 3)) (r1 : w.cell? ⟨b, p * 4 + 1, none⟩ = some (.string t)) :
    Calls Try.prog 47 #[.pointer (some ⟨rb, 0, none⟩), .string s] w fun e w' => e = .returned (.bool false) ∧ ∃ n, w' = w.drewN n := by
  have hg : decide ((len : Int) ≤ (p : Int)) = false := decide_eq_false (by omega)
  have hgN : decide (len ≤ p) = false := decide_eq_false (by omega)
  have hp0 : (0 : Int) ≤ (p : Int) := by omega
  have hp1 : (p : Int) < (len : Int) := by omega
  go_enter Try.func47, Try.ntmps47
  go_wp2_with fail
  go_quiet (fail)
  go_wp2
  go_ret
  exact ⟨rfl, _, rfl⟩

set_option maxRecDepth 100000 in
set_option maxHeartbeats 1000000 in
theorem mark_yes (rb : Nat) (w : World) (s t : ByteArray) (b len cap p : Nat) (hl : len ≤ 60) (hp : p < len) (hk : (t.toList == s.toList) = true) (q0 : w.cell? ⟨rb, 0, none⟩ = some (.slice (some ⟨b, 0, none⟩) len cap)) (q1 : w.cell? ⟨rb, 1, none⟩ = some (.int .i64 p)) (q3 : w.cell? ⟨rb, 3, none⟩ = some (.bool false))
    (hf : ∀ o, w.frozen? ⟨rb, o, none⟩ = false) (r0 : w.cell? ⟨b, p * 4, none⟩ = some (.int .i64 3)) (r1 : w.cell? ⟨b, p * 4 + 1, none⟩ = some (.string t)) :
    Calls Try.prog 47 #[.pointer (some ⟨rb, 0, none⟩), .string s] w fun e w' => e = .returned (.bool true) ∧ ∃ n, w' = (w.drewN n).setCell ⟨rb, 1, none⟩ (.int .i64 ((p : Int) + 1)) := by
  have hg : decide ((len : Int) ≤ (p : Int)) = false := decide_eq_false (by omega)
  have hgN : decide (len ≤ p) = false := decide_eq_false (by omega)
  have hp0 : (0 : Int) ≤ (p : Int) := by omega
  have hp1 : (p : Int) < (len : Int) := by omega
  go_enter Try.func47, Try.ntmps47
  go_wp2_with fail
  go_quiet (fail)
  go_wp2
  go_ret
  exact ⟨rfl, _, rfl⟩

theorem text_eq (t : List UInt8) (s : ByteArray) (c : UInt8) (hs : s.data.toList = [c]) : ((⟨t.toArray⟩ : ByteArray).toList == s.toList) = (t == [c]) := by
  rw [ByteArray.toList_eq, ByteArray.toList_eq, hs]

/-- Is the next word this mark? Then it is read. -/
theorem mark31 (rb : Nat) (ws : List Wd.Word) (p : Nat) (c : UInt8) (s : ByteArray) (hs : s.data.toList = [c]) (w : World) (h : Rd w rb ws p) :
    Calls Try.prog 47 #[.pointer (some ⟨rb, 0, none⟩), .string s] w fun e w' => e = .returned (.bool (Ps.isMark ws p c)) ∧ WentR rb ws (if Ps.isMark ws p c then p + 1 else p) w w' := by
  have h' := h
  obtain ⟨h1, h2, hf, ao, cap, en, po, b, q0, q1, q2, q3, q4, h3, h4⟩ := h
  have stay : ∀ n, WentR rb ws p w (w.drewN n) := fun n => ⟨h'.below (drewN_below _ w n), ⟨rfl, rfl, rfl, Nat.le_refl _, fun _ _ _ => rfl⟩⟩
  by_cases hp : p < ws.length
  · obtain ⟨rfl, hb⟩ := h3 (by omega)
    have hx : ws[p]? = some ws[p] := List.getElem?_eq_getElem hp
    obtain ⟨r0, r1, r2, r3⟩ := h4 p _ hx
    have hm : Ps.isMark ws p c = ((ws[p]).kind == 3 && (ws[p]).text == [c]) := by unfold Ps.isMark; rw [hx]
    by_cases hk : (ws[p]).kind = 3
    · rw [hk] at r0
      by_cases ht : (ws[p]).text = [c]
      · have e : Ps.isMark ws p c = true := by rw [hm, hk, ht]; simp
        rw [e]
        refine (mark_yes rb w s _ b ws.length cap p h1 hp (by rw [text_eq _ s c hs, ht]; simp) q0 q1 q3 hf r0 r1).mono ?_
        rintro e w' ⟨rfl, n, rfl⟩
        refine ⟨rfl, h'.step (q := p + 1) (by omega) n 0 rfl, ?_⟩
        exact Kept.setCell (P := Save rb) (p := ⟨rb, 1, none⟩) (⟨rfl, rfl, rfl, Nat.le_refl _, fun _ _ _ => rfl⟩ : Kept (Save rb) w (w.drewN n)) (fun k _ hk => hk) _
      · have e : Ps.isMark ws p c = false := by rw [hm]; simp [ht]
        rw [e]
        refine (mark_other rb w s _ b ws.length cap p h1 hp (by rw [text_eq _ s c hs]; simp [ht]) q0 q1 q3 r0 r1).mono ?_
        rintro e w' ⟨rfl, n, rfl⟩
        exact ⟨rfl, stay n⟩
    · have e : Ps.isMark ws p c = false := by rw [hm]; simp [hk]
      rw [e]
      refine (mark_kind rb w s s _ b ws.length cap p h1 hp (r3.resolve_right hk) q0 q1 q3 r0).mono ?_
      rintro e w' ⟨rfl, n, rfl⟩
      exact ⟨rfl, stay n⟩
  · have e : Ps.isMark ws p c = false := by unfold Ps.isMark; rw [List.getElem?_eq_none (by omega)]
    rw [e]
    refine (mark_over rb w s ao ws.length cap p h1 (by omega) (by omega) q0 q1 q3).mono ?_
    rintro e w' ⟨rfl, n, rfl⟩
    exact ⟨rfl, stay n⟩

end Go.Proofs.Ytflpdekifkcfkab
