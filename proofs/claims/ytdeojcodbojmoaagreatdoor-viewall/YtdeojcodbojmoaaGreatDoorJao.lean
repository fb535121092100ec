/- The document's reader of words: marks, numbers. -/
/- The document's reader of words: numbers. -/
/- The document's reader of words: a key. -/
/- The document's reader of words: what binds most. -/
/- The document's reader of words: and, or. -/
/- The document's reader of words, whole; how deep a filter is. -/
/- The document's reader of words, where a word does not fit. -/
/- The document's reader of words, where a number or what stands behind @ does not fit. -/
import Derived.Test.YtdeojcodbojmoaaGreatDoorProg
import Derived.Test.YtdeojcodbojmoaaGreatDoorJaa
import Derived.Test.YtdeojcodbojmoaaGreatDoorJak
import Derived.WalkSpells
import Derived.WalkLawsBesides
import Derived.Handy
import Derived.Deep.RegionHeld3
import Derived.Deep.RegionWith
import Derived.BigQuiet
import Derived.BigRegion
import Derived.Deep.QuietTactic
namespace Go.Proofs.YtdeojcodbojmoaaGreatDoor
namespace Rf
open Go.RowKit
set_option maxRecDepth 100000
set_option linter.unusedVariables false

/-- All blocks but the reader's. -/
def Save (rb : Nat) : Nat → Prop := fun k => k ≠ rb

/-- Block rb holds a reader of the words ws that stands at p, and nothing was wrong. -/
def Rd (w : World) (rb : Nat) (ws : List Wd.Word) (p : Nat) : Prop :=
  ws.length ≤ 60 ∧ p ≤ ws.length ∧ (∀ o, w.frozen? ⟨rb, o, none⟩ = false) ∧ ∃ (ao : Option Addr) (cap : Nat) (en po : Int) (b : Nat),
    w.cell? ⟨rb, 0, none⟩ = some (.slice ao ws.length cap) ∧ w.cell? ⟨rb, 1, none⟩ = some (.int .i64 p) ∧ w.cell? ⟨rb, 2, none⟩ = some (.int .i64 en) ∧ w.cell? ⟨rb, 3, none⟩ = some (.bool false) ∧ w.cell? ⟨rb, 4, none⟩ = some (.int .i64 po) ∧
    (0 < ws.length → ao = some ⟨b, 0, none⟩ ∧ b < rb) ∧
    ∀ j x, ws[j]? = some x → w.cell? ⟨b, j * 4, none⟩ = some (.int .i64 x.kind) ∧ w.cell? ⟨b, j * 4 + 1, none⟩ = some (.string ⟨x.text.toArray⟩) ∧ w.cell? ⟨b, j * 4 + 2, none⟩ = some (.int .i64 x.num) ∧ (((x.kind = 1 ∨ x.kind = 2) ∨ x.kind = 3) ∧ w.cell? ⟨b, j * 4 + 3, none⟩ = some (.int .i64 x.place))

theorem Rd.lt {w : World} {rb p : Nat} {ws : List Wd.Word} (h : Rd w rb ws p) : rb < w.heap.size := by
  obtain ⟨_, _, _, ao, cap, en, po, b, q0, _⟩ := h
  exact World.block_lt_of_cell? w ⟨rb, 0, none⟩ q0

theorem Rd.below {w w' : World} {rb p : Nat} {ws : List Wd.Word} (h : Rd w rb ws p) (hb : Below (rb + 1) w w') : Rd w' rb ws p := by
  obtain ⟨h1, h2, hf, ao, cap, en, po, b, q0, q1, q2, q3, q4, h3, h4⟩ := h
  refine ⟨h1, h2, fun o => (hb.frozen (by simp)).trans (hf o), ao, cap, en, po, b, (hb.cell (by simp)).trans q0, (hb.cell (by simp)).trans q1, (hb.cell (by simp)).trans q2, (hb.cell (by simp)).trans q3, (hb.cell (by simp)).trans q4, h3, fun j x hx => ?_⟩
  have hj : j < ws.length := (List.getElem?_eq_some_iff.1 hx).1
  obtain ⟨_, hlt⟩ := h3 (by omega)
  obtain ⟨e0, e1, e2, e3⟩ := h4 j x hx
  exact ⟨(hb.cell (by show b < rb + 1; omega)).trans e0, (hb.cell (by show b < rb + 1; omega)).trans e1, (hb.cell (by show b < rb + 1; omega)).trans e2, e3.1, (hb.cell (by show b < rb + 1; omega)).trans e3.2⟩

/-- The reader goes on. -/
theorem Rd.step {w w' : World} {rb p q : Nat} {ws : List Wd.Word} (h : Rd w rb ws p) (hq : q ≤ ws.length) (n m : Nat) (e : w' = ((w.drewN n).setCell ⟨rb, 1, none⟩ (.int .i64 q)).drewN m) : Rd w' rb ws q := by
  subst e
  obtain ⟨h1, h2, hf, ao, cap, en, po, b, q0, q1, q2, q3, q4, h3, h4⟩ := h
  have o : ∀ a : Addr, ⟨rb, 1, none⟩ ≠ a → (((w.drewN n).setCell ⟨rb, 1, none⟩ (.int .i64 q)).drewN m).cell? a = w.cell? a := fun a ha => World.cell?_setCell_other (w.drewN n) _ _ _ ha
  refine ⟨h1, hq, fun o => by simpa using hf o, ao, cap, en, po, b, (o _ (by simp)).trans q0, World.cell?_setCell_same (w.drewN n) ⟨rb, 1, none⟩ _ (u := .int .i64 p) q1, (o _ (by simp)).trans q2, (o _ (by simp)).trans q3, (o _ (by simp)).trans q4, h3, fun j x hx => ?_⟩
  have hj : j < ws.length := (List.getElem?_eq_some_iff.1 hx).1
  obtain ⟨_, hlt⟩ := h3 (by omega)
  obtain ⟨e0, e1, e2, e3⟩ := h4 j x hx
  have ne : ∀ i, (⟨rb, 1, none⟩ : Addr) ≠ ⟨b, i, none⟩ := fun i e => by have := congrArg Addr.block e; simp at this; omega
  exact ⟨(o _ (ne _)).trans e0, (o _ (ne _)).trans e1, (o _ (ne _)).trans e2, e3.1, (o _ (ne _)).trans e3.2⟩

theorem drewN_below (B : Nat) (w : World) (n : Nat) : Below B w (w.drewN n) := ⟨rfl, rfl, rfl, Nat.le_refl _, fun _ _ => rfl⟩

/-- What reading leaves behind. -/
def WentR (rb : Nat) (ws : List Wd.Word) (q : Nat) (w w' : World) : Prop := Rd w' rb ws q ∧ Kept (Save rb) w w'

set_option maxRecDepth 100000 in
set_option maxHeartbeats 1000000 in
theorem mark_over (rb : Nat) (w : World) (s : ByteArray) (ao : Option Addr) (len cap p : Nat) (hl : len ≤ 60) (hp : len ≤ p) (hp' : p ≤ 60) (q0 : w.cell? ⟨rb, 0, none⟩ = some (.slice ao len cap)) (q1 : w.cell? ⟨rb, 1, none⟩ = some (.int .i64 p)) (q3 : w.cell? ⟨rb, 3, none⟩ = some (.bool false)) :
    Calls Tryz.prog 64 #[.pointer (some ⟨rb, 0, none⟩), .string s] w fun e w' => e = .returned (.bool false) ∧ ∃ n, w' = w.drewN n := by
  have hg : decide ((len : Int) ≤ (p : Int)) = true := decide_eq_true (by omega)
  go_enter Tryz.func64, Tryz.ntmps64
  go_wp2_with fail
  go_region
  go_wp2
  go_ret
  exact ⟨rfl, 1, rfl⟩

set_option maxRecDepth 100000 in
set_option maxHeartbeats 1000000 in
theorem mark_kind (rb : Nat) (w : World) (s t : ByteArray) (kind : Int) (b len cap p : Nat) (hl : len ≤ 60) (hp : p < len) (hk : kind = 1 ∨ kind = 2) (q0 : w.cell? ⟨rb, 0, none⟩ = some (.slice (some ⟨b, 0, none⟩) len cap)) (q1 : w.cell? ⟨rb, 1, none⟩ = some (.int .i64 p)) (q3 : w.cell? ⟨rb, 3, none⟩ = some (.bool false))
    (r0 : w.cell? ⟨b, p * 4, none⟩ = some (.int .i64 kind)) :
    Calls Tryz.prog 64 #[.pointer (some ⟨rb, 0, none⟩), .string s] w fun e w' => e = .returned (.bool false) ∧ ∃ n, w' = w.drewN n := by
  have hg : decide ((len : Int) ≤ (p : Int)) = false := decide_eq_false (by omega)
  have hgN : decide (len ≤ p) = false := decide_eq_false (by omega)
  have hp0 : (0 : Int) ≤ (p : Int) := by omega
  have hp1 : (p : Int) < (len : Int) := by omega
  rcases hk with rfl | rfl
  · go_enter Tryz.func64, Tryz.ntmps64
    go_wp2_with fail
    go_quiet (fail)
    go_wp2
    go_ret
    exact ⟨rfl, _, rfl⟩
  · go_enter Tryz.func64, Tryz.ntmps64
    go_wp2_with fail
    go_quiet (fail)
    go_wp2
    go_ret
    exact ⟨rfl, _, rfl⟩

set_option maxRecDepth 100000 in
set_option maxHeartbeats 1000000 in
theorem mark_other (rb : Nat) (w : World) (s t : ByteArray) (b len cap p : Nat) (hl : len ≤ 60) (hp : p < len) (hk : (t.toList == s.toList) = false) (q0 : w.cell? ⟨rb, 0, none⟩ = some (.slice (some ⟨b, 0, none⟩) len cap)) (q1 : w.cell? ⟨rb, 1, none⟩ = some (.int .i64 p)) (q3 : w.cell? ⟨rb, 3, none⟩ = some (.bool false))
    (r0 : w.cell? ⟨b, p * 4, none⟩ = some (.int .i64 3)) (r1 : w.cell? ⟨b, p * 4 + 1, none⟩ = some (.string t)) :
    Calls Tryz.prog 64 #[.pointer (some ⟨rb, 0, none⟩), .string s] w fun e w' => e = .returned (.bool false) ∧ ∃ n, w' = w.drewN n := by
  have hg : decide ((len : Int) ≤ (p : Int)) = false := decide_eq_false (by omega)
  have hgN : decide (len ≤ p) = false := decide_eq_false (by omega)
  have hp0 : (0 : Int) ≤ (p : Int) := by omega
  have hp1 : (p : Int) < (len : Int) := by omega
  go_enter Tryz.func64, Tryz.ntmps64
  go_wp2_with fail
  go_quiet (fail)
  go_wp2
  go_ret
  exact ⟨rfl, _, rfl⟩

set_option maxRecDepth 100000 in
set_option maxHeartbeats 1000000 in
theorem mark_yes (rb : Nat) (w : World) (s t : ByteArray) (b len cap p : Nat) (hl : len ≤ 60) (hp : p < len) (hk : (t.toList == s.toList) = true) (q0 : w.cell? ⟨rb, 0, none⟩ = some (.slice (some ⟨b, 0, none⟩) len cap)) (q1 : w.cell? ⟨rb, 1, none⟩ = some (.int .i64 p)) (q3 : w.cell? ⟨rb, 3, none⟩ = some (.bool false))
    (hf : ∀ o, w.frozen? ⟨rb, o, none⟩ = false) (r0 : w.cell? ⟨b, p * 4, none⟩ = some (.int .i64 3)) (r1 : w.cell? ⟨b, p * 4 + 1, none⟩ = some (.string t)) :
    Calls Tryz.prog 64 #[.pointer (some ⟨rb, 0, none⟩), .string s] w fun e w' => e = .returned (.bool true) ∧ ∃ n, w' = (w.drewN n).setCell ⟨rb, 1, none⟩ (.int .i64 ((p : Int) + 1)) := by
  have hg : decide ((len : Int) ≤ (p : Int)) = false := decide_eq_false (by omega)
  have hgN : decide (len ≤ p) = false := decide_eq_false (by omega)
  have hp0 : (0 : Int) ≤ (p : Int) := by omega
  have hp1 : (p : Int) < (len : Int) := by omega
  go_enter Tryz.func64, Tryz.ntmps64
  go_wp2_with fail
  go_quiet (fail)
  go_wp2
  go_ret
  exact ⟨rfl, _, rfl⟩

theorem text_eq (t : List UInt8) (s : ByteArray) (c : UInt8) (hs : s.data.toList = [c]) : ((⟨t.toArray⟩ : ByteArray).toList == s.toList) = (t == [c]) := by
  rw [ByteArray.toList_eq, ByteArray.toList_eq, hs]

/-- Is the next word this mark? Then it is read. -/
theorem mark31 (rb : Nat) (ws : List Wd.Word) (p : Nat) (c : UInt8) (s : ByteArray) (hs : s.data.toList = [c]) (w : World) (h : Rd w rb ws p) :
    Calls Tryz.prog 64 #[.pointer (some ⟨rb, 0, none⟩), .string s] w fun e w' => e = .returned (.bool (Ps.isMark ws p c)) ∧ WentR rb ws (if Ps.isMark ws p c then p + 1 else p) w w' := by
  have h' := h
  obtain ⟨h1, h2, hf, ao, cap, en, po, b, q0, q1, q2, q3, q4, h3, h4⟩ := h
  have stay : ∀ n, WentR rb ws p w (w.drewN n) := fun n => ⟨h'.below (drewN_below _ w n), ⟨rfl, rfl, rfl, Nat.le_refl _, fun _ _ _ => rfl⟩⟩
  by_cases hp : p < ws.length
  · obtain ⟨rfl, hb⟩ := h3 (by omega)
    have hx : ws[p]? = some ws[p] := List.getElem?_eq_getElem hp
    obtain ⟨r0, r1, r2, r3⟩ := h4 p _ hx
    have hm : Ps.isMark ws p c = ((ws[p]).kind == 3 && (ws[p]).text == [c]) := by unfold Ps.isMark; rw [hx]
    by_cases hk : (ws[p]).kind = 3
    · rw [hk] at r0
      by_cases ht : (ws[p]).text = [c]
      · have e : Ps.isMark ws p c = true := by rw [hm, hk, ht]; simp
        rw [e]
        refine (mark_yes rb w s _ b ws.length cap p h1 hp (by rw [text_eq _ s c hs, ht]; simp) q0 q1 q3 hf r0 r1).mono ?_
        rintro e w' ⟨rfl, n, rfl⟩
        refine ⟨rfl, h'.step (q := p + 1) (by omega) n 0 rfl, ?_⟩
        exact Kept.setCell (P := Save rb) (p := ⟨rb, 1, none⟩) (⟨rfl, rfl, rfl, Nat.le_refl _, fun _ _ _ => rfl⟩ : Kept (Save rb) w (w.drewN n)) (fun k _ hk => hk) _
      · have e : Ps.isMark ws p c = false := by rw [hm]; simp [ht]
        rw [e]
        refine (mark_other rb w s _ b ws.length cap p h1 hp (by rw [text_eq _ s c hs]; simp [ht]) q0 q1 q3 r0 r1).mono ?_
        rintro e w' ⟨rfl, n, rfl⟩
        exact ⟨rfl, stay n⟩
    · have e : Ps.isMark ws p c = false := by rw [hm]; simp [hk]
      rw [e]
      refine (mark_kind rb w s s _ b ws.length cap p h1 hp (r3.1.resolve_right hk) q0 q1 q3 r0).mono ?_
      rintro e w' ⟨rfl, n, rfl⟩
      exact ⟨rfl, stay n⟩
  · have e : Ps.isMark ws p c = false := by unfold Ps.isMark; rw [List.getElem?_eq_none (by omega)]
    rw [e]
    refine (mark_over rb w s ao ws.length cap p h1 (by omega) (by omega) q0 q1 q3).mono ?_
    rintro e w' ⟨rfl, n, rfl⟩
    exact ⟨rfl, stay n⟩

end Rf
end Go.Proofs.YtdeojcodbojmoaaGreatDoor
namespace Go.Proofs.YtdeojcodbojmoaaGreatDoor
namespace Rf
open Go.RowKit
set_option maxRecDepth 100000
set_option linter.unusedVariables false

set_option maxRecDepth 100000 in
set_option maxHeartbeats 2000000 in
theorem num_yes (rb : Nat) (w : World) (below k : Int) (b len cap p : Nat) (hl : len ≤ 60) (hp : p < len) (hk : k < below) (q0 : w.cell? ⟨rb, 0, none⟩ = some (.slice (some ⟨b, 0, none⟩) len cap)) (q1 : w.cell? ⟨rb, 1, none⟩ = some (.int .i64 p)) (q3 : w.cell? ⟨rb, 3, none⟩ = some (.bool false))
    (hf : ∀ o, w.frozen? ⟨rb, o, none⟩ = false) (hne : b ≠ rb) (r0 : w.cell? ⟨b, p * 4, none⟩ = some (.int .i64 2)) (r2 : w.cell? ⟨b, p * 4 + 2, none⟩ = some (.int .i64 k)) :
    Calls Tryz.prog 97 #[.pointer (some ⟨rb, 0, none⟩), .int .i64 below] w fun e w' => e = .returned (.int .i64 k) ∧ ∃ n m, w' = ((w.drewN n).setCell ⟨rb, 1, none⟩ (.int .i64 ((p : Int) + 1))).drewN m := by
  have hg : decide ((len : Int) ≤ (p : Int)) = false := decide_eq_false (by omega)
  have hgN : decide (len ≤ p) = false := decide_eq_false (by omega)
  have hg2 : decide (below ≤ k) = false := decide_eq_false (by omega)
  have hp0 : (0 : Int) ≤ (p : Int) := by omega
  have hp1 : (p : Int) < (len : Int) := by omega
  go_enter Tryz.func97, Tryz.ntmps97
  go_wp2_with fail
  go_quiet (fail)
  go_wp2_with fail
  obtain ⟨V, hV⟩ : ∃ V, V = (w.drewN nq).setCell ⟨rb, 1, none⟩ (.int .i64 ((p : Int) + 1)) := ⟨_, rfl⟩
  have s0 : V.cell? ⟨rb, 0, none⟩ = some (.slice (some ⟨b, 0, none⟩) len cap) := by rw [hV, World.cell?_setCell_other _ _ _ _ (by simp)]; exact q0
  have s1 : V.cell? ⟨rb, 1, none⟩ = some (.int .i64 ((p : Int) + 1)) := by rw [hV]; exact World.cell?_setCell_same _ _ _ (u := .int .i64 p) q1
  have s2 : V.cell? ⟨b, p * 4 + 2, none⟩ = some (.int .i64 k) := by rw [hV, World.cell?_setCell_other _ _ _ _ (fun e => hne (congrArg Addr.block e).symm)]; exact r2
  rw [← hV]
  have HV : Hid _ := hV
  clear hV q0 q1 q3 hf r0 r2
  have hwr : IntKind.i64.wrap ((p : Int) + 1 - 1) = (p : Int) := by simp only [IntKind.wrap, IntKind.signed, IntKind.bits]; simp; omega
  go_quiet (fail)
  go_wp2
  go_ret
  exact ⟨rfl, _, _, by rw [HV.out]⟩

/-- The next word is a number below so much: it is read. -/
theorem num38 (rb : Nat) (ws : List Wd.Word) (p : Nat) (below k : Int) (w : World) (h : Rd w rb ws p) (hn : Ps.num ws p below = some k) :
    Calls Tryz.prog 97 #[.pointer (some ⟨rb, 0, none⟩), .int .i64 below] w fun e w' => e = .returned (.int .i64 k) ∧ WentR rb ws (p + 1) w w' := by
  have h' := h
  obtain ⟨h1, h2, hf, ao, cap, en, po, b, q0, q1, q2, q3, q4, h3, h4⟩ := h
  unfold Ps.num at hn
  cases hx : ws[p]? with
  | none => rw [hx] at hn; cases hn
  | some x =>
    rw [hx] at hn
    by_cases hc : x.kind = 2 ∧ x.num < below
    · simp only [if_pos hc] at hn
      cases hn
      have hp : p < ws.length := (List.getElem?_eq_some_iff.1 hx).1
      obtain ⟨rfl, hb⟩ := h3 (by omega)
      obtain ⟨r0, r1, r2, r3⟩ := h4 p _ hx
      rw [hc.1] at r0
      refine (num_yes rb w below x.num b ws.length cap p h1 hp hc.2 q0 q1 q3 hf (by omega) r0 r2).mono ?_
      rintro e w' ⟨rfl, n, m, rfl⟩
      refine ⟨rfl, h'.step (q := p + 1) (by omega) n m rfl, ?_⟩
      have a := Kept.setCell (P := Save rb) (p := ⟨rb, 1, none⟩) (⟨rfl, rfl, rfl, Nat.le_refl _, fun _ _ _ => rfl⟩ : Kept (Save rb) w (w.drewN n)) (fun k _ hk => hk) (.int .i64 ((p : Int) + 1))
      exact ⟨a.os, a.tape, a.output, a.size, a.block⟩
    · simp only [if_neg hc] at hn
      cases hn

end Rf
end Go.Proofs.YtdeojcodbojmoaaGreatDoor
namespace Go.Proofs.YtdeojcodbojmoaaGreatDoor
namespace Rf
open Go.RowKit
set_option maxRecDepth 100000
set_option linter.unusedVariables false

theorem WentR.trans {rb q r : Nat} {ws : List Wd.Word} {a b c : World} (h : WentR rb ws q a b) (k : WentR rb ws r b c) : WentR rb ws r a c := ⟨k.1, h.2.trans k.2⟩
theorem WentR.refl {rb p : Nat} {ws : List Wd.Word} {w : World} (h : Rd w rb ws p) : WentR rb ws p w w := ⟨h, Kept.refl _ w⟩
theorem WentR.alloc {rb q : Nat} {ws : List Wd.Word} {a w : World} (h : WentR rb ws q a w) (o : Obj) : WentR rb ws q a (w.alloc o) :=
  ⟨h.1.below ((Below.refl _ w).alloc (by have := h.1.lt; omega) _), h.2.alloc o⟩
theorem WentR.drew {rb q : Nat} {ws : List Wd.Word} {a w : World} (h : WentR rb ws q a w) : WentR rb ws q a w.drew := ⟨h.1.below (Below.refl _ w).drew, h.2.drew⟩
theorem WentR.setCell {rb q : Nat} {ws : List Wd.Word} {a w : World} (h : WentR rb ws q a w) {p : Addr} (hp : a.heap.size ≤ p.block) (ha : rb < a.heap.size) (u : Value) : WentR rb ws q a (w.setCell p u) :=
  ⟨h.1.below ((Below.refl _ w).setCell (by omega) _), h.2.setCell (fun k hk _ => by omega) u⟩
theorem WentR.cell {rb q : Nat} {ws : List Wd.Word} {w w' : World} (h : WentR rb ws q w w') {b o : Nat} (hb : b < w.heap.size) (hp : rb < b) : w'.cell? ⟨b, o, none⟩ = w.cell? ⟨b, o, none⟩ := h.2.cell hb (by unfold Save; omega)
theorem WentR.frozen {rb q : Nat} {ws : List Wd.Word} {w w' : World} (h : WentR rb ws q w w') {b o : Nat} (hb : b < w.heap.size) (hp : rb < b) : w'.frozen? ⟨b, o, none⟩ = w.frozen? ⟨b, o, none⟩ := h.2.frozen hb (by unfold Save; omega)
theorem Rd.set {w : World} {rb p : Nat} {ws : List Wd.Word} (h : Rd w rb ws p) {a : Addr} (ha : rb < a.block) (u : Value) : Rd (w.setCell a u) rb ws p := h.below ((Below.refl _ w).setCell (by omega) _)

/-- All blocks from B on. -/
def Past (B : Nat) : Nat → Prop := fun b => B ≤ b
theorem WentR.past {rb q B : Nat} {ws : List Wd.Word} {w w' : World} (h : WentR rb ws q w w') (hB : rb < B) : Kept (Past B) w w' := h.2.mono (fun k _ hk => by unfold Past at hk; unfold Save; omega)

/-- What reading a filter leaves behind. -/
def FR (rb : Nat) (ws : List Wd.Word) (f : Ps.Ft) (q : Nat) (w : World) (e : Ending) (w' : World) : Prop :=
  ∃ (o k l h : Int) (t : ByteArray) (x : Option Addr) (n : Nat), e = .returned (.agg #[.int .i64 o, .int .i64 k, .int .i64 l, .int .i64 h, .string t, .slice x n n]) ∧ Lies (Past w.heap.size) w' f o k l h t x n ∧ WentR rb ws q w w'

set_option maxRecDepth 100000 in
set_option maxHeartbeats 4000000 in
theorem key_eq (rb : Nat) (ws : List Wd.Word) (p : Nat) (k a : Int) (w : World) (h : Rd w rb ws p) (h1 : Ps.num ws p 4 = some k) (h2 : Ps.isMark ws (p + 1) 61 = true) (h3 : Ps.num ws (p + 2) 100 = some a) :
    Calls Tryz.prog 88 #[.pointer (some ⟨rb, 0, none⟩)] w (FR rb ws (.leaf 2 k a a ⟨#[]⟩) (p + 3) w) := by
  have hlt := h.lt
  have c1 := fun w (h : Rd w rb ws p) => num38 rb ws p 4 k w h h1
  have c2 := fun w (h : Rd w rb ws (p + 1)) => mark31 rb ws (p + 1) 61 ⟨#[61]⟩ rfl w h
  have c3 := fun w (h : Rd w rb ws (p + 2)) => num38 rb ws (p + 2) 100 a w h h3
  rw [h2] at c2
  simp only [if_true] at c2
  clear h1 h2 h3
  unfold FR
  go_enter Tryz.func88, Tryz.ntmps88
  go_wp2_with fail
  have hW0 : WentR rb ws p w (w.alloc (.cells #[.int .i64 0, .int .i64 0, .int .i64 0, .int .i64 0, .string ⟨#[]⟩, .slice none 0 0] 53)) := (WentR.refl h).alloc _
  refine (c1 _ hW0.1).mono ?_
  rintro e w1 ⟨rfl, hw1⟩
  have zw1 : ∀ o, w1.cell? ⟨w.heap.size, o, none⟩ = (w.alloc (.cells #[.int .i64 0, .int .i64 0, .int .i64 0, .int .i64 0, .string ⟨#[]⟩, .slice none 0 0] 53)).cell? ⟨w.heap.size, o, none⟩ := fun o => hw1.cell (by simp) hlt
  have zfw1 : ∀ o, w1.frozen? ⟨w.heap.size, o, none⟩ = false := fun o => (hw1.frozen (by simp) hlt).trans (by simp)
  have s1 : w.heap.size < w1.heap.size := by have := hw1.2.size; simp at this; omega
  have hne : w1.heap.size ≠ w.heap.size := by omega
  have hne' : w.heap.size ≠ w1.heap.size := by omega
  have hWw1 := hW0.trans hw1
  clear hW0 hw1 c1
  go_wp2_with fail
  obtain ⟨V1, hV1⟩ : ∃ V, V = w1.alloc (.cells #[.int .i64 0, .int .i64 k, .int .i64 0, .int .i64 0, .string ⟨#[]⟩, .slice none 0 0] 53) := ⟨_, rfl⟩
  rw [← hV1]
  have y0V1 : V1.cell? ⟨w1.heap.size, 0, none⟩ = some (.int .i64 0) := by rw [hV1]; simp
  have y1V1 : V1.cell? ⟨w1.heap.size, 1, none⟩ = some (.int .i64 k) := by rw [hV1]; simp
  have y2V1 : V1.cell? ⟨w1.heap.size, 2, none⟩ = some (.int .i64 0) := by rw [hV1]; simp
  have y3V1 : V1.cell? ⟨w1.heap.size, 3, none⟩ = some (.int .i64 0) := by rw [hV1]; simp
  have y4V1 : V1.cell? ⟨w1.heap.size, 4, none⟩ = some (.string ⟨#[]⟩) := by rw [hV1]; simp
  have y5V1 : V1.cell? ⟨w1.heap.size, 5, none⟩ = some (.slice none 0 0) := by rw [hV1]; simp
  have yfV1 : ∀ o, V1.frozen? ⟨w1.heap.size, o, none⟩ = false := fun o => by rw [hV1]; simp
  have zV1 : ∀ o, V1.cell? ⟨w.heap.size, o, none⟩ = (w.alloc (.cells #[.int .i64 0, .int .i64 0, .int .i64 0, .int .i64 0, .string ⟨#[]⟩, .slice none 0 0] 53)).cell? ⟨w.heap.size, o, none⟩ := fun o => by rw [hV1, World.cell?_alloc_past _ _ _ (hn := s1)]; exact zw1 o
  have zfV1 : ∀ o, V1.frozen? ⟨w.heap.size, o, none⟩ = false := fun o => by rw [hV1, World.frozen?_alloc_past _ _ _ (hn := s1)]; exact zfw1 o
  have sV1 : w1.heap.size < V1.heap.size := by rw [hV1]; simp
  have hWV1 := hWw1.alloc (.cells #[.int .i64 0, .int .i64 k, .int .i64 0, .int .i64 0, .string ⟨#[]⟩, .slice none 0 0] 53)
  rw [← hV1] at hWV1
  clear hV1 hWw1 zw1 zfw1
  refine (c2 _ hWV1.1).mono ?_
  rintro e w2 ⟨rfl, hw2⟩
  have y0w2 := (hw2.cell sV1 (by omega)).trans y0V1
  have y1w2 := (hw2.cell sV1 (by omega)).trans y1V1
  have y2w2 := (hw2.cell sV1 (by omega)).trans y2V1
  have y3w2 := (hw2.cell sV1 (by omega)).trans y3V1
  have y4w2 := (hw2.cell sV1 (by omega)).trans y4V1
  have y5w2 := (hw2.cell sV1 (by omega)).trans y5V1
  have yfw2 : ∀ o, w2.frozen? ⟨w1.heap.size, o, none⟩ = false := fun o => (hw2.frozen sV1 (by omega)).trans (yfV1 o)
  have zw2 : ∀ o, w2.cell? ⟨w.heap.size, o, none⟩ = (w.alloc (.cells #[.int .i64 0, .int .i64 0, .int .i64 0, .int .i64 0, .string ⟨#[]⟩, .slice none 0 0] 53)).cell? ⟨w.heap.size, o, none⟩ := fun o => (hw2.cell (by omega) hlt).trans (zV1 o)
  have zfw2 : ∀ o, w2.frozen? ⟨w.heap.size, o, none⟩ = false := fun o => (hw2.frozen (by omega) hlt).trans (zfV1 o)
  have sw2 : w1.heap.size < w2.heap.size := Nat.lt_of_lt_of_le sV1 hw2.2.size
  have hWw2 := hWV1.trans hw2
  clear hw2 c2
  clear y0V1 y1V1 y2V1 y3V1 y4V1 y5V1 yfV1 zV1 zfV1 hWV1
  go_wp2_with fail
  obtain ⟨V2, hV2⟩ : ∃ V, V = (w2).setCell ⟨w1.heap.size, 0, none⟩ (.int .i64 2) := ⟨_, rfl⟩
  rw [← hV2]
  have y0V2 : V2.cell? ⟨w1.heap.size, 0, none⟩ = some (.int .i64 2) := by rw [hV2]; exact World.cell?_setCell_same w2 ⟨w1.heap.size, 0, none⟩ _ (u := (.int .i64 0)) y0w2
  have y1V2 : V2.cell? ⟨w1.heap.size, 1, none⟩ = some (.int .i64 k) := by rw [hV2]; exact (World.cell?_setCell_other _ _ _ _ (by simp)).trans y1w2
  have y2V2 : V2.cell? ⟨w1.heap.size, 2, none⟩ = some (.int .i64 0) := by rw [hV2]; exact (World.cell?_setCell_other _ _ _ _ (by simp)).trans y2w2
  have y3V2 : V2.cell? ⟨w1.heap.size, 3, none⟩ = some (.int .i64 0) := by rw [hV2]; exact (World.cell?_setCell_other _ _ _ _ (by simp)).trans y3w2
  have y4V2 : V2.cell? ⟨w1.heap.size, 4, none⟩ = some (.string ⟨#[]⟩) := by rw [hV2]; exact (World.cell?_setCell_other _ _ _ _ (by simp)).trans y4w2
  have y5V2 : V2.cell? ⟨w1.heap.size, 5, none⟩ = some (.slice none 0 0) := by rw [hV2]; exact (World.cell?_setCell_other _ _ _ _ (by simp)).trans y5w2
  have yfV2 : ∀ o, V2.frozen? ⟨w1.heap.size, o, none⟩ = false := fun o => by rw [hV2]; simpa using yfw2 o
  have zV2 : ∀ o, V2.cell? ⟨w.heap.size, o, none⟩ = (w.alloc (.cells #[.int .i64 0, .int .i64 0, .int .i64 0, .int .i64 0, .string ⟨#[]⟩, .slice none 0 0] 53)).cell? ⟨w.heap.size, o, none⟩ := fun o => by
    rw [hV2]
    repeat rw [World.cell?_setCell_other _ _ _ _ (fun e => hne (congrArg Addr.block e))]
    exact zw2 o
  have zfV2 : ∀ o, V2.frozen? ⟨w.heap.size, o, none⟩ = false := fun o => by rw [hV2]; simpa using zfw2 o
  have sV2 : w1.heap.size < V2.heap.size := by rw [hV2]; simpa [World.setCell] using sw2
  have hWV2 := hWw2.setCell (p := ⟨w1.heap.size, 0, none⟩) (by simp; omega) hlt (.int .i64 2)
  rw [← hV2] at hWV2
  clear hV2
  clear y0w2 y1w2 y2w2 y3w2 y4w2 y5w2 yfw2 zw2 zfw2 hWw2
  refine (c3 _ hWV2.1).mono ?_
  rintro e w3 ⟨rfl, hw3⟩
  have y0w3 := (hw3.cell sV2 (by omega)).trans y0V2
  have y1w3 := (hw3.cell sV2 (by omega)).trans y1V2
  have y2w3 := (hw3.cell sV2 (by omega)).trans y2V2
  have y3w3 := (hw3.cell sV2 (by omega)).trans y3V2
  have y4w3 := (hw3.cell sV2 (by omega)).trans y4V2
  have y5w3 := (hw3.cell sV2 (by omega)).trans y5V2
  have yfw3 : ∀ o, w3.frozen? ⟨w1.heap.size, o, none⟩ = false := fun o => (hw3.frozen sV2 (by omega)).trans (yfV2 o)
  have zw3 : ∀ o, w3.cell? ⟨w.heap.size, o, none⟩ = (w.alloc (.cells #[.int .i64 0, .int .i64 0, .int .i64 0, .int .i64 0, .string ⟨#[]⟩, .slice none 0 0] 53)).cell? ⟨w.heap.size, o, none⟩ := fun o => (hw3.cell (by omega) hlt).trans (zV2 o)
  have zfw3 : ∀ o, w3.frozen? ⟨w.heap.size, o, none⟩ = false := fun o => (hw3.frozen (by omega) hlt).trans (zfV2 o)
  have sw3 : w1.heap.size < w3.heap.size := Nat.lt_of_lt_of_le sV2 hw3.2.size
  have hWw3 := hWV2.trans hw3
  clear hw3 c3
  clear y0V2 y1V2 y2V2 y3V2 y4V2 y5V2 yfV2 zV2 zfV2 hWV2
  go_wp2
  refine bodyPost_ret (v := .agg #[.int .i64 2, .int .i64 k, .int .i64 a, .int .i64 a, .string ⟨#[]⟩, .slice none 0 0]) (by simp [results, Tryz.results88, go_sem, *]) rfl ⟨2, k, a, a, ⟨#[]⟩, none, 0, rfl, ⟨rfl, rfl, rfl, rfl, rfl, rfl, rfl⟩, ?_⟩
  repeat (refine WentR.setCell ?_ (by simp <;> omega) hlt _)
  exact hWw3

set_option maxRecDepth 100000 in
set_option maxHeartbeats 4000000 in
theorem key_range (rb : Nat) (ws : List Wd.Word) (p : Nat) (k a b : Int) (w : World) (h : Rd w rb ws p) (h1 : Ps.num ws p 4 = some k) (h2 : Ps.isMark ws (p + 1) 61 = false) (h3 : Ps.isMark ws (p + 1) 58 = true) (h4 : Ps.num ws (p + 2) 100 = some a) (h5 : Ps.isMark ws (p + 3) 45 = true) (h6 : Ps.num ws (p + 4) 100 = some b) (hab : a ≤ b) :
    Calls Tryz.prog 88 #[.pointer (some ⟨rb, 0, none⟩)] w (FR rb ws (.leaf 3 k a b ⟨#[]⟩) (p + 5) w) := by
  have hlt := h.lt
  have c1 := fun w (h : Rd w rb ws p) => num38 rb ws p 4 k w h h1
  have c2 := fun w (h : Rd w rb ws (p + 1)) => mark31 rb ws (p + 1) 61 ⟨#[61]⟩ rfl w h
  have c3 := fun w (h : Rd w rb ws (p + 1)) => mark31 rb ws (p + 1) 58 ⟨#[58]⟩ rfl w h
  have c4 := fun w (h : Rd w rb ws (p + 2)) => num38 rb ws (p + 2) 100 a w h h4
  have c5 := fun w (h : Rd w rb ws (p + 3)) => mark31 rb ws (p + 3) 45 ⟨#[45]⟩ rfl w h
  have c6 := fun w (h : Rd w rb ws (p + 4)) => num38 rb ws (p + 4) 100 b w h h6
  rw [h2] at c2
  rw [h3] at c3
  rw [h5] at c5
  simp only [if_true, Bool.false_eq_true, if_false] at c2 c3 c5
  clear h1 h2 h3 h4 h5 h6
  unfold FR
  go_enter Tryz.func88, Tryz.ntmps88
  go_wp2_with fail
  have hW0 : WentR rb ws p w (w.alloc (.cells #[.int .i64 0, .int .i64 0, .int .i64 0, .int .i64 0, .string ⟨#[]⟩, .slice none 0 0] 53)) := (WentR.refl h).alloc _
  refine (c1 _ hW0.1).mono ?_
  rintro e w1 ⟨rfl, hw1⟩
  have zw1 : ∀ o, w1.cell? ⟨w.heap.size, o, none⟩ = (w.alloc (.cells #[.int .i64 0, .int .i64 0, .int .i64 0, .int .i64 0, .string ⟨#[]⟩, .slice none 0 0] 53)).cell? ⟨w.heap.size, o, none⟩ := fun o => hw1.cell (by simp) hlt
  have zfw1 : ∀ o, w1.frozen? ⟨w.heap.size, o, none⟩ = false := fun o => (hw1.frozen (by simp) hlt).trans (by simp)
  have s1 : w.heap.size < w1.heap.size := by have := hw1.2.size; simp at this; omega
  have hne : w1.heap.size ≠ w.heap.size := by omega
  have hne' : w.heap.size ≠ w1.heap.size := by omega
  have hWw1 := hW0.trans hw1
  clear hW0 hw1 c1
  go_wp2_with fail
  obtain ⟨V1, hV1⟩ : ∃ V, V = w1.alloc (.cells #[.int .i64 0, .int .i64 k, .int .i64 0, .int .i64 0, .string ⟨#[]⟩, .slice none 0 0] 53) := ⟨_, rfl⟩
  rw [← hV1]
  have y0V1 : V1.cell? ⟨w1.heap.size, 0, none⟩ = some (.int .i64 0) := by rw [hV1]; simp
  have y1V1 : V1.cell? ⟨w1.heap.size, 1, none⟩ = some (.int .i64 k) := by rw [hV1]; simp
  have y2V1 : V1.cell? ⟨w1.heap.size, 2, none⟩ = some (.int .i64 0) := by rw [hV1]; simp
  have y3V1 : V1.cell? ⟨w1.heap.size, 3, none⟩ = some (.int .i64 0) := by rw [hV1]; simp
  have y4V1 : V1.cell? ⟨w1.heap.size, 4, none⟩ = some (.string ⟨#[]⟩) := by rw [hV1]; simp
  have y5V1 : V1.cell? ⟨w1.heap.size, 5, none⟩ = some (.slice none 0 0) := by rw [hV1]; simp
  have yfV1 : ∀ o, V1.frozen? ⟨w1.heap.size, o, none⟩ = false := fun o => by rw [hV1]; simp
  have zV1 : ∀ o, V1.cell? ⟨w.heap.size, o, none⟩ = (w.alloc (.cells #[.int .i64 0, .int .i64 0, .int .i64 0, .int .i64 0, .string ⟨#[]⟩, .slice none 0 0] 53)).cell? ⟨w.heap.size, o, none⟩ := fun o => by rw [hV1, World.cell?_alloc_past _ _ _ (hn := s1)]; exact zw1 o
  have zfV1 : ∀ o, V1.frozen? ⟨w.heap.size, o, none⟩ = false := fun o => by rw [hV1, World.frozen?_alloc_past _ _ _ (hn := s1)]; exact zfw1 o
  have sV1 : w1.heap.size < V1.heap.size := by rw [hV1]; simp
  have hWV1 := hWw1.alloc (.cells #[.int .i64 0, .int .i64 k, .int .i64 0, .int .i64 0, .string ⟨#[]⟩, .slice none 0 0] 53)
  rw [← hV1] at hWV1
  clear hV1 hWw1 zw1 zfw1
  refine (c2 _ hWV1.1).mono ?_
  rintro e w2 ⟨rfl, hw2⟩
  have y0w2 := (hw2.cell sV1 (by omega)).trans y0V1
  have y1w2 := (hw2.cell sV1 (by omega)).trans y1V1
  have y2w2 := (hw2.cell sV1 (by omega)).trans y2V1
  have y3w2 := (hw2.cell sV1 (by omega)).trans y3V1
  have y4w2 := (hw2.cell sV1 (by omega)).trans y4V1
  have y5w2 := (hw2.cell sV1 (by omega)).trans y5V1
  have yfw2 : ∀ o, w2.frozen? ⟨w1.heap.size, o, none⟩ = false := fun o => (hw2.frozen sV1 (by omega)).trans (yfV1 o)
  have zw2 : ∀ o, w2.cell? ⟨w.heap.size, o, none⟩ = (w.alloc (.cells #[.int .i64 0, .int .i64 0, .int .i64 0, .int .i64 0, .string ⟨#[]⟩, .slice none 0 0] 53)).cell? ⟨w.heap.size, o, none⟩ := fun o => (hw2.cell (by omega) hlt).trans (zV1 o)
  have zfw2 : ∀ o, w2.frozen? ⟨w.heap.size, o, none⟩ = false := fun o => (hw2.frozen (by omega) hlt).trans (zfV1 o)
  have sw2 : w1.heap.size < w2.heap.size := Nat.lt_of_lt_of_le sV1 hw2.2.size
  have hWw2 := hWV1.trans hw2
  clear hw2 c2
  clear y0V1 y1V1 y2V1 y3V1 y4V1 y5V1 yfV1 zV1 zfV1 hWV1
  go_wp2_with fail
  refine (c3 _ hWw2.1).mono ?_
  rintro e w3 ⟨rfl, hw3⟩
  have y0w3 := (hw3.cell sw2 (by omega)).trans y0w2
  have y1w3 := (hw3.cell sw2 (by omega)).trans y1w2
  have y2w3 := (hw3.cell sw2 (by omega)).trans y2w2
  have y3w3 := (hw3.cell sw2 (by omega)).trans y3w2
  have y4w3 := (hw3.cell sw2 (by omega)).trans y4w2
  have y5w3 := (hw3.cell sw2 (by omega)).trans y5w2
  have yfw3 : ∀ o, w3.frozen? ⟨w1.heap.size, o, none⟩ = false := fun o => (hw3.frozen sw2 (by omega)).trans (yfw2 o)
  have zw3 : ∀ o, w3.cell? ⟨w.heap.size, o, none⟩ = (w.alloc (.cells #[.int .i64 0, .int .i64 0, .int .i64 0, .int .i64 0, .string ⟨#[]⟩, .slice none 0 0] 53)).cell? ⟨w.heap.size, o, none⟩ := fun o => (hw3.cell (by omega) hlt).trans (zw2 o)
  have zfw3 : ∀ o, w3.frozen? ⟨w.heap.size, o, none⟩ = false := fun o => (hw3.frozen (by omega) hlt).trans (zfw2 o)
  have sw3 : w1.heap.size < w3.heap.size := Nat.lt_of_lt_of_le sw2 hw3.2.size
  have hWw3 := hWw2.trans hw3
  clear hw3 c3
  clear y0w2 y1w2 y2w2 y3w2 y4w2 y5w2 yfw2 zw2 zfw2 hWw2
  go_wp2_with fail
  obtain ⟨V2, hV2⟩ : ∃ V, V = (w3).setCell ⟨w1.heap.size, 0, none⟩ (.int .i64 3) := ⟨_, rfl⟩
  rw [← hV2]
  have y0V2 : V2.cell? ⟨w1.heap.size, 0, none⟩ = some (.int .i64 3) := by rw [hV2]; exact World.cell?_setCell_same w3 ⟨w1.heap.size, 0, none⟩ _ (u := (.int .i64 0)) y0w3
  have y1V2 : V2.cell? ⟨w1.heap.size, 1, none⟩ = some (.int .i64 k) := by rw [hV2]; exact (World.cell?_setCell_other _ _ _ _ (by simp)).trans y1w3
  have y2V2 : V2.cell? ⟨w1.heap.size, 2, none⟩ = some (.int .i64 0) := by rw [hV2]; exact (World.cell?_setCell_other _ _ _ _ (by simp)).trans y2w3
  have y3V2 : V2.cell? ⟨w1.heap.size, 3, none⟩ = some (.int .i64 0) := by rw [hV2]; exact (World.cell?_setCell_other _ _ _ _ (by simp)).trans y3w3
  have y4V2 : V2.cell? ⟨w1.heap.size, 4, none⟩ = some (.string ⟨#[]⟩) := by rw [hV2]; exact (World.cell?_setCell_other _ _ _ _ (by simp)).trans y4w3
  have y5V2 : V2.cell? ⟨w1.heap.size, 5, none⟩ = some (.slice none 0 0) := by rw [hV2]; exact (World.cell?_setCell_other _ _ _ _ (by simp)).trans y5w3
  have yfV2 : ∀ o, V2.frozen? ⟨w1.heap.size, o, none⟩ = false := fun o => by rw [hV2]; simpa using yfw3 o
  have zV2 : ∀ o, V2.cell? ⟨w.heap.size, o, none⟩ = (w.alloc (.cells #[.int .i64 0, .int .i64 0, .int .i64 0, .int .i64 0, .string ⟨#[]⟩, .slice none 0 0] 53)).cell? ⟨w.heap.size, o, none⟩ := fun o => by
    rw [hV2]
    repeat rw [World.cell?_setCell_other _ _ _ _ (fun e => hne (congrArg Addr.block e))]
    exact zw3 o
  have zfV2 : ∀ o, V2.frozen? ⟨w.heap.size, o, none⟩ = false := fun o => by rw [hV2]; simpa using zfw3 o
  have sV2 : w1.heap.size < V2.heap.size := by rw [hV2]; simpa [World.setCell] using sw3
  have hWV2 := hWw3.setCell (p := ⟨w1.heap.size, 0, none⟩) (by simp; omega) hlt (.int .i64 3)
  rw [← hV2] at hWV2
  clear hV2
  clear y0w3 y1w3 y2w3 y3w3 y4w3 y5w3 yfw3 zw3 zfw3 hWw3
  refine (c4 _ hWV2.1).mono ?_
  rintro e w4 ⟨rfl, hw4⟩
  have y0w4 := (hw4.cell sV2 (by omega)).trans y0V2
  have y1w4 := (hw4.cell sV2 (by omega)).trans y1V2
  have y2w4 := (hw4.cell sV2 (by omega)).trans y2V2
  have y3w4 := (hw4.cell sV2 (by omega)).trans y3V2
  have y4w4 := (hw4.cell sV2 (by omega)).trans y4V2
  have y5w4 := (hw4.cell sV2 (by omega)).trans y5V2
  have yfw4 : ∀ o, w4.frozen? ⟨w1.heap.size, o, none⟩ = false := fun o => (hw4.frozen sV2 (by omega)).trans (yfV2 o)
  have zw4 : ∀ o, w4.cell? ⟨w.heap.size, o, none⟩ = (w.alloc (.cells #[.int .i64 0, .int .i64 0, .int .i64 0, .int .i64 0, .string ⟨#[]⟩, .slice none 0 0] 53)).cell? ⟨w.heap.size, o, none⟩ := fun o => (hw4.cell (by omega) hlt).trans (zV2 o)
  have zfw4 : ∀ o, w4.frozen? ⟨w.heap.size, o, none⟩ = false := fun o => (hw4.frozen (by omega) hlt).trans (zfV2 o)
  have sw4 : w1.heap.size < w4.heap.size := Nat.lt_of_lt_of_le sV2 hw4.2.size
  have hWw4 := hWV2.trans hw4
  clear hw4 c4
  clear y0V2 y1V2 y2V2 y3V2 y4V2 y5V2 yfV2 zV2 zfV2 hWV2
  go_wp2_with fail
  obtain ⟨V3, hV3⟩ : ∃ V, V = (w4).setCell ⟨w1.heap.size, 2, none⟩ (.int .i64 a) := ⟨_, rfl⟩
  rw [← hV3]
  have y0V3 : V3.cell? ⟨w1.heap.size, 0, none⟩ = some (.int .i64 3) := by rw [hV3]; exact (World.cell?_setCell_other _ _ _ _ (by simp)).trans y0w4
  have y1V3 : V3.cell? ⟨w1.heap.size, 1, none⟩ = some (.int .i64 k) := by rw [hV3]; exact (World.cell?_setCell_other _ _ _ _ (by simp)).trans y1w4
  have y2V3 : V3.cell? ⟨w1.heap.size, 2, none⟩ = some (.int .i64 a) := by rw [hV3]; exact World.cell?_setCell_same w4 ⟨w1.heap.size, 2, none⟩ _ (u := (.int .i64 0)) y2w4
  have y3V3 : V3.cell? ⟨w1.heap.size, 3, none⟩ = some (.int .i64 0) := by rw [hV3]; exact (World.cell?_setCell_other _ _ _ _ (by simp)).trans y3w4
  have y4V3 : V3.cell? ⟨w1.heap.size, 4, none⟩ = some (.string ⟨#[]⟩) := by rw [hV3]; exact (World.cell?_setCell_other _ _ _ _ (by simp)).trans y4w4
  have y5V3 : V3.cell? ⟨w1.heap.size, 5, none⟩ = some (.slice none 0 0) := by rw [hV3]; exact (World.cell?_setCell_other _ _ _ _ (by simp)).trans y5w4
  have yfV3 : ∀ o, V3.frozen? ⟨w1.heap.size, o, none⟩ = false := fun o => by rw [hV3]; simpa using yfw4 o
  have zV3 : ∀ o, V3.cell? ⟨w.heap.size, o, none⟩ = (w.alloc (.cells #[.int .i64 0, .int .i64 0, .int .i64 0, .int .i64 0, .string ⟨#[]⟩, .slice none 0 0] 53)).cell? ⟨w.heap.size, o, none⟩ := fun o => by
    rw [hV3]
    repeat rw [World.cell?_setCell_other _ _ _ _ (fun e => hne (congrArg Addr.block e))]
    exact zw4 o
  have zfV3 : ∀ o, V3.frozen? ⟨w.heap.size, o, none⟩ = false := fun o => by rw [hV3]; simpa using zfw4 o
  have sV3 : w1.heap.size < V3.heap.size := by rw [hV3]; simpa [World.setCell] using sw4
  have hWV3 := hWw4.setCell (p := ⟨w1.heap.size, 2, none⟩) (by simp; omega) hlt (.int .i64 a)
  rw [← hV3] at hWV3
  clear hV3
  clear y0w4 y1w4 y2w4 y3w4 y4w4 y5w4 yfw4 zw4 zfw4 hWw4
  refine (c5 _ hWV3.1).mono ?_
  rintro e w5 ⟨rfl, hw5⟩
  have y0w5 := (hw5.cell sV3 (by omega)).trans y0V3
  have y1w5 := (hw5.cell sV3 (by omega)).trans y1V3
  have y2w5 := (hw5.cell sV3 (by omega)).trans y2V3
  have y3w5 := (hw5.cell sV3 (by omega)).trans y3V3
  have y4w5 := (hw5.cell sV3 (by omega)).trans y4V3
  have y5w5 := (hw5.cell sV3 (by omega)).trans y5V3
  have yfw5 : ∀ o, w5.frozen? ⟨w1.heap.size, o, none⟩ = false := fun o => (hw5.frozen sV3 (by omega)).trans (yfV3 o)
  have zw5 : ∀ o, w5.cell? ⟨w.heap.size, o, none⟩ = (w.alloc (.cells #[.int .i64 0, .int .i64 0, .int .i64 0, .int .i64 0, .string ⟨#[]⟩, .slice none 0 0] 53)).cell? ⟨w.heap.size, o, none⟩ := fun o => (hw5.cell (by omega) hlt).trans (zV3 o)
  have zfw5 : ∀ o, w5.frozen? ⟨w.heap.size, o, none⟩ = false := fun o => (hw5.frozen (by omega) hlt).trans (zfV3 o)
  have sw5 : w1.heap.size < w5.heap.size := Nat.lt_of_lt_of_le sV3 hw5.2.size
  have hWw5 := hWV3.trans hw5
  clear hw5 c5
  clear y0V3 y1V3 y2V3 y3V3 y4V3 y5V3 yfV3 zV3 zfV3 hWV3
  go_wp2_with fail
  refine (c6 _ hWw5.1).mono ?_
  rintro e w6 ⟨rfl, hw6⟩
  have y0w6 := (hw6.cell sw5 (by omega)).trans y0w5
  have y1w6 := (hw6.cell sw5 (by omega)).trans y1w5
  have y2w6 := (hw6.cell sw5 (by omega)).trans y2w5
  have y3w6 := (hw6.cell sw5 (by omega)).trans y3w5
  have y4w6 := (hw6.cell sw5 (by omega)).trans y4w5
  have y5w6 := (hw6.cell sw5 (by omega)).trans y5w5
  have yfw6 : ∀ o, w6.frozen? ⟨w1.heap.size, o, none⟩ = false := fun o => (hw6.frozen sw5 (by omega)).trans (yfw5 o)
  have zw6 : ∀ o, w6.cell? ⟨w.heap.size, o, none⟩ = (w.alloc (.cells #[.int .i64 0, .int .i64 0, .int .i64 0, .int .i64 0, .string ⟨#[]⟩, .slice none 0 0] 53)).cell? ⟨w.heap.size, o, none⟩ := fun o => (hw6.cell (by omega) hlt).trans (zw5 o)
  have zfw6 : ∀ o, w6.frozen? ⟨w.heap.size, o, none⟩ = false := fun o => (hw6.frozen (by omega) hlt).trans (zfw5 o)
  have sw6 : w1.heap.size < w6.heap.size := Nat.lt_of_lt_of_le sw5 hw6.2.size
  have hWw6 := hWw5.trans hw6
  clear hw6 c6
  clear y0w5 y1w5 y2w5 y3w5 y4w5 y5w5 yfw5 zw5 zfw5 hWw5
  have hr3 := hWw6.1
  obtain ⟨_, _, _, _, _, _, _, _, _, _, _, qb, _⟩ := hr3
  have hba : decide (b < a) = false := decide_eq_false (by omega)
  go_wp2
  refine bodyPost_ret (v := .agg #[.int .i64 3, .int .i64 k, .int .i64 a, .int .i64 b, .string ⟨#[]⟩, .slice none 0 0]) (by simp [results, Tryz.results88, go_sem, *]) rfl ⟨3, k, a, b, ⟨#[]⟩, none, 0, rfl, ⟨rfl, rfl, rfl, rfl, rfl, rfl, rfl⟩, ?_⟩
  repeat (refine WentR.setCell ?_ (by simp <;> omega) hlt _)
  exact hWw6

theorem key37 (rb : Nat) (ws : List Wd.Word) (p q : Nat) (f : Ps.Ft) (w : World) (h : Rd w rb ws p) (hk : Ps.key ws p = some (f, q)) :
    Calls Tryz.prog 88 #[.pointer (some ⟨rb, 0, none⟩)] w (FR rb ws f q w) := by
  unfold Ps.key at hk
  split at hk
  · cases hk
  · rename_i k e1
    split at hk
    · rename_i e2
      split at hk
      · cases hk
      · rename_i a e3
        cases hk
        exact key_eq rb ws p k a w h e1 e2 e3
    · rename_i e2
      split at hk
      · rename_i e3
        split at hk
        · cases hk
        · rename_i a e4
          split at hk
          · rename_i e5
            split at hk
            · cases hk
            · rename_i b e6
              split at hk
              · rename_i e7
                cases hk
                exact key_range rb ws p k a b w h e1 (by simpa using e2) e3 e4 e5 e6 e7
              · cases hk
          · cases hk
      · cases hk

end Rf
end Go.Proofs.YtdeojcodbojmoaaGreatDoor
namespace Go.Proofs.YtdeojcodbojmoaaGreatDoor
namespace Rf
open Go.RowKit
set_option maxRecDepth 100000
set_option linter.unusedVariables false

set_option maxRecDepth 100000 in
set_option maxHeartbeats 4000000 in
theorem not_bang (rb : Nat) (ws : List Wd.Word) (p : Nat) (q : Nat) (f : Ps.Ft) (w : World) (h : Rd w rb ws p) (e33 : Ps.isMark ws p 33 = true) (c : ∀ w', Rd w' rb ws (p + 1) → Calls Tryz.prog 76 #[.pointer (some ⟨rb, 0, none⟩)] w' (FR rb ws f q w')) :
    Calls Tryz.prog 76 #[.pointer (some ⟨rb, 0, none⟩)] w (FR rb ws (.non f) (q) w) := by
  have hlt := h.lt
  have c33 := fun w (h : Rd w rb ws p) => mark31 rb ws p 33 ⟨#[33]⟩ rfl w h
  rw [e33] at c33
  simp only [if_true] at c33
  clear e33
  unfold FR at c
  unfold FR
  go_enter Tryz.func76, Tryz.ntmps76
  go_wp2_with fail
  have hWw0 : WentR rb ws p w (w.alloc (.cells #[.int .i64 0, .int .i64 0, .int .i64 0, .int .i64 0, .string ⟨#[]⟩, .slice none 0 0] 53)) := (WentR.refl h).alloc _
  have zw0 : ∀ o, (w.alloc (.cells #[.int .i64 0, .int .i64 0, .int .i64 0, .int .i64 0, .string ⟨#[]⟩, .slice none 0 0] 53)).cell? ⟨w.heap.size, o, none⟩ = (w.alloc (.cells #[.int .i64 0, .int .i64 0, .int .i64 0, .int .i64 0, .string ⟨#[]⟩, .slice none 0 0] 53)).cell? ⟨w.heap.size, o, none⟩ := fun _ => rfl
  have zfw0 : ∀ o, (w.alloc (.cells #[.int .i64 0, .int .i64 0, .int .i64 0, .int .i64 0, .string ⟨#[]⟩, .slice none 0 0] 53)).frozen? ⟨w.heap.size, o, none⟩ = false := fun o => by simp
  have sw0 : w.heap.size < (w.alloc (.cells #[.int .i64 0, .int .i64 0, .int .i64 0, .int .i64 0, .string ⟨#[]⟩, .slice none 0 0] 53)).heap.size := by simp
  refine (c33 _ hWw0.1).mono ?_
  rintro e w1 ⟨rfl, hw1⟩
  have zw1 : ∀ o, w1.cell? ⟨w.heap.size, o, none⟩ = (w.alloc (.cells #[.int .i64 0, .int .i64 0, .int .i64 0, .int .i64 0, .string ⟨#[]⟩, .slice none 0 0] 53)).cell? ⟨w.heap.size, o, none⟩ := fun o => (hw1.cell sw0 hlt).trans (zw0 o)
  have zfw1 : ∀ o, w1.frozen? ⟨w.heap.size, o, none⟩ = false := fun o => (hw1.frozen sw0 hlt).trans (zfw0 o)
  have sw1 : w.heap.size < w1.heap.size := Nat.lt_of_lt_of_le sw0 hw1.2.size
  have hWw1 := hWw0.trans hw1
  clear hw1 zw0 zfw0 hWw0 c33
  go_wp2_with fail
  refine (c _ hWw1.1).mono ?_
  rintro e w2 ⟨o1, k1, l1, h1, t1, x1, n1, rfl, ly1, hw2⟩
  have zw2 : ∀ o, w2.cell? ⟨w.heap.size, o, none⟩ = (w.alloc (.cells #[.int .i64 0, .int .i64 0, .int .i64 0, .int .i64 0, .string ⟨#[]⟩, .slice none 0 0] 53)).cell? ⟨w.heap.size, o, none⟩ := fun o => (hw2.cell sw1 hlt).trans (zw1 o)
  have zfw2 : ∀ o, w2.frozen? ⟨w.heap.size, o, none⟩ = false := fun o => (hw2.frozen sw1 hlt).trans (zfw1 o)
  have sw2 : w.heap.size < w2.heap.size := Nat.lt_of_lt_of_le sw1 hw2.2.size
  have hWw2 := hWw1.trans hw2
  have s12 : w1.heap.size ≤ w2.heap.size := hw2.2.size
  clear hw2 zw1 zfw1 hWw1 c
  obtain ⟨V, hV⟩ : ∃ V, V = w2.alloc (.cells #[.int .i64 o1, .int .i64 k1, .int .i64 l1, .int .i64 h1, .string t1, .slice x1 n1 n1] 53) := ⟨_, rfl⟩
  have hSix : Six V w2.heap.size 0 o1 k1 l1 h1 t1 x1 n1 := by rw [hV]; unfold Six; simp
  have hV2 := (WentR.refl hWw2.1).alloc (.cells #[.int .i64 o1, .int .i64 k1, .int .i64 l1, .int .i64 h1, .string t1, .slice x1 n1 n1] 53)
  rw [← hV] at hV2
  have zV0 := (hV2.cell sw2 hlt (o := 0)).trans ((zw2 0).trans (by simp : _ = some (.int .i64 0)))
  have zV1 := (hV2.cell sw2 hlt (o := 1)).trans ((zw2 1).trans (by simp : _ = some (.int .i64 0)))
  have zV2 := (hV2.cell sw2 hlt (o := 2)).trans ((zw2 2).trans (by simp : _ = some (.int .i64 0)))
  have zV3 := (hV2.cell sw2 hlt (o := 3)).trans ((zw2 3).trans (by simp : _ = some (.int .i64 0)))
  have zV4 := (hV2.cell sw2 hlt (o := 4)).trans ((zw2 4).trans (by simp : _ = some (.string ⟨#[]⟩)))
  have zV5 := (hV2.cell sw2 hlt (o := 5)).trans ((zw2 5).trans (by simp : _ = some (.slice none 0 0)))
  have zVf : ∀ o, V.frozen? ⟨w.heap.size, o, none⟩ = false := fun o => (hV2.frozen sw2 hlt).trans (zfw2 o)
  have hWV := hWw2.trans hV2
  have lyV : Lies (Past w1.heap.size) V f o1 k1 l1 h1 t1 x1 n1 := Lies.kept (hV2.past (by omega)) f ly1
  clear hV2 ly1 hWw2 zw2 zfw2
  simp only []
  iterate 4 (first | go_skip | go_guarded | go_step | go_upon | go_simp)
  rw [← hV]
  clear hV
  go_wp2
  refine bodyPost_ret (v := .agg #[.int .i64 7, .int .i64 0, .int .i64 0, .int .i64 0, .string ⟨#[]⟩, .slice (some ⟨w2.heap.size, 0, none⟩) 1 1]) (by simp [results, Tryz.results76, go_sem, *]) rfl ⟨7, 0, 0, 0, ⟨#[]⟩, some ⟨w2.heap.size, 0, none⟩, 1, rfl, ⟨rfl, rfl, rfl, rfl, rfl, w2.heap.size, o1, k1, l1, h1, t1, x1, n1, rfl, rfl, Nat.le_of_lt sw2, hSix.of (fun i => ?_), Lies.mono (P := Past w1.heap.size) (fun b _ hb => by unfold Past at *; omega) f (Lies.kept ?_ f lyV)⟩, ?_⟩
  · repeat rw [World.cell?_setCell_other _ _ _ _ (fun e => by have := congrArg Addr.block e; simp at this; omega)]
  · repeat (refine Kept.setCell ?_ (fun k hk hq => by unfold Past at hq; simp; omega) _)
    exact Kept.refl _ _
  · repeat (refine WentR.setCell ?_ (by simp <;> omega) hlt _)
    exact hWV

set_option maxRecDepth 100000 in
set_option maxHeartbeats 4000000 in
theorem not_open (rb : Nat) (ws : List Wd.Word) (p : Nat) (q : Nat) (f : Ps.Ft) (w : World) (h : Rd w rb ws p) (e33 : Ps.isMark ws p 33 = false) (e40 : Ps.isMark ws p 40 = true) (c : ∀ w', Rd w' rb ws (p + 1) → Calls Tryz.prog 43 #[.pointer (some ⟨rb, 0, none⟩)] w' (FR rb ws f q w')) (e41 : Ps.isMark ws q 41 = true) :
    Calls Tryz.prog 76 #[.pointer (some ⟨rb, 0, none⟩)] w (FR rb ws (f) (q + 1) w) := by
  have hlt := h.lt
  have c33 := fun w (h : Rd w rb ws p) => mark31 rb ws p 33 ⟨#[33]⟩ rfl w h
  rw [e33] at c33
  simp only [Bool.false_eq_true, if_false] at c33
  clear e33
  have c40 := fun w (h : Rd w rb ws p) => mark31 rb ws p 40 ⟨#[40]⟩ rfl w h
  rw [e40] at c40
  simp only [if_true] at c40
  clear e40
  unfold FR at c
  have c41 := fun w (h : Rd w rb ws q) => mark31 rb ws q 41 ⟨#[41]⟩ rfl w h
  rw [e41] at c41
  simp only [if_true] at c41
  clear e41
  unfold FR
  go_enter Tryz.func76, Tryz.ntmps76
  go_wp2_with fail
  have hWw0 : WentR rb ws p w (w.alloc (.cells #[.int .i64 0, .int .i64 0, .int .i64 0, .int .i64 0, .string ⟨#[]⟩, .slice none 0 0] 53)) := (WentR.refl h).alloc _
  have zw0 : ∀ o, (w.alloc (.cells #[.int .i64 0, .int .i64 0, .int .i64 0, .int .i64 0, .string ⟨#[]⟩, .slice none 0 0] 53)).cell? ⟨w.heap.size, o, none⟩ = (w.alloc (.cells #[.int .i64 0, .int .i64 0, .int .i64 0, .int .i64 0, .string ⟨#[]⟩, .slice none 0 0] 53)).cell? ⟨w.heap.size, o, none⟩ := fun _ => rfl
  have zfw0 : ∀ o, (w.alloc (.cells #[.int .i64 0, .int .i64 0, .int .i64 0, .int .i64 0, .string ⟨#[]⟩, .slice none 0 0] 53)).frozen? ⟨w.heap.size, o, none⟩ = false := fun o => by simp
  have sw0 : w.heap.size < (w.alloc (.cells #[.int .i64 0, .int .i64 0, .int .i64 0, .int .i64 0, .string ⟨#[]⟩, .slice none 0 0] 53)).heap.size := by simp
  refine (c33 _ hWw0.1).mono ?_
  rintro e w1 ⟨rfl, hw1⟩
  have zw1 : ∀ o, w1.cell? ⟨w.heap.size, o, none⟩ = (w.alloc (.cells #[.int .i64 0, .int .i64 0, .int .i64 0, .int .i64 0, .string ⟨#[]⟩, .slice none 0 0] 53)).cell? ⟨w.heap.size, o, none⟩ := fun o => (hw1.cell sw0 hlt).trans (zw0 o)
  have zfw1 : ∀ o, w1.frozen? ⟨w.heap.size, o, none⟩ = false := fun o => (hw1.frozen sw0 hlt).trans (zfw0 o)
  have sw1 : w.heap.size < w1.heap.size := Nat.lt_of_lt_of_le sw0 hw1.2.size
  have hWw1 := hWw0.trans hw1
  clear hw1 zw0 zfw0 hWw0 c33
  go_wp2_with fail
  refine (c40 _ hWw1.1).mono ?_
  rintro e w2 ⟨rfl, hw2⟩
  have zw2 : ∀ o, w2.cell? ⟨w.heap.size, o, none⟩ = (w.alloc (.cells #[.int .i64 0, .int .i64 0, .int .i64 0, .int .i64 0, .string ⟨#[]⟩, .slice none 0 0] 53)).cell? ⟨w.heap.size, o, none⟩ := fun o => (hw2.cell sw1 hlt).trans (zw1 o)
  have zfw2 : ∀ o, w2.frozen? ⟨w.heap.size, o, none⟩ = false := fun o => (hw2.frozen sw1 hlt).trans (zfw1 o)
  have sw2 : w.heap.size < w2.heap.size := Nat.lt_of_lt_of_le sw1 hw2.2.size
  have hWw2 := hWw1.trans hw2
  clear hw2 zw1 zfw1 hWw1 c40
  go_wp2_with fail
  refine (c _ hWw2.1).mono ?_
  rintro e w3 ⟨o1, k1, l1, h1, t1, x1, n1, rfl, ly1, hw3⟩
  have zw3 : ∀ o, w3.cell? ⟨w.heap.size, o, none⟩ = (w.alloc (.cells #[.int .i64 0, .int .i64 0, .int .i64 0, .int .i64 0, .string ⟨#[]⟩, .slice none 0 0] 53)).cell? ⟨w.heap.size, o, none⟩ := fun o => (hw3.cell sw2 hlt).trans (zw2 o)
  have zfw3 : ∀ o, w3.frozen? ⟨w.heap.size, o, none⟩ = false := fun o => (hw3.frozen sw2 hlt).trans (zfw2 o)
  have sw3 : w.heap.size < w3.heap.size := Nat.lt_of_lt_of_le sw2 hw3.2.size
  have hWw3 := hWw2.trans hw3
  have s23 : w2.heap.size ≤ w3.heap.size := hw3.2.size
  clear hw3 zw2 zfw2 hWw2 c
  go_wp2_with fail
  obtain ⟨V, hV⟩ : ∃ V, V = w3.alloc (.cells #[.int .i64 o1, .int .i64 k1, .int .i64 l1, .int .i64 h1, .string t1, .slice x1 n1 n1] 53) := ⟨_, rfl⟩
  rw [← hV]
  have hSix : Six V w3.heap.size 0 o1 k1 l1 h1 t1 x1 n1 := by rw [hV]; unfold Six; simp
  have hV3 := (WentR.refl hWw3.1).alloc (.cells #[.int .i64 o1, .int .i64 k1, .int .i64 l1, .int .i64 h1, .string t1, .slice x1 n1 n1] 53)
  rw [← hV] at hV3
  have sV : w3.heap.size < V.heap.size := by rw [hV]; simp
  clear hV
  have hWV := hWw3.trans hV3
  refine (c41 _ hWV.1).mono ?_
  rintro e w4 ⟨rfl, hw4⟩
  have h34 := hV3.trans hw4
  have zw4 : ∀ o, w4.cell? ⟨w.heap.size, o, none⟩ = (w.alloc (.cells #[.int .i64 0, .int .i64 0, .int .i64 0, .int .i64 0, .string ⟨#[]⟩, .slice none 0 0] 53)).cell? ⟨w.heap.size, o, none⟩ := fun o => (h34.cell sw3 hlt).trans (zw3 o)
  have zfw4 : ∀ o, w4.frozen? ⟨w.heap.size, o, none⟩ = false := fun o => (h34.frozen sw3 hlt).trans (zfw3 o)
  have hSix4 : Six w4 w3.heap.size 0 o1 k1 l1 h1 t1 x1 n1 := hSix.of (fun i => hw4.cell sV (by omega))
  have ly4 : Lies (Past w2.heap.size) w4 f o1 k1 l1 h1 t1 x1 n1 := Lies.kept (h34.past (by omega)) f ly1
  have hWw4 := hWw3.trans h34
  obtain ⟨y0, y1, y2, y3, y4, y5⟩ := hSix4
  simp only [Nat.zero_add] at y0 y1 y2 y3 y4 y5
  have hne : w3.heap.size ≠ w.heap.size := by omega
  have hne' : w.heap.size ≠ w3.heap.size := by omega
  clear hSix hV3 hw4 h34 hWV zw3 zfw3 hWw3 ly1 c41
  go_wp2
  refine bodyPost_ret (v := .agg #[.int .i64 o1, .int .i64 k1, .int .i64 l1, .int .i64 h1, .string t1, .slice x1 n1 n1]) (by simp [results, Tryz.results76, go_sem, *]) rfl ⟨o1, k1, l1, h1, t1, x1, n1, rfl, Lies.mono (P := Past w2.heap.size) (fun b _ hb => by unfold Past at *; omega) f (Lies.kept ?_ f ly4), ?_⟩
  · repeat (refine Kept.setCell ?_ (fun k hk hq => by unfold Past at hq; simp; omega) _)
    exact Kept.refl _ _
  · repeat (refine WentR.setCell ?_ (by simp <;> omega) hlt _)
    exact hWw4

set_option maxRecDepth 100000 in
set_option maxHeartbeats 4000000 in
theorem not_star (rb : Nat) (ws : List Wd.Word) (p : Nat)  (w : World) (h : Rd w rb ws p) (e33 : Ps.isMark ws p 33 = false) (e40 : Ps.isMark ws p 40 = false) (e42 : Ps.isMark ws p 42 = true) :
    Calls Tryz.prog 76 #[.pointer (some ⟨rb, 0, none⟩)] w (FR rb ws (.leaf 1 0 0 0 ⟨#[]⟩) (p + 1) w) := by
  have hlt := h.lt
  have c33 := fun w (h : Rd w rb ws p) => mark31 rb ws p 33 ⟨#[33]⟩ rfl w h
  rw [e33] at c33
  simp only [Bool.false_eq_true, if_false] at c33
  clear e33
  have c40 := fun w (h : Rd w rb ws p) => mark31 rb ws p 40 ⟨#[40]⟩ rfl w h
  rw [e40] at c40
  simp only [Bool.false_eq_true, if_false] at c40
  clear e40
  have c42 := fun w (h : Rd w rb ws p) => mark31 rb ws p 42 ⟨#[42]⟩ rfl w h
  rw [e42] at c42
  simp only [if_true] at c42
  clear e42
  unfold FR
  go_enter Tryz.func76, Tryz.ntmps76
  go_wp2_with fail
  have hWw0 : WentR rb ws p w (w.alloc (.cells #[.int .i64 0, .int .i64 0, .int .i64 0, .int .i64 0, .string ⟨#[]⟩, .slice none 0 0] 53)) := (WentR.refl h).alloc _
  have zw0 : ∀ o, (w.alloc (.cells #[.int .i64 0, .int .i64 0, .int .i64 0, .int .i64 0, .string ⟨#[]⟩, .slice none 0 0] 53)).cell? ⟨w.heap.size, o, none⟩ = (w.alloc (.cells #[.int .i64 0, .int .i64 0, .int .i64 0, .int .i64 0, .string ⟨#[]⟩, .slice none 0 0] 53)).cell? ⟨w.heap.size, o, none⟩ := fun _ => rfl
  have zfw0 : ∀ o, (w.alloc (.cells #[.int .i64 0, .int .i64 0, .int .i64 0, .int .i64 0, .string ⟨#[]⟩, .slice none 0 0] 53)).frozen? ⟨w.heap.size, o, none⟩ = false := fun o => by simp
  have sw0 : w.heap.size < (w.alloc (.cells #[.int .i64 0, .int .i64 0, .int .i64 0, .int .i64 0, .string ⟨#[]⟩, .slice none 0 0] 53)).heap.size := by simp
  refine (c33 _ hWw0.1).mono ?_
  rintro e w1 ⟨rfl, hw1⟩
  have zw1 : ∀ o, w1.cell? ⟨w.heap.size, o, none⟩ = (w.alloc (.cells #[.int .i64 0, .int .i64 0, .int .i64 0, .int .i64 0, .string ⟨#[]⟩, .slice none 0 0] 53)).cell? ⟨w.heap.size, o, none⟩ := fun o => (hw1.cell sw0 hlt).trans (zw0 o)
  have zfw1 : ∀ o, w1.frozen? ⟨w.heap.size, o, none⟩ = false := fun o => (hw1.frozen sw0 hlt).trans (zfw0 o)
  have sw1 : w.heap.size < w1.heap.size := Nat.lt_of_lt_of_le sw0 hw1.2.size
  have hWw1 := hWw0.trans hw1
  clear hw1 zw0 zfw0 hWw0 c33
  go_wp2_with fail
  refine (c40 _ hWw1.1).mono ?_
  rintro e w2 ⟨rfl, hw2⟩
  have zw2 : ∀ o, w2.cell? ⟨w.heap.size, o, none⟩ = (w.alloc (.cells #[.int .i64 0, .int .i64 0, .int .i64 0, .int .i64 0, .string ⟨#[]⟩, .slice none 0 0] 53)).cell? ⟨w.heap.size, o, none⟩ := fun o => (hw2.cell sw1 hlt).trans (zw1 o)
  have zfw2 : ∀ o, w2.frozen? ⟨w.heap.size, o, none⟩ = false := fun o => (hw2.frozen sw1 hlt).trans (zfw1 o)
  have sw2 : w.heap.size < w2.heap.size := Nat.lt_of_lt_of_le sw1 hw2.2.size
  have hWw2 := hWw1.trans hw2
  clear hw2 zw1 zfw1 hWw1 c40
  go_wp2_with fail
  refine (c42 _ hWw2.1).mono ?_
  rintro e w3 ⟨rfl, hw3⟩
  have zw3 : ∀ o, w3.cell? ⟨w.heap.size, o, none⟩ = (w.alloc (.cells #[.int .i64 0, .int .i64 0, .int .i64 0, .int .i64 0, .string ⟨#[]⟩, .slice none 0 0] 53)).cell? ⟨w.heap.size, o, none⟩ := fun o => (hw3.cell sw2 hlt).trans (zw2 o)
  have zfw3 : ∀ o, w3.frozen? ⟨w.heap.size, o, none⟩ = false := fun o => (hw3.frozen sw2 hlt).trans (zfw2 o)
  have sw3 : w.heap.size < w3.heap.size := Nat.lt_of_lt_of_le sw2 hw3.2.size
  have hWw3 := hWw2.trans hw3
  clear hw3 zw2 zfw2 hWw2 c42
  go_wp2
  refine bodyPost_ret (v := .agg #[.int .i64 1, .int .i64 0, .int .i64 0, .int .i64 0, .string ⟨#[]⟩, .slice none 0 0]) (by simp [results, Tryz.results76, go_sem, *]) rfl ⟨1, 0, 0, 0, ⟨#[]⟩, none, 0, rfl, ⟨rfl, rfl, rfl, rfl, rfl, rfl, rfl⟩, ?_⟩
  repeat (refine WentR.setCell ?_ (by simp <;> omega) hlt _)
  exact hWw3

set_option maxRecDepth 100000 in
set_option maxHeartbeats 4000000 in
theorem not_name (rb : Nat) (ws : List Wd.Word) (p : Nat) (m : Nat) (hm : m = p + 1) (tx : List UInt8) (w : World) (h : Rd w rb ws p) (e33 : Ps.isMark ws p 33 = false) (e40 : Ps.isMark ws p 40 = false) (e42 : Ps.isMark ws p 42 = false) (e94 : Ps.isMark ws p 94 = true) (hn : Ps.name ws m = some tx) :
    Calls Tryz.prog 76 #[.pointer (some ⟨rb, 0, none⟩)] w (FR rb ws (.leaf 4 0 0 0 ⟨tx.toArray⟩) (m + 1) w) := by
  have hlt := h.lt
  have c33 := fun w (h : Rd w rb ws p) => mark31 rb ws p 33 ⟨#[33]⟩ rfl w h
  rw [e33] at c33
  simp only [Bool.false_eq_true, if_false] at c33
  clear e33
  have c40 := fun w (h : Rd w rb ws p) => mark31 rb ws p 40 ⟨#[40]⟩ rfl w h
  rw [e40] at c40
  simp only [Bool.false_eq_true, if_false] at c40
  clear e40
  have c42 := fun w (h : Rd w rb ws p) => mark31 rb ws p 42 ⟨#[42]⟩ rfl w h
  rw [e42] at c42
  simp only [Bool.false_eq_true, if_false] at c42
  clear e42
  have c94 := fun w (h : Rd w rb ws p) => mark31 rb ws p 94 ⟨#[94]⟩ rfl w h
  rw [e94] at c94
  simp only [if_true] at c94
  clear e94
  rw [← hm] at c94
  clear hm
  unfold FR
  go_enter Tryz.func76, Tryz.ntmps76
  go_wp2_with fail
  have hWw0 : WentR rb ws p w (w.alloc (.cells #[.int .i64 0, .int .i64 0, .int .i64 0, .int .i64 0, .string ⟨#[]⟩, .slice none 0 0] 53)) := (WentR.refl h).alloc _
  have zw0 : ∀ o, (w.alloc (.cells #[.int .i64 0, .int .i64 0, .int .i64 0, .int .i64 0, .string ⟨#[]⟩, .slice none 0 0] 53)).cell? ⟨w.heap.size, o, none⟩ = (w.alloc (.cells #[.int .i64 0, .int .i64 0, .int .i64 0, .int .i64 0, .string ⟨#[]⟩, .slice none 0 0] 53)).cell? ⟨w.heap.size, o, none⟩ := fun _ => rfl
  have zfw0 : ∀ o, (w.alloc (.cells #[.int .i64 0, .int .i64 0, .int .i64 0, .int .i64 0, .string ⟨#[]⟩, .slice none 0 0] 53)).frozen? ⟨w.heap.size, o, none⟩ = false := fun o => by simp
  have sw0 : w.heap.size < (w.alloc (.cells #[.int .i64 0, .int .i64 0, .int .i64 0, .int .i64 0, .string ⟨#[]⟩, .slice none 0 0] 53)).heap.size := by simp
  refine (c33 _ hWw0.1).mono ?_
  rintro e w1 ⟨rfl, hw1⟩
  have zw1 : ∀ o, w1.cell? ⟨w.heap.size, o, none⟩ = (w.alloc (.cells #[.int .i64 0, .int .i64 0, .int .i64 0, .int .i64 0, .string ⟨#[]⟩, .slice none 0 0] 53)).cell? ⟨w.heap.size, o, none⟩ := fun o => (hw1.cell sw0 hlt).trans (zw0 o)
  have zfw1 : ∀ o, w1.frozen? ⟨w.heap.size, o, none⟩ = false := fun o => (hw1.frozen sw0 hlt).trans (zfw0 o)
  have sw1 : w.heap.size < w1.heap.size := Nat.lt_of_lt_of_le sw0 hw1.2.size
  have hWw1 := hWw0.trans hw1
  clear hw1 zw0 zfw0 hWw0 c33
  go_wp2_with fail
  refine (c40 _ hWw1.1).mono ?_
  rintro e w2 ⟨rfl, hw2⟩
  have zw2 : ∀ o, w2.cell? ⟨w.heap.size, o, none⟩ = (w.alloc (.cells #[.int .i64 0, .int .i64 0, .int .i64 0, .int .i64 0, .string ⟨#[]⟩, .slice none 0 0] 53)).cell? ⟨w.heap.size, o, none⟩ := fun o => (hw2.cell sw1 hlt).trans (zw1 o)
  have zfw2 : ∀ o, w2.frozen? ⟨w.heap.size, o, none⟩ = false := fun o => (hw2.frozen sw1 hlt).trans (zfw1 o)
  have sw2 : w.heap.size < w2.heap.size := Nat.lt_of_lt_of_le sw1 hw2.2.size
  have hWw2 := hWw1.trans hw2
  clear hw2 zw1 zfw1 hWw1 c40
  go_wp2_with fail
  refine (c42 _ hWw2.1).mono ?_
  rintro e w3 ⟨rfl, hw3⟩
  have zw3 : ∀ o, w3.cell? ⟨w.heap.size, o, none⟩ = (w.alloc (.cells #[.int .i64 0, .int .i64 0, .int .i64 0, .int .i64 0, .string ⟨#[]⟩, .slice none 0 0] 53)).cell? ⟨w.heap.size, o, none⟩ := fun o => (hw3.cell sw2 hlt).trans (zw2 o)
  have zfw3 : ∀ o, w3.frozen? ⟨w.heap.size, o, none⟩ = false := fun o => (hw3.frozen sw2 hlt).trans (zfw2 o)
  have sw3 : w.heap.size < w3.heap.size := Nat.lt_of_lt_of_le sw2 hw3.2.size
  have hWw3 := hWw2.trans hw3
  clear hw3 zw2 zfw2 hWw2 c42
  go_wp2_with fail
  refine (c94 _ hWw3.1).mono ?_
  rintro e w4 ⟨rfl, hw4⟩
  have zw4 : ∀ o, w4.cell? ⟨w.heap.size, o, none⟩ = (w.alloc (.cells #[.int .i64 0, .int .i64 0, .int .i64 0, .int .i64 0, .string ⟨#[]⟩, .slice none 0 0] 53)).cell? ⟨w.heap.size, o, none⟩ := fun o => (hw4.cell sw3 hlt).trans (zw3 o)
  have zfw4 : ∀ o, w4.frozen? ⟨w.heap.size, o, none⟩ = false := fun o => (hw4.frozen sw3 hlt).trans (zfw3 o)
  have sw4 : w.heap.size < w4.heap.size := Nat.lt_of_lt_of_le sw3 hw4.2.size
  have hWw4 := hWw3.trans hw4
  clear hw4 zw3 zfw3 hWw3 c94
  have hrd := hWw4.1
  obtain ⟨g1, g2, gf, ao, cap, en, po, b, q0, q1, q2, q3, q4, g3, g4⟩ := hrd
  unfold Ps.name at hn
  cases hx : ws[m]? with
  | none => rw [hx] at hn; cases hn
  | some x =>
    rw [hx] at hn
    by_cases hk1 : x.kind = 1
    · simp only [if_pos hk1] at hn
      cases hn
      have hpm : m < ws.length := (List.getElem?_eq_some_iff.1 hx).1
      obtain ⟨rfl, hb⟩ := g3 (by omega)
      obtain ⟨r0, r1, r2, r3⟩ := g4 m _ hx
      rw [hk1] at r0
      have hgN : decide (ws.length ≤ m) = false := decide_eq_false (by omega)
      have hgI : decide ((ws.length : Int) ≤ (m : Int)) = false := decide_eq_false (by omega)
      have hp0 : (0 : Int) ≤ (m : Int) := by omega
      have hp1 : (m : Int) < (ws.length : Int) := by omega
      have hRd := hWw4
      clear g4 g3 r2 r3 hx hk1 hWw4
      go_wp2_with fail
      go_quiet (fail)
      go_wp2_with fail
      obtain ⟨V, hV⟩ : ∃ V, V = (w4.drewN nq).setCell ⟨rb, 1, none⟩ (.int .i64 ((m : Int) + 1)) := ⟨_, rfl⟩
      rw [← hV]
      have s0 : V.cell? ⟨rb, 0, none⟩ = some (.slice (some ⟨b, 0, none⟩) ws.length cap) := by rw [hV, World.cell?_setCell_other _ _ _ _ (by simp)]; exact q0
      have s1 : V.cell? ⟨rb, 1, none⟩ = some (.int .i64 ((m : Int) + 1)) := by rw [hV]; exact World.cell?_setCell_same _ _ _ (u := .int .i64 m) q1
      have s2 : V.cell? ⟨b, m * 4 + 1, none⟩ = some (.string ⟨x.text.toArray⟩) := by rw [hV, World.cell?_setCell_other _ _ _ _ (fun e => by have := congrArg Addr.block e; simp at this; omega)]; exact r1
      have zV : ∀ o, V.cell? ⟨w.heap.size, o, none⟩ = (w.alloc (.cells #[.int .i64 0, .int .i64 0, .int .i64 0, .int .i64 0, .string ⟨#[]⟩, .slice none 0 0] 53)).cell? ⟨w.heap.size, o, none⟩ := fun o => by rw [hV, World.cell?_setCell_other _ _ _ _ (fun e => by have := congrArg Addr.block e; simp at this; omega)]; exact zw4 o
      have zVf : ∀ o, V.frozen? ⟨w.heap.size, o, none⟩ = false := fun o => by rw [hV]; simpa using zfw4 o
      have hWV : WentR rb ws (m + 1) w V := ⟨hRd.1.step (q := m + 1) (by omega) nq 0 hV, by rw [hV]; exact hRd.2.trans (Kept.setCell (P := Save rb) (p := ⟨rb, 1, none⟩) (⟨rfl, rfl, rfl, Nat.le_refl _, fun _ _ _ => rfl⟩ : Kept (Save rb) w4 (w4.drewN nq)) (fun k _ hk => hk) _)⟩
      have hwr : IntKind.i64.wrap ((m : Int) + 1 - 1) = (m : Int) := by simp only [IntKind.wrap, IntKind.signed, IntKind.bits]; simp; omega
      have hrne : rb ≠ w.heap.size := by omega
      have hbne : b ≠ w.heap.size := by omega
      clear hV q0 q1 q2 q3 q4 r0 r1 zw4 zfw4 hRd gf
      go_region
      go_wp2
      refine bodyPost_ret (v := .agg #[.int .i64 4, .int .i64 0, .int .i64 0, .int .i64 0, .string ⟨x.text.toArray⟩, .slice none 0 0]) (by simp [results, Tryz.results76, go_sem, *]) rfl ⟨4, 0, 0, 0, ⟨x.text.toArray⟩, none, 0, rfl, ⟨rfl, rfl, rfl, rfl, rfl, rfl, rfl⟩, ?_⟩
      refine WentR.drew ?_
      repeat (refine WentR.setCell ?_ (by simp <;> omega) hlt _)
      exact hWV
    · simp only [if_neg hk1] at hn
      cases hn

set_option maxRecDepth 100000 in
set_option maxHeartbeats 4000000 in
theorem not_at (rb : Nat) (ws : List Wd.Word) (p : Nat) (q : Nat) (f : Ps.Ft) (w : World) (h : Rd w rb ws p) (e33 : Ps.isMark ws p 33 = false) (e40 : Ps.isMark ws p 40 = false) (e42 : Ps.isMark ws p 42 = false) (e94 : Ps.isMark ws p 94 = false) (e64 : Ps.isMark ws p 64 = true) (hk : Ps.key ws (p + 1) = some (f, q)) :
    Calls Tryz.prog 76 #[.pointer (some ⟨rb, 0, none⟩)] w (FR rb ws (f) (q) w) := by
  have hlt := h.lt
  have c33 := fun w (h : Rd w rb ws p) => mark31 rb ws p 33 ⟨#[33]⟩ rfl w h
  rw [e33] at c33
  simp only [Bool.false_eq_true, if_false] at c33
  clear e33
  have c40 := fun w (h : Rd w rb ws p) => mark31 rb ws p 40 ⟨#[40]⟩ rfl w h
  rw [e40] at c40
  simp only [Bool.false_eq_true, if_false] at c40
  clear e40
  have c42 := fun w (h : Rd w rb ws p) => mark31 rb ws p 42 ⟨#[42]⟩ rfl w h
  rw [e42] at c42
  simp only [Bool.false_eq_true, if_false] at c42
  clear e42
  have c94 := fun w (h : Rd w rb ws p) => mark31 rb ws p 94 ⟨#[94]⟩ rfl w h
  rw [e94] at c94
  simp only [Bool.false_eq_true, if_false] at c94
  clear e94
  have c64 := fun w (h : Rd w rb ws p) => mark31 rb ws p 64 ⟨#[64]⟩ rfl w h
  rw [e64] at c64
  simp only [if_true] at c64
  clear e64
  have c := fun w (h : Rd w rb ws (p + 1)) => key37 rb ws (p + 1) q f w h hk
  unfold FR at c
  unfold FR
  go_enter Tryz.func76, Tryz.ntmps76
  go_wp2_with fail
  have hWw0 : WentR rb ws p w (w.alloc (.cells #[.int .i64 0, .int .i64 0, .int .i64 0, .int .i64 0, .string ⟨#[]⟩, .slice none 0 0] 53)) := (WentR.refl h).alloc _
  have zw0 : ∀ o, (w.alloc (.cells #[.int .i64 0, .int .i64 0, .int .i64 0, .int .i64 0, .string ⟨#[]⟩, .slice none 0 0] 53)).cell? ⟨w.heap.size, o, none⟩ = (w.alloc (.cells #[.int .i64 0, .int .i64 0, .int .i64 0, .int .i64 0, .string ⟨#[]⟩, .slice none 0 0] 53)).cell? ⟨w.heap.size, o, none⟩ := fun _ => rfl
  have zfw0 : ∀ o, (w.alloc (.cells #[.int .i64 0, .int .i64 0, .int .i64 0, .int .i64 0, .string ⟨#[]⟩, .slice none 0 0] 53)).frozen? ⟨w.heap.size, o, none⟩ = false := fun o => by simp
  have sw0 : w.heap.size < (w.alloc (.cells #[.int .i64 0, .int .i64 0, .int .i64 0, .int .i64 0, .string ⟨#[]⟩, .slice none 0 0] 53)).heap.size := by simp
  refine (c33 _ hWw0.1).mono ?_
  rintro e w1 ⟨rfl, hw1⟩
  have zw1 : ∀ o, w1.cell? ⟨w.heap.size, o, none⟩ = (w.alloc (.cells #[.int .i64 0, .int .i64 0, .int .i64 0, .int .i64 0, .string ⟨#[]⟩, .slice none 0 0] 53)).cell? ⟨w.heap.size, o, none⟩ := fun o => (hw1.cell sw0 hlt).trans (zw0 o)
  have zfw1 : ∀ o, w1.frozen? ⟨w.heap.size, o, none⟩ = false := fun o => (hw1.frozen sw0 hlt).trans (zfw0 o)
  have sw1 : w.heap.size < w1.heap.size := Nat.lt_of_lt_of_le sw0 hw1.2.size
  have hWw1 := hWw0.trans hw1
  clear hw1 zw0 zfw0 hWw0 c33
  go_wp2_with fail
  refine (c40 _ hWw1.1).mono ?_
  rintro e w2 ⟨rfl, hw2⟩
  have zw2 : ∀ o, w2.cell? ⟨w.heap.size, o, none⟩ = (w.alloc (.cells #[.int .i64 0, .int .i64 0, .int .i64 0, .int .i64 0, .string ⟨#[]⟩, .slice none 0 0] 53)).cell? ⟨w.heap.size, o, none⟩ := fun o => (hw2.cell sw1 hlt).trans (zw1 o)
  have zfw2 : ∀ o, w2.frozen? ⟨w.heap.size, o, none⟩ = false := fun o => (hw2.frozen sw1 hlt).trans (zfw1 o)
  have sw2 : w.heap.size < w2.heap.size := Nat.lt_of_lt_of_le sw1 hw2.2.size
  have hWw2 := hWw1.trans hw2
  clear hw2 zw1 zfw1 hWw1 c40
  go_wp2_with fail
  refine (c42 _ hWw2.1).mono ?_
  rintro e w3 ⟨rfl, hw3⟩
  have zw3 : ∀ o, w3.cell? ⟨w.heap.size, o, none⟩ = (w.alloc (.cells #[.int .i64 0, .int .i64 0, .int .i64 0, .int .i64 0, .string ⟨#[]⟩, .slice none 0 0] 53)).cell? ⟨w.heap.size, o, none⟩ := fun o => (hw3.cell sw2 hlt).trans (zw2 o)
  have zfw3 : ∀ o, w3.frozen? ⟨w.heap.size, o, none⟩ = false := fun o => (hw3.frozen sw2 hlt).trans (zfw2 o)
  have sw3 : w.heap.size < w3.heap.size := Nat.lt_of_lt_of_le sw2 hw3.2.size
  have hWw3 := hWw2.trans hw3
  clear hw3 zw2 zfw2 hWw2 c42
  go_wp2_with fail
  refine (c94 _ hWw3.1).mono ?_
  rintro e w4 ⟨rfl, hw4⟩
  have zw4 : ∀ o, w4.cell? ⟨w.heap.size, o, none⟩ = (w.alloc (.cells #[.int .i64 0, .int .i64 0, .int .i64 0, .int .i64 0, .string ⟨#[]⟩, .slice none 0 0] 53)).cell? ⟨w.heap.size, o, none⟩ := fun o => (hw4.cell sw3 hlt).trans (zw3 o)
  have zfw4 : ∀ o, w4.frozen? ⟨w.heap.size, o, none⟩ = false := fun o => (hw4.frozen sw3 hlt).trans (zfw3 o)
  have sw4 : w.heap.size < w4.heap.size := Nat.lt_of_lt_of_le sw3 hw4.2.size
  have hWw4 := hWw3.trans hw4
  clear hw4 zw3 zfw3 hWw3 c94
  go_wp2_with fail
  refine (c64 _ hWw4.1).mono ?_
  rintro e w5 ⟨rfl, hw5⟩
  have zw5 : ∀ o, w5.cell? ⟨w.heap.size, o, none⟩ = (w.alloc (.cells #[.int .i64 0, .int .i64 0, .int .i64 0, .int .i64 0, .string ⟨#[]⟩, .slice none 0 0] 53)).cell? ⟨w.heap.size, o, none⟩ := fun o => (hw5.cell sw4 hlt).trans (zw4 o)
  have zfw5 : ∀ o, w5.frozen? ⟨w.heap.size, o, none⟩ = false := fun o => (hw5.frozen sw4 hlt).trans (zfw4 o)
  have sw5 : w.heap.size < w5.heap.size := Nat.lt_of_lt_of_le sw4 hw5.2.size
  have hWw5 := hWw4.trans hw5
  clear hw5 zw4 zfw4 hWw4 c64
  go_wp2_with fail
  refine (c _ hWw5.1).mono ?_
  rintro e w6 ⟨o1, k1, l1, h1, t1, x1, n1, rfl, ly1, hw6⟩
  have zw6 : ∀ o, w6.cell? ⟨w.heap.size, o, none⟩ = (w.alloc (.cells #[.int .i64 0, .int .i64 0, .int .i64 0, .int .i64 0, .string ⟨#[]⟩, .slice none 0 0] 53)).cell? ⟨w.heap.size, o, none⟩ := fun o => (hw6.cell sw5 hlt).trans (zw5 o)
  have zfw6 : ∀ o, w6.frozen? ⟨w.heap.size, o, none⟩ = false := fun o => (hw6.frozen sw5 hlt).trans (zfw5 o)
  have sw6 : w.heap.size < w6.heap.size := Nat.lt_of_lt_of_le sw5 hw6.2.size
  have hWw6 := hWw5.trans hw6
  have s56 : w5.heap.size ≤ w6.heap.size := hw6.2.size
  clear hw6 zw5 zfw5 hWw5 c
  go_wp2
  refine bodyPost_ret (v := .agg #[.int .i64 o1, .int .i64 k1, .int .i64 l1, .int .i64 h1, .string t1, .slice x1 n1 n1]) (by simp [results, Tryz.results76, go_sem, *]) rfl ⟨o1, k1, l1, h1, t1, x1, n1, rfl, Lies.mono (P := Past w5.heap.size) (fun b _ hb => by unfold Past at *; omega) f (Lies.kept ?_ f ly1), ?_⟩
  · repeat (refine Kept.setCell ?_ (fun k hk hq => by unfold Past at hq; simp; omega) _)
    exact Kept.refl _ _
  · repeat (refine WentR.setCell ?_ (by simp <;> omega) hlt _)
    exact hWw6

end Rf
end Go.Proofs.YtdeojcodbojmoaaGreatDoor
namespace Go.Proofs.YtdeojcodbojmoaaGreatDoor
namespace Rf
open Go.RowKit
set_option maxRecDepth 100000
set_option linter.unusedVariables false

/-- All blocks behind N2 but N3. -/
def Out (N2 N3 : Nat) : Nat → Prop := fun b => N2 < b ∧ b ≠ N3

/-- Where a reader stands, for a measure. -/
def atOf (rb : Nat) (w : World) : Nat := match w.cell? ⟨rb, 1, none⟩ with | some (.int _ n) => n.toNat | _ => 0

theorem atOf_rd {w : World} {rb p : Nat} {ws : List Wd.Word} (h : Rd w rb ws p) : atOf rb w = p := by
  obtain ⟨_, _, _, ao, cap, en, po, b, q0, q1, _⟩ := h
  unfold atOf
  rw [q1]
  simp

theorem six_stored {w : World} {b : Nat} {o k l h : Int} {t : ByteArray} {x : Option Addr} {n : Nat} (s : Six w b 0 o k l h t x n) (o' k' l' h' : Int) (t' : ByteArray) (x' : Option Addr) (n' : Nat) :
    Six ((((((w.setCell ⟨b, 0, none⟩ (.int .i64 o')).setCell ⟨b, 1, none⟩ (.int .i64 k')).setCell ⟨b, 2, none⟩ (.int .i64 l')).setCell ⟨b, 3, none⟩ (.int .i64 h')).setCell ⟨b, 4, none⟩ (.string t')).setCell ⟨b, 5, none⟩ (.slice x' n' n')) b 0 o' k' l' h' t' x' n' := by
  obtain ⟨s0, s1, s2, s3, s4, s5⟩ := s
  have ne : ∀ (i j : Nat), i ≠ j → (⟨b, i, none⟩ : Addr) ≠ ⟨b, j, none⟩ := fun i j h e => h (by injection e)
  have oth : ∀ (W : World) (i j : Nat) (v : Value), i ≠ j → (W.setCell ⟨b, i, none⟩ v).cell? ⟨b, j, none⟩ = W.cell? ⟨b, j, none⟩ := fun W i j v h => World.cell?_setCell_other W _ _ _ (ne i j h)
  simp only [Nat.zero_add] at s0 s1 s2 s3 s4 s5
  refine ⟨?_, ?_, ?_, ?_, ?_, ?_⟩ <;> (try simp only [Nat.zero_add])
  · rw [oth _ 5 0 _ (by omega), oth _ 4 0 _ (by omega), oth _ 3 0 _ (by omega), oth _ 2 0 _ (by omega), oth _ 1 0 _ (by omega)]
    exact World.cell?_setCell_same _ _ _ s0
  · rw [oth _ 5 1 _ (by omega), oth _ 4 1 _ (by omega), oth _ 3 1 _ (by omega), oth _ 2 1 _ (by omega)]
    exact World.cell?_setCell_same _ _ _ (u := .int .i64 k) (by rw [oth _ 0 1 _ (by omega)]; exact s1)
  · rw [oth _ 5 2 _ (by omega), oth _ 4 2 _ (by omega), oth _ 3 2 _ (by omega)]
    exact World.cell?_setCell_same _ _ _ (u := .int .i64 l) (by rw [oth _ 1 2 _ (by omega), oth _ 0 2 _ (by omega)]; exact s2)
  · rw [oth _ 5 3 _ (by omega), oth _ 4 3 _ (by omega)]
    exact World.cell?_setCell_same _ _ _ (u := .int .i64 h) (by rw [oth _ 2 3 _ (by omega), oth _ 1 3 _ (by omega), oth _ 0 3 _ (by omega)]; exact s3)
  · rw [oth _ 5 4 _ (by omega)]
    exact World.cell?_setCell_same _ _ _ (u := .string t) (by rw [oth _ 3 4 _ (by omega), oth _ 2 4 _ (by omega), oth _ 1 4 _ (by omega), oth _ 0 4 _ (by omega)]; exact s4)
  · exact World.cell?_setCell_same _ _ _ (u := .slice x n n) (by rw [oth _ 4 5 _ (by omega), oth _ 3 5 _ (by omega), oth _ 2 5 _ (by omega), oth _ 1 5 _ (by omega), oth _ 0 5 _ (by omega)]; exact s5)

/-- A filter of two, laid into its box. -/
theorem fin_bin {rb r : Nat} {ws : List Wd.Word} {w w1 w2 w3 : World} {f g : Ps.Ft} {o1 k1 l1 h1 : Int} {t1 : ByteArray} {x1 : Option Addr} {n1 : Nat} {o2 k2 l2 h2 : Int} {t2 : ByteArray} {x2 : Option Addr} {n2 : Nat} (op : Int)
    (hlt : rb < w.heap.size) (sw1 : w.heap.size < w1.heap.size) (hs2 : w1.heap.size < w2.heap.size) (hs3 : w1.heap.size < w3.heap.size) (hsix3 : Six w3 w1.heap.size 0 o1 k1 l1 h1 t1 x1 n1) (hcf : ∀ o, w3.frozen? ⟨w1.heap.size, o, none⟩ = false)
    (hz : ∀ o, w3.cell? ⟨w.heap.size, o, none⟩ = (w.alloc (.cells #[.int .i64 0, .int .i64 0, .int .i64 0, .int .i64 0, .string ⟨#[]⟩, .slice none 0 0] 53)).cell? ⟨w.heap.size, o, none⟩) (hzf : ∀ o, w3.frozen? ⟨w.heap.size, o, none⟩ = false)
    (lyf : Lies (Out w.heap.size w1.heap.size) w3 f o1 k1 l1 h1 t1 x1 n1) (lyg : Lies (Past w2.drew.heap.size) w3 g o2 k2 l2 h2 t2 x2 n2) (hW : WentR rb ws r w w3) :
    let X := (((((((w3.setCell ⟨w1.heap.size, 0, none⟩ (.int .i64 op)).setCell ⟨w1.heap.size, 1, none⟩ (.int .i64 0)).setCell ⟨w1.heap.size, 2, none⟩ (.int .i64 0)).setCell ⟨w1.heap.size, 3, none⟩ (.int .i64 0)).setCell ⟨w1.heap.size, 4, none⟩ (.string ⟨#[]⟩)).setCell ⟨w1.heap.size, 5, none⟩ (.slice (some ⟨w3.heap.size, 0, none⟩) 2 2)).alloc (.cells #[.int .i64 o1, .int .i64 k1, .int .i64 l1, .int .i64 h1, .string t1, .slice x1 n1 n1, .int .i64 o2, .int .i64 k2, .int .i64 l2, .int .i64 h2, .string t2, .slice x2 n2 n2] 53))
    Six X w1.heap.size 0 op 0 0 0 ⟨#[]⟩ (some ⟨w3.heap.size, 0, none⟩) 2 ∧ (∀ o, X.frozen? ⟨w1.heap.size, o, none⟩ = false) ∧ w1.heap.size < X.heap.size ∧ (∀ o, X.cell? ⟨w.heap.size, o, none⟩ = (w.alloc (.cells #[.int .i64 0, .int .i64 0, .int .i64 0, .int .i64 0, .string ⟨#[]⟩, .slice none 0 0] 53)).cell? ⟨w.heap.size, o, none⟩) ∧ (∀ o, X.frozen? ⟨w.heap.size, o, none⟩ = false) ∧
      Lies (Out w.heap.size w1.heap.size) X (.two op f g) op 0 0 0 ⟨#[]⟩ (some ⟨w3.heap.size, 0, none⟩) 2 ∧ WentR rb ws r w X := by
  intro X
  obtain ⟨Y, hY⟩ : ∃ Y, Y = ((((((w3.setCell ⟨w1.heap.size, 0, none⟩ (.int .i64 op)).setCell ⟨w1.heap.size, 1, none⟩ (.int .i64 0)).setCell ⟨w1.heap.size, 2, none⟩ (.int .i64 0)).setCell ⟨w1.heap.size, 3, none⟩ (.int .i64 0)).setCell ⟨w1.heap.size, 4, none⟩ (.string ⟨#[]⟩)).setCell ⟨w1.heap.size, 5, none⟩ (.slice (some ⟨w3.heap.size, 0, none⟩) 2 2)) := ⟨_, rfl⟩
  have hX : X = Y.alloc (.cells #[.int .i64 o1, .int .i64 k1, .int .i64 l1, .int .i64 h1, .string t1, .slice x1 n1 n1, .int .i64 o2, .int .i64 k2, .int .i64 l2, .int .i64 h2, .string t2, .slice x2 n2 n2] 53) := by rw [hY]
  have sY : w3.heap.size = Y.heap.size := by rw [hY]; simp [World.setCell]
  have six1 : Six Y w1.heap.size 0 op 0 0 0 ⟨#[]⟩ (some ⟨w3.heap.size, 0, none⟩) 2 := by rw [hY]; exact six_stored hsix3 _ _ _ _ _ _ _
  have kY : Kept (Out w.heap.size w1.heap.size) w3 Y := by
    rw [hY]
    repeat (refine Kept.setCell ?_ (fun k hk hq => by unfold Out at hq; exact hq.2) _)
    exact Kept.refl _ _
  have wY : WentR rb ws r w Y := by
    rw [hY]
    repeat (refine WentR.setCell ?_ (by simp <;> omega) hlt _)
    exact hW
  have zY : ∀ o, Y.cell? ⟨w.heap.size, o, none⟩ = w3.cell? ⟨w.heap.size, o, none⟩ := fun o => by
    rw [hY]
    repeat rw [World.cell?_setCell_other _ _ _ _ (fun e => by have := congrArg Addr.block e; simp at this; omega)]
  have fY : ∀ a, Y.frozen? a = w3.frozen? a := fun a => by rw [hY]; simp
  clear hY
  have kX : Kept (Out w.heap.size w1.heap.size) w3 X := by rw [hX]; exact kY.alloc _
  refine ⟨?_, ?_, ?_, ?_, ?_, ?_, ?_⟩
  · rw [hX]; exact six1.of (fun i => World.cell?_alloc_past _ _ _ (hn := by omega))
  · intro o; rw [hX, World.frozen?_alloc_past _ _ _ (hn := by omega), fY]; exact hcf o
  · rw [hX]; simp; omega
  · intro o; rw [hX, World.cell?_alloc_past _ _ _ (hn := by omega), zY]; exact hz o
  · intro o; rw [hX, World.frozen?_alloc_past _ _ _ (hn := by omega), fY]; exact hzf o
  · refine ⟨rfl, rfl, rfl, rfl, rfl, w3.heap.size, o1, k1, l1, h1, t1, x1, n1, o2, k2, l2, h2, t2, x2, n2, rfl, rfl, by unfold Out; omega, ?_, Lies.kept kX f lyf, ?_, Lies.kept kX g (Lies.mono (fun b _ hb => by unfold Past at hb; simp at hb; unfold Out; omega) g lyg)⟩
    · rw [hX]; unfold Six; refine ⟨?_, ?_, ?_, ?_, ?_, ?_⟩ <;> (rw [World.cell?_alloc_at _ _ _ _ sY]; simp)
    · rw [hX]; unfold Six; refine ⟨?_, ?_, ?_, ?_, ?_, ?_⟩ <;> (rw [World.cell?_alloc_at _ _ _ _ sY]; simp)
  · rw [hX]; exact wY.alloc _

set_option maxRecDepth 100000 in
set_option maxHeartbeats 4000000 in
theorem and30 (rb : Nat) (ws : List Wd.Word) (n : Nat)
    (H : ∀ m p g r w', m ≤ n → Ps.pars ws m .not p = some (g, r) → Rd w' rb ws p → Calls Tryz.prog 76 #[.pointer (some ⟨rb, 0, none⟩)] w' (FR rb ws g r w'))
    (p Q : Nat) (F : Ps.Ft) (hP : Ps.pars ws (n + 1) .and p = some (F, Q)) (w : World) (h : Rd w rb ws p) :
    Calls Tryz.prog 63 #[.pointer (some ⟨rb, 0, none⟩)] w (FR rb ws F Q w) := by
  have hlt := h.lt
  simp only [Ps.pars] at hP
  split at hP
  · cases hP
  · rename_i f0 q0 e0
    have HP : Hid (Ps.pars ws n (.andM f0) q0 = some (F, Q)) := hP
    have c0 := fun w' (h : Rd w' rb ws p) => H n p f0 q0 w' (Nat.le_refl _) e0 h
    have HH : Hid (∀ m p g r w', m ≤ n → Ps.pars ws m .not p = some (g, r) → Rd w' rb ws p → Calls Tryz.prog 76 #[.pointer (some ⟨rb, 0, none⟩)] w' (FR rb ws g r w')) := H
    clear hP e0 H
    unfold FR at c0 ⊢
    go_enter Tryz.func63, Tryz.ntmps63
    go_wp2_with fail
    have hWw0 : WentR rb ws p w (w.alloc (.cells #[.int .i64 0, .int .i64 0, .int .i64 0, .int .i64 0, .string ⟨#[]⟩, .slice none 0 0] 53)) := (WentR.refl h).alloc _
    have sw0 : w.heap.size < (w.alloc (.cells #[.int .i64 0, .int .i64 0, .int .i64 0, .int .i64 0, .string ⟨#[]⟩, .slice none 0 0] 53)).heap.size := by simp
    refine (c0 _ hWw0.1).mono ?_
    rintro e w1 ⟨o1, k1, l1, h1, t1, x1, n1, rfl, ly1, hw1⟩
    have zw1 : ∀ o, w1.cell? ⟨w.heap.size, o, none⟩ = (w.alloc (.cells #[.int .i64 0, .int .i64 0, .int .i64 0, .int .i64 0, .string ⟨#[]⟩, .slice none 0 0] 53)).cell? ⟨w.heap.size, o, none⟩ := fun o => hw1.cell sw0 hlt
    have zfw1 : ∀ o, w1.frozen? ⟨w.heap.size, o, none⟩ = false := fun o => (hw1.frozen sw0 hlt).trans (by simp)
    have sw1 : w.heap.size < w1.heap.size := Nat.lt_of_lt_of_le sw0 hw1.2.size
    have hWw1 := hWw0.trans hw1
    have ly1' : Lies (Out w.heap.size w1.heap.size) w1 f0 o1 k1 l1 h1 t1 x1 n1 := Lies.mono (fun b hb hp => by unfold Past at hp; simp at hp; unfold Out; omega) f0 ly1
    clear hWw0 hw1 c0 ly1
    go_wp2_with fail
    obtain ⟨V, hV⟩ : ∃ V, V = w1.alloc (.cells #[.int .i64 o1, .int .i64 k1, .int .i64 l1, .int .i64 h1, .string t1, .slice x1 n1 n1] 53) := ⟨_, rfl⟩
    rw [← hV]
    have hSix : Six V w1.heap.size 0 o1 k1 l1 h1 t1 x1 n1 := by rw [hV]; unfold Six; simp
    have hVf : ∀ o, V.frozen? ⟨w1.heap.size, o, none⟩ = false := fun o => by rw [hV]; simp
    have hV1 := (WentR.refl hWw1.1).alloc (.cells #[.int .i64 o1, .int .i64 k1, .int .i64 l1, .int .i64 h1, .string t1, .slice x1 n1 n1] 53)
    rw [← hV] at hV1
    have sV : w1.heap.size < V.heap.size := by rw [hV]; simp
    have zV : ∀ o, V.cell? ⟨w.heap.size, o, none⟩ = (w.alloc (.cells #[.int .i64 0, .int .i64 0, .int .i64 0, .int .i64 0, .string ⟨#[]⟩, .slice none 0 0] 53)).cell? ⟨w.heap.size, o, none⟩ := fun o => (hV1.cell sw1 hlt).trans (zw1 o)
    have zVf : ∀ o, V.frozen? ⟨w.heap.size, o, none⟩ = false := fun o => (hV1.frozen sw1 hlt).trans (zfw1 o)
    have lyV : Lies (Out w.heap.size w1.heap.size) V f0 o1 k1 l1 h1 t1 x1 n1 := Lies.kept (hV1.2.mono (fun k _ hk => by unfold Out at hk; unfold Save; omega)) f0 ly1'
    have hWV := hWw1.trans hV1
    clear hV hV1 ly1' hWw1 zw1 zfw1
    go_loopw [6] (fun _ wr => ∃ (m : Nat) (f : Ps.Ft) (q : Nat) (o k l h : Int) (t : ByteArray) (x : Option Addr) (nn : Nat), m ≤ n ∧ Ps.pars ws m (.andM f) q = some (F, Q) ∧ Six wr w1.heap.size 0 o k l h t x nn ∧ (∀ o, wr.frozen? ⟨w1.heap.size, o, none⟩ = false) ∧ w1.heap.size < wr.heap.size ∧
        (∀ o, wr.cell? ⟨w.heap.size, o, none⟩ = (w.alloc (.cells #[.int .i64 0, .int .i64 0, .int .i64 0, .int .i64 0, .string ⟨#[]⟩, .slice none 0 0] 53)).cell? ⟨w.heap.size, o, none⟩) ∧ (∀ o, wr.frozen? ⟨w.heap.size, o, none⟩ = false) ∧ Lies (Out w.heap.size w1.heap.size) wr f o k l h t x nn ∧ WentR rb ws q w wr) (fun _ wr => ws.length - atOf rb wr)
    case atStart => exact ⟨n, f0, q0, o1, k1, l1, h1, t1, x1, n1, Nat.le_refl _, HP.out, hSix, hVf, sV, zV, zVf, lyV, hWV⟩
    case round =>
      obtain ⟨m, f, q, o1, k1, l1, h1, t1, x1, n1, hm, hpq, hsix, hyf, hsz, hz, hzf, hly, hW⟩ := hrel
      clear hSix hVf sV zV zVf lyV hWV HP
      have hat := atOf_rd hW.1
      cases m with
      | zero => cases hpq
      | succ m =>
        simp only [Ps.pars] at hpq
        have cm := fun w' (h : Rd w' rb ws q) => mark31 rb ws q 38 ⟨#[38]⟩ rfl w' h
        by_cases hmk : Ps.isMark ws q 38 = true
        · rw [if_pos hmk] at hpq
          have hql := Ps.isMark_lt hmk
          rw [hmk] at cm
          simp only [if_true] at cm
          split at hpq
          · cases hpq
          · rename_i g r eg
            have c := fun w' (h : Rd w' rb ws (q + 1)) => HH.out m (q + 1) g r w' (by omega) eg h
            have hqr := Ps.pars_ge ws m _ _ _ _ eg
            have HQ : Hid (Ps.pars ws m (.andM (.two 5 f g)) r = some (F, Q)) := hpq
            unfold FR at c
            clear hpq eg hmk
            go_wp2_with fail
            refine (cm _ hW.1).mono ?_
            rintro e w2 ⟨rfl, hw2⟩
            have hsix2 : Six w2 w1.heap.size 0 o1 k1 l1 h1 t1 x1 n1 := hsix.of (fun i => hw2.cell hsz (by omega))
            have hyf2 : ∀ o, w2.frozen? ⟨w1.heap.size, o, none⟩ = false := fun o => (hw2.frozen hsz (by omega)).trans (hyf o)
            have hz2 : ∀ o, w2.cell? ⟨w.heap.size, o, none⟩ = (w.alloc (.cells #[.int .i64 0, .int .i64 0, .int .i64 0, .int .i64 0, .string ⟨#[]⟩, .slice none 0 0] 53)).cell? ⟨w.heap.size, o, none⟩ := fun o => (hw2.cell (by omega) hlt).trans (hz o)
            have hzf2 : ∀ o, w2.frozen? ⟨w.heap.size, o, none⟩ = false := fun o => (hw2.frozen (by omega) hlt).trans (hzf o)
            have hly2 := Lies.kept (hw2.2.mono (fun k _ hk => by unfold Out at hk; unfold Save; omega)) f hly
            have hs2 : w1.heap.size < w2.heap.size := Nat.lt_of_lt_of_le hsz hw2.2.size
            have hW2 := hW.trans hw2
            clear hW hw2 hly hsix hz hzf hyf cm hsz
            obtain ⟨y0, y1, y2, y3, y4, y5⟩ := hsix2
            simp only [Nat.zero_add] at y0 y1 y2 y3 y4 y5
            go_wp2_with fail
            first
              | (go_region_with (first
                  | (go_at_call 76; refine (c _ hW2.drew.1).mono ?_; rintro e w3 ⟨o2, k2, l2, h2, t2, x2, n2, rfl, ly2, hw3⟩; have hcl : ∀ o, w3.cell? ⟨w1.heap.size, o, none⟩ = w2.cell? ⟨w1.heap.size, o, none⟩ := (fun o => hw3.cell hs2 (by omega)); have hcf : ∀ o, w3.frozen? ⟨w1.heap.size, o, none⟩ = false := (fun o => (hw3.frozen hs2 (by omega)).trans (hyf2 o)); have hs3 : w1.heap.size < w3.heap.size := Nat.lt_of_lt_of_le hs2 hw3.2.size)))
              | fail
            all_goals
              have hsix3 : Six w3 w1.heap.size 0 o1 k1 l1 h1 t1 x1 n1 := ⟨(hcl 0).trans y0, (hcl 1).trans y1, (hcl 2).trans y2, (hcl 3).trans y3, (hcl 4).trans y4, (hcl 5).trans y5⟩
              have hR := fin_bin 5 hlt sw1 hs2 hs3 hsix3 hcf (fun o => (hw3.cell (by simp; omega) hlt).trans (hz2 o)) (fun o => (hw3.frozen (by simp; omega) hlt).trans (hzf2 o)) (Lies.kept (hw3.2.mono (fun k _ hk => by unfold Out at hk; unfold Save; omega)) f (Lies.kept ((Kept.refl _ w2).drew) f hly2)) ly2 (hW2.drew.trans hw3)
              obtain ⟨X, hX⟩ : ∃ X, X = (((((((w3.setCell ⟨w1.heap.size, 0, none⟩ (.int .i64 5)).setCell ⟨w1.heap.size, 1, none⟩ (.int .i64 0)).setCell ⟨w1.heap.size, 2, none⟩ (.int .i64 0)).setCell ⟨w1.heap.size, 3, none⟩ (.int .i64 0)).setCell ⟨w1.heap.size, 4, none⟩ (.string ⟨#[]⟩)).setCell ⟨w1.heap.size, 5, none⟩ (.slice (some ⟨w3.heap.size, 0, none⟩) 2 2)).alloc (.cells #[.int .i64 o1, .int .i64 k1, .int .i64 l1, .int .i64 h1, .string t1, .slice x1 n1 n1, .int .i64 o2, .int .i64 k2, .int .i64 l2, .int .i64 h2, .string t2, .slice x2 n2 n2] 53)) := ⟨_, rfl⟩
              rw [← hX] at hR ⊢
              clear hX hsix3 hcl hcf hw3 ly2 c hly2 hz2 hzf2 hyf2 hW2 y0 y1 y2 y3 y4 y5
              obtain ⟨R1, R2, R3, R4, R5, R6, R7⟩ := hR
              go_wp2
              go_roundw
              case rel => exact ⟨m, .two 5 f g, r, 5, 0, 0, 0, ⟨#[]⟩, some ⟨w3.heap.size, 0, none⟩, 2, by omega, HQ.out, R1, R2, R3, R4, R5, R6, R7⟩
              case measure => rw [hat, atOf_rd R7.1]; omega
        · rw [if_neg hmk] at hpq
          cases hpq
          have hmf : Ps.isMark ws Q 38 = false := by simpa using hmk
          rw [hmf] at cm
          simp only [Bool.false_eq_true, if_false] at cm
          clear hmk hmf
          go_wp2_with fail
          refine (cm _ hW.1).mono ?_
          rintro e w2 ⟨rfl, hw2⟩
          have hsix2 : Six w2 w1.heap.size 0 o1 k1 l1 h1 t1 x1 n1 := hsix.of (fun i => hw2.cell hsz (by omega))
          have hz2 : ∀ o, w2.cell? ⟨w.heap.size, o, none⟩ = (w.alloc (.cells #[.int .i64 0, .int .i64 0, .int .i64 0, .int .i64 0, .string ⟨#[]⟩, .slice none 0 0] 53)).cell? ⟨w.heap.size, o, none⟩ := fun o => (hw2.cell (by omega) hlt).trans (hz o)
          have hzf2 : ∀ o, w2.frozen? ⟨w.heap.size, o, none⟩ = false := fun o => (hw2.frozen (by omega) hlt).trans (hzf o)
          have hly2 := Lies.kept (hw2.2.mono (fun k _ hk => by unfold Out at hk; unfold Save; omega)) F hly
          have hW2 := hW.trans hw2
          have hne : w1.heap.size ≠ w.heap.size := by omega
          have hne' : w.heap.size ≠ w1.heap.size := by omega
          clear hW hw2 hly hsix hz hzf hyf cm hsz HH
          obtain ⟨y0, y1, y2, y3, y4, y5⟩ := hsix2
          simp only [Nat.zero_add] at y0 y1 y2 y3 y4 y5
          go_wp2
          refine bodyPost_ret (v := .agg #[.int .i64 o1, .int .i64 k1, .int .i64 l1, .int .i64 h1, .string t1, .slice x1 n1 n1]) (by simp [results, Tryz.results63, go_sem, *]) rfl ⟨o1, k1, l1, h1, t1, x1, n1, rfl, Lies.mono (P := Out w.heap.size w1.heap.size) (fun b _ hb => by unfold Out at hb; unfold Past; omega) F (Lies.kept ?_ F hly2), ?_⟩
          · repeat (refine Kept.setCell ?_ (fun k hk hq => by unfold Out at hq; simp; omega) _)
            exact Kept.refl _ _
          · repeat (refine WentR.setCell ?_ (by simp <;> omega) hlt _)
            exact hW2

set_option maxRecDepth 100000 in
set_option maxHeartbeats 4000000 in
theorem or24 (rb : Nat) (ws : List Wd.Word) (n : Nat)
    (H : ∀ m p g r w', m ≤ n → Ps.pars ws m .and p = some (g, r) → Rd w' rb ws p → Calls Tryz.prog 63 #[.pointer (some ⟨rb, 0, none⟩)] w' (FR rb ws g r w'))
    (p Q : Nat) (F : Ps.Ft) (hP : Ps.pars ws (n + 1) .or p = some (F, Q)) (w : World) (h : Rd w rb ws p) :
    Calls Tryz.prog 43 #[.pointer (some ⟨rb, 0, none⟩)] w (FR rb ws F Q w) := by
  have hlt := h.lt
  simp only [Ps.pars] at hP
  split at hP
  · cases hP
  · rename_i f0 q0 e0
    have HP : Hid (Ps.pars ws n (.orM f0) q0 = some (F, Q)) := hP
    have c0 := fun w' (h : Rd w' rb ws p) => H n p f0 q0 w' (Nat.le_refl _) e0 h
    have HH : Hid (∀ m p g r w', m ≤ n → Ps.pars ws m .and p = some (g, r) → Rd w' rb ws p → Calls Tryz.prog 63 #[.pointer (some ⟨rb, 0, none⟩)] w' (FR rb ws g r w')) := H
    clear hP e0 H
    unfold FR at c0 ⊢
    go_enter Tryz.func43, Tryz.ntmps43
    go_wp2_with fail
    have hWw0 : WentR rb ws p w (w.alloc (.cells #[.int .i64 0, .int .i64 0, .int .i64 0, .int .i64 0, .string ⟨#[]⟩, .slice none 0 0] 53)) := (WentR.refl h).alloc _
    have sw0 : w.heap.size < (w.alloc (.cells #[.int .i64 0, .int .i64 0, .int .i64 0, .int .i64 0, .string ⟨#[]⟩, .slice none 0 0] 53)).heap.size := by simp
    refine (c0 _ hWw0.1).mono ?_
    rintro e w1 ⟨o1, k1, l1, h1, t1, x1, n1, rfl, ly1, hw1⟩
    have zw1 : ∀ o, w1.cell? ⟨w.heap.size, o, none⟩ = (w.alloc (.cells #[.int .i64 0, .int .i64 0, .int .i64 0, .int .i64 0, .string ⟨#[]⟩, .slice none 0 0] 53)).cell? ⟨w.heap.size, o, none⟩ := fun o => hw1.cell sw0 hlt
    have zfw1 : ∀ o, w1.frozen? ⟨w.heap.size, o, none⟩ = false := fun o => (hw1.frozen sw0 hlt).trans (by simp)
    have sw1 : w.heap.size < w1.heap.size := Nat.lt_of_lt_of_le sw0 hw1.2.size
    have hWw1 := hWw0.trans hw1
    have ly1' : Lies (Out w.heap.size w1.heap.size) w1 f0 o1 k1 l1 h1 t1 x1 n1 := Lies.mono (fun b hb hp => by unfold Past at hp; simp at hp; unfold Out; omega) f0 ly1
    clear hWw0 hw1 c0 ly1
    go_wp2_with fail
    obtain ⟨V, hV⟩ : ∃ V, V = w1.alloc (.cells #[.int .i64 o1, .int .i64 k1, .int .i64 l1, .int .i64 h1, .string t1, .slice x1 n1 n1] 53) := ⟨_, rfl⟩
    rw [← hV]
    have hSix : Six V w1.heap.size 0 o1 k1 l1 h1 t1 x1 n1 := by rw [hV]; unfold Six; simp
    have hVf : ∀ o, V.frozen? ⟨w1.heap.size, o, none⟩ = false := fun o => by rw [hV]; simp
    have hV1 := (WentR.refl hWw1.1).alloc (.cells #[.int .i64 o1, .int .i64 k1, .int .i64 l1, .int .i64 h1, .string t1, .slice x1 n1 n1] 53)
    rw [← hV] at hV1
    have sV : w1.heap.size < V.heap.size := by rw [hV]; simp
    have zV : ∀ o, V.cell? ⟨w.heap.size, o, none⟩ = (w.alloc (.cells #[.int .i64 0, .int .i64 0, .int .i64 0, .int .i64 0, .string ⟨#[]⟩, .slice none 0 0] 53)).cell? ⟨w.heap.size, o, none⟩ := fun o => (hV1.cell sw1 hlt).trans (zw1 o)
    have zVf : ∀ o, V.frozen? ⟨w.heap.size, o, none⟩ = false := fun o => (hV1.frozen sw1 hlt).trans (zfw1 o)
    have lyV : Lies (Out w.heap.size w1.heap.size) V f0 o1 k1 l1 h1 t1 x1 n1 := Lies.kept (hV1.2.mono (fun k _ hk => by unfold Out at hk; unfold Save; omega)) f0 ly1'
    have hWV := hWw1.trans hV1
    clear hV hV1 ly1' hWw1 zw1 zfw1
    go_loopw [6] (fun _ wr => ∃ (m : Nat) (f : Ps.Ft) (q : Nat) (o k l h : Int) (t : ByteArray) (x : Option Addr) (nn : Nat), m ≤ n ∧ Ps.pars ws m (.orM f) q = some (F, Q) ∧ Six wr w1.heap.size 0 o k l h t x nn ∧ (∀ o, wr.frozen? ⟨w1.heap.size, o, none⟩ = false) ∧ w1.heap.size < wr.heap.size ∧
        (∀ o, wr.cell? ⟨w.heap.size, o, none⟩ = (w.alloc (.cells #[.int .i64 0, .int .i64 0, .int .i64 0, .int .i64 0, .string ⟨#[]⟩, .slice none 0 0] 53)).cell? ⟨w.heap.size, o, none⟩) ∧ (∀ o, wr.frozen? ⟨w.heap.size, o, none⟩ = false) ∧ Lies (Out w.heap.size w1.heap.size) wr f o k l h t x nn ∧ WentR rb ws q w wr) (fun _ wr => ws.length - atOf rb wr)
    case atStart => exact ⟨n, f0, q0, o1, k1, l1, h1, t1, x1, n1, Nat.le_refl _, HP.out, hSix, hVf, sV, zV, zVf, lyV, hWV⟩
    case round =>
      obtain ⟨m, f, q, o1, k1, l1, h1, t1, x1, n1, hm, hpq, hsix, hyf, hsz, hz, hzf, hly, hW⟩ := hrel
      clear hSix hVf sV zV zVf lyV hWV HP
      have hat := atOf_rd hW.1
      cases m with
      | zero => cases hpq
      | succ m =>
        simp only [Ps.pars] at hpq
        have cm := fun w' (h : Rd w' rb ws q) => mark31 rb ws q 124 ⟨#[124]⟩ rfl w' h
        by_cases hmk : Ps.isMark ws q 124 = true
        · rw [if_pos hmk] at hpq
          have hql := Ps.isMark_lt hmk
          rw [hmk] at cm
          simp only [if_true] at cm
          split at hpq
          · cases hpq
          · rename_i g r eg
            have c := fun w' (h : Rd w' rb ws (q + 1)) => HH.out m (q + 1) g r w' (by omega) eg h
            have hqr := Ps.pars_ge ws m _ _ _ _ eg
            have HQ : Hid (Ps.pars ws m (.orM (.two 6 f g)) r = some (F, Q)) := hpq
            unfold FR at c
            clear hpq eg hmk
            go_wp2_with fail
            refine (cm _ hW.1).mono ?_
            rintro e w2 ⟨rfl, hw2⟩
            have hsix2 : Six w2 w1.heap.size 0 o1 k1 l1 h1 t1 x1 n1 := hsix.of (fun i => hw2.cell hsz (by omega))
            have hyf2 : ∀ o, w2.frozen? ⟨w1.heap.size, o, none⟩ = false := fun o => (hw2.frozen hsz (by omega)).trans (hyf o)
            have hz2 : ∀ o, w2.cell? ⟨w.heap.size, o, none⟩ = (w.alloc (.cells #[.int .i64 0, .int .i64 0, .int .i64 0, .int .i64 0, .string ⟨#[]⟩, .slice none 0 0] 53)).cell? ⟨w.heap.size, o, none⟩ := fun o => (hw2.cell (by omega) hlt).trans (hz o)
            have hzf2 : ∀ o, w2.frozen? ⟨w.heap.size, o, none⟩ = false := fun o => (hw2.frozen (by omega) hlt).trans (hzf o)
            have hly2 := Lies.kept (hw2.2.mono (fun k _ hk => by unfold Out at hk; unfold Save; omega)) f hly
            have hs2 : w1.heap.size < w2.heap.size := Nat.lt_of_lt_of_le hsz hw2.2.size
            have hW2 := hW.trans hw2
            clear hW hw2 hly hsix hz hzf hyf cm hsz
            obtain ⟨y0, y1, y2, y3, y4, y5⟩ := hsix2
            simp only [Nat.zero_add] at y0 y1 y2 y3 y4 y5
            go_wp2_with fail
            first
              | (go_region_with (first
                  | (go_at_call 63; refine (c _ hW2.drew.1).mono ?_; rintro e w3 ⟨o2, k2, l2, h2, t2, x2, n2, rfl, ly2, hw3⟩; have hcl : ∀ o, w3.cell? ⟨w1.heap.size, o, none⟩ = w2.cell? ⟨w1.heap.size, o, none⟩ := (fun o => hw3.cell hs2 (by omega)); have hcf : ∀ o, w3.frozen? ⟨w1.heap.size, o, none⟩ = false := (fun o => (hw3.frozen hs2 (by omega)).trans (hyf2 o)); have hs3 : w1.heap.size < w3.heap.size := Nat.lt_of_lt_of_le hs2 hw3.2.size)))
              | fail
            all_goals
              have hsix3 : Six w3 w1.heap.size 0 o1 k1 l1 h1 t1 x1 n1 := ⟨(hcl 0).trans y0, (hcl 1).trans y1, (hcl 2).trans y2, (hcl 3).trans y3, (hcl 4).trans y4, (hcl 5).trans y5⟩
              have hR := fin_bin 6 hlt sw1 hs2 hs3 hsix3 hcf (fun o => (hw3.cell (by simp; omega) hlt).trans (hz2 o)) (fun o => (hw3.frozen (by simp; omega) hlt).trans (hzf2 o)) (Lies.kept (hw3.2.mono (fun k _ hk => by unfold Out at hk; unfold Save; omega)) f (Lies.kept ((Kept.refl _ w2).drew) f hly2)) ly2 (hW2.drew.trans hw3)
              obtain ⟨X, hX⟩ : ∃ X, X = (((((((w3.setCell ⟨w1.heap.size, 0, none⟩ (.int .i64 6)).setCell ⟨w1.heap.size, 1, none⟩ (.int .i64 0)).setCell ⟨w1.heap.size, 2, none⟩ (.int .i64 0)).setCell ⟨w1.heap.size, 3, none⟩ (.int .i64 0)).setCell ⟨w1.heap.size, 4, none⟩ (.string ⟨#[]⟩)).setCell ⟨w1.heap.size, 5, none⟩ (.slice (some ⟨w3.heap.size, 0, none⟩) 2 2)).alloc (.cells #[.int .i64 o1, .int .i64 k1, .int .i64 l1, .int .i64 h1, .string t1, .slice x1 n1 n1, .int .i64 o2, .int .i64 k2, .int .i64 l2, .int .i64 h2, .string t2, .slice x2 n2 n2] 53)) := ⟨_, rfl⟩
              rw [← hX] at hR ⊢
              clear hX hsix3 hcl hcf hw3 ly2 c hly2 hz2 hzf2 hyf2 hW2 y0 y1 y2 y3 y4 y5
              obtain ⟨R1, R2, R3, R4, R5, R6, R7⟩ := hR
              go_wp2
              go_roundw
              case rel => exact ⟨m, .two 6 f g, r, 6, 0, 0, 0, ⟨#[]⟩, some ⟨w3.heap.size, 0, none⟩, 2, by omega, HQ.out, R1, R2, R3, R4, R5, R6, R7⟩
              case measure => rw [hat, atOf_rd R7.1]; omega
        · rw [if_neg hmk] at hpq
          cases hpq
          have hmf : Ps.isMark ws Q 124 = false := by simpa using hmk
          rw [hmf] at cm
          simp only [Bool.false_eq_true, if_false] at cm
          clear hmk hmf
          go_wp2_with fail
          refine (cm _ hW.1).mono ?_
          rintro e w2 ⟨rfl, hw2⟩
          have hsix2 : Six w2 w1.heap.size 0 o1 k1 l1 h1 t1 x1 n1 := hsix.of (fun i => hw2.cell hsz (by omega))
          have hz2 : ∀ o, w2.cell? ⟨w.heap.size, o, none⟩ = (w.alloc (.cells #[.int .i64 0, .int .i64 0, .int .i64 0, .int .i64 0, .string ⟨#[]⟩, .slice none 0 0] 53)).cell? ⟨w.heap.size, o, none⟩ := fun o => (hw2.cell (by omega) hlt).trans (hz o)
          have hzf2 : ∀ o, w2.frozen? ⟨w.heap.size, o, none⟩ = false := fun o => (hw2.frozen (by omega) hlt).trans (hzf o)
          have hly2 := Lies.kept (hw2.2.mono (fun k _ hk => by unfold Out at hk; unfold Save; omega)) F hly
          have hW2 := hW.trans hw2
          have hne : w1.heap.size ≠ w.heap.size := by omega
          have hne' : w.heap.size ≠ w1.heap.size := by omega
          clear hW hw2 hly hsix hz hzf hyf cm hsz HH
          obtain ⟨y0, y1, y2, y3, y4, y5⟩ := hsix2
          simp only [Nat.zero_add] at y0 y1 y2 y3 y4 y5
          go_wp2
          refine bodyPost_ret (v := .agg #[.int .i64 o1, .int .i64 k1, .int .i64 l1, .int .i64 h1, .string t1, .slice x1 n1 n1]) (by simp [results, Tryz.results43, go_sem, *]) rfl ⟨o1, k1, l1, h1, t1, x1, n1, rfl, Lies.mono (P := Out w.heap.size w1.heap.size) (fun b _ hb => by unfold Out at hb; unfold Past; omega) F (Lies.kept ?_ F hly2), ?_⟩
          · repeat (refine Kept.setCell ?_ (fun k hk hq => by unfold Out at hq; simp; omega) _)
            exact Kept.refl _ _
          · repeat (refine WentR.setCell ?_ (by simp <;> omega) hlt _)
            exact hW2

end Rf
end Go.Proofs.YtdeojcodbojmoaaGreatDoor
namespace Go.Proofs.YtdeojcodbojmoaaGreatDoor
namespace Rf
open Go.RowKit
set_option maxRecDepth 100000
set_option linter.unusedVariables false

/-- What the three functions of the reader do, where the words are right. -/
theorem reads_all (rb : Nat) (ws : List Wd.Word) (n : Nat) : ∀ (m p : Nat) (g : Ps.Ft) (r : Nat) (w' : World), m ≤ n → Rd w' rb ws p →
    (Ps.pars ws m .not p = some (g, r) → Calls Tryz.prog 76 #[.pointer (some ⟨rb, 0, none⟩)] w' (FR rb ws g r w')) ∧
    (Ps.pars ws m .and p = some (g, r) → Calls Tryz.prog 63 #[.pointer (some ⟨rb, 0, none⟩)] w' (FR rb ws g r w')) ∧
    (Ps.pars ws m .or p = some (g, r) → Calls Tryz.prog 43 #[.pointer (some ⟨rb, 0, none⟩)] w' (FR rb ws g r w')) := by
  induction n with
  | zero =>
    intro m p g r w' hm h
    obtain rfl : m = 0 := by omega
    exact ⟨fun h => (by cases h), fun h => (by cases h), fun h => (by cases h)⟩
  | succ n ih =>
    intro m p g r w' hm h
    by_cases hmn : m ≤ n
    · exact ih m p g r w' hmn h
    · obtain rfl : m = n + 1 := by omega
      refine ⟨fun hP => ?_, fun hP => ?_, fun hP => ?_⟩
      · simp only [Ps.pars] at hP
        split at hP
        · rename_i e33
          split at hP
          · cases hP
          · rename_i f q eq
            cases hP
            exact not_bang rb ws p r f w' h e33 (fun w'' h'' => (ih n (p + 1) f r w'' (Nat.le_refl _) h'').1 eq)
        · rename_i e33
          have e33' : Ps.isMark ws p 33 = false := by simpa using e33
          split at hP
          · rename_i e40
            split at hP
            · cases hP
            · rename_i f q eq
              split at hP
              · rename_i e41
                cases hP
                exact not_open rb ws p q g w' h e33' e40 (fun w'' h'' => (ih n (p + 1) g q w'' (Nat.le_refl _) h'').2.2 eq) e41
              · cases hP
          · rename_i e40
            have e40' : Ps.isMark ws p 40 = false := by simpa using e40
            split at hP
            · rename_i e42
              cases hP
              exact not_star rb ws p w' h e33' e40' e42
            · rename_i e42
              have e42' : Ps.isMark ws p 42 = false := by simpa using e42
              split at hP
              · rename_i e94
                split at hP
                · cases hP
                · rename_i t eq
                  cases hP
                  exact not_name rb ws p (p + 1) rfl t w' h e33' e40' e42' e94 eq
              · rename_i e94
                have e94' : Ps.isMark ws p 94 = false := by simpa using e94
                split at hP
                · rename_i e64
                  exact not_at rb ws p r g w' h e33' e40' e42' e94' e64 hP
                · cases hP
      · exact and30 rb ws n (fun m p g r w'' hm hp h'' => (ih m p g r w'' hm h'').1 hp) p r g hP w' h
      · exact or24 rb ws n (fun m p g r w'' hm hp h'' => (ih m p g r w'' hm h'').2.1 hp) p r g hP w' h

set_option maxRecDepth 100000 in
set_option maxHeartbeats 1000000 in
theorem deep_leaf (o k l h : Int) (t : ByteArray) (w : World) :
    Calls Tryz.prog 45 #[.agg #[.int .i64 o, .int .i64 k, .int .i64 l, .int .i64 h, .string t, .slice none 0 0]] w fun e w' => e = .returned (.int .i64 1) ∧ Below w.heap.size w w' := by
  go_enter Tryz.func45, Tryz.ntmps45
  go_wp2_with fail
  go_loopw [3, 4] (fun d i wr => d = .int .i64 0 ∧ i = .int .i64 0 ∧ wr = w.alloc (.cells #[.int .i64 o, .int .i64 k, .int .i64 l, .int .i64 h, .string t, .slice none 0 0] 53)) (fun _ _ _ => 0)
  case atStart => exact ⟨rfl, rfl, rfl⟩
  case round =>
    obtain ⟨rfl, rfl, rfl⟩ := hrel
    go_wp2
    go_ret
    exact ⟨rfl, (Below.refl _ _).alloc (Nat.le_refl _) _⟩

set_option maxRecDepth 100000 in
set_option maxHeartbeats 2000000 in
theorem deep_non (o k l h : Int) (t : ByteArray) (w : World) (b : Nat) (d : Nat) (hd : d ≤ 100) (o1 k1 l1 h1 : Int) (t1 : ByteArray) (x1 : Option Addr) (n1 : Nat) (s : Six w b 0 o1 k1 l1 h1 t1 x1 n1)
    (c : ∀ w', Below w.heap.size w w' → Calls Tryz.prog 45 #[.agg #[.int .i64 o1, .int .i64 k1, .int .i64 l1, .int .i64 h1, .string t1, .slice x1 n1 n1]] w' fun e w'' => e = .returned (.int .i64 d) ∧ Below w'.heap.size w' w'') :
    Calls Tryz.prog 45 #[.agg #[.int .i64 o, .int .i64 k, .int .i64 l, .int .i64 h, .string t, .slice (some ⟨b, 0, none⟩) 1 1]] w fun e w' => e = .returned (.int .i64 (1 + d)) ∧ Below w.heap.size w w' := by
  have hb0 := s.lt
  go_enter Tryz.func45, Tryz.ntmps45
  go_wp2_with fail
  obtain ⟨W, hW⟩ : ∃ W, W = w.alloc (.cells #[.int .i64 o, .int .i64 k, .int .i64 l, .int .i64 h, .string t, .slice (some ⟨b, 0, none⟩) 1 1] 53) := ⟨_, rfl⟩
  rw [← hW]
  have hbW : Below w.heap.size w W := by rw [hW]; exact (Below.refl _ _).alloc (Nat.le_refl _) _
  have f5 : W.cell? ⟨w.heap.size, 5, none⟩ = some (.slice (some ⟨b, 0, none⟩) 1 1) := by rw [hW]; simp
  have sW : w.heap.size < W.heap.size := by rw [hW]; simp
  clear hW
  go_loopw [3, 4] (fun d' i wr => ∃ k : Nat, k ≤ 1 ∧ i = .int .i64 k ∧ d' = .int .i64 (if k = 0 then 0 else (d : Int)) ∧ Below W.heap.size W wr) (fun _ i _ => 1 - (intOf i).toNat)
  case atStart => exact ⟨0, by omega, rfl, rfl, Below.refl _ _⟩
  case round =>
    obtain ⟨q, hq, rfl, rfl, hbel⟩ := hrel
    have f5' := (hbel.cell (p := ⟨w.heap.size, 5, none⟩) sW).trans f5
    have hbw : Below w.heap.size w wr := hbW.trans (hbel.mono (Nat.le_of_lt sW))
    by_cases hq0 : q = 0
    · subst hq0
      obtain ⟨y0, y1, y2, y3, y4, y5⟩ := s.of (fun i => hbw.cell (p := ⟨b, i, none⟩) hb0)
      simp only [Nat.zero_add] at y0 y1 y2 y3 y4 y5
      simp only [if_true]
      go_wp2_with fail
      refine (c _ hbw).mono ?_
      rintro e w2 ⟨rfl, hb2⟩
      clear y0 y1 y2 y3 y4 y5 c
      go_wp2
      all_goals
        go_roundw
        case rel => exact ⟨1, by omega, rfl, by simp <;> omega, hbel.trans (hb2.mono hbel.size)⟩
        case measure => simp [intOf]
    · obtain rfl : q = 1 := by omega
      clear c
      simp only [if_neg hq0]
      go_wp2
      go_ret
      exact ⟨rfl, hbw⟩

/-- The deepest of the first q parts. -/
def deepTo (d e : Nat) (q : Nat) : Nat := if q = 0 then 0 else if q = 1 then d else max d e

set_option maxRecDepth 100000 in
set_option maxHeartbeats 2000000 in
theorem deep_two (o k l h : Int) (t : ByteArray) (w : World) (b : Nat) (d e : Nat) (hd : d ≤ 100) (he : e ≤ 100) (o1 k1 l1 h1 : Int) (t1 : ByteArray) (x1 : Option Addr) (n1 : Nat) (s : Six w b 0 o1 k1 l1 h1 t1 x1 n1)
    (o2 k2 l2 h2 : Int) (t2 : ByteArray) (x2 : Option Addr) (n2 : Nat) (s' : Six w b 6 o2 k2 l2 h2 t2 x2 n2)
    (c : ∀ w', Below w.heap.size w w' → Calls Tryz.prog 45 #[.agg #[.int .i64 o1, .int .i64 k1, .int .i64 l1, .int .i64 h1, .string t1, .slice x1 n1 n1]] w' fun r w'' => r = .returned (.int .i64 d) ∧ Below w'.heap.size w' w'')
    (c' : ∀ w', Below w.heap.size w w' → Calls Tryz.prog 45 #[.agg #[.int .i64 o2, .int .i64 k2, .int .i64 l2, .int .i64 h2, .string t2, .slice x2 n2 n2]] w' fun r w'' => r = .returned (.int .i64 e) ∧ Below w'.heap.size w' w'') :
    Calls Tryz.prog 45 #[.agg #[.int .i64 o, .int .i64 k, .int .i64 l, .int .i64 h, .string t, .slice (some ⟨b, 0, none⟩) 2 2]] w fun r w' => r = .returned (.int .i64 (1 + (max d e : Nat))) ∧ Below w.heap.size w w' := by
  have hb0 := s.lt
  go_enter Tryz.func45, Tryz.ntmps45
  go_wp2_with fail
  obtain ⟨W, hW⟩ : ∃ W, W = w.alloc (.cells #[.int .i64 o, .int .i64 k, .int .i64 l, .int .i64 h, .string t, .slice (some ⟨b, 0, none⟩) 2 2] 53) := ⟨_, rfl⟩
  rw [← hW]
  have hbW : Below w.heap.size w W := by rw [hW]; exact (Below.refl _ _).alloc (Nat.le_refl _) _
  have f5 : W.cell? ⟨w.heap.size, 5, none⟩ = some (.slice (some ⟨b, 0, none⟩) 2 2) := by rw [hW]; simp
  have sW : w.heap.size < W.heap.size := by rw [hW]; simp
  clear hW
  go_loopw [3, 4] (fun d' i wr => ∃ (k D : Nat), k ≤ 2 ∧ i = .int .i64 k ∧ d' = .int .i64 D ∧ D = deepTo d e k ∧ Below W.heap.size W wr) (fun _ i _ => 2 - (intOf i).toNat)
  case atStart => exact ⟨0, 0, by omega, rfl, rfl, rfl, Below.refl _ _⟩
  case round =>
    obtain ⟨q, D, hq, rfl, rfl, hD, hbel⟩ := hrel
    have f5' := (hbel.cell (p := ⟨w.heap.size, 5, none⟩) sW).trans f5
    have hbw : Below w.heap.size w wr := hbW.trans (hbel.mono (Nat.le_of_lt sW))
    have HD : Hid (D = deepTo d e q) := hD
    have hDb : D ≤ 100 := by rw [hD]; unfold deepTo; split <;> (try split) <;> omega
    clear hD
    by_cases hq0 : q = 0
    · subst hq0
      obtain ⟨y0, y1, y2, y3, y4, y5⟩ := s.of (fun i => hbw.cell (p := ⟨b, i, none⟩) hb0)
      simp only [Nat.zero_add] at y0 y1 y2 y3 y4 y5
      go_wp2_with fail
      refine (c _ hbw).mono ?_
      rintro r w2 ⟨rfl, hb2⟩
      clear y0 y1 y2 y3 y4 y5 c c'
      have hz : D = 0 := HD.out
      go_wp2
      all_goals
        go_roundw
        case rel => exact ⟨1, d, by omega, rfl, by congr 1 <;> omega, rfl, hbel.trans (hb2.mono hbel.size)⟩
        case measure => simp [intOf]
    · by_cases hq1 : q = 1
      · subst hq1
        obtain ⟨y0, y1, y2, y3, y4, y5⟩ := s'.of (fun i => hbw.cell (p := ⟨b, i, none⟩) hb0)
        simp only [Nat.reduceAdd] at y0 y1 y2 y3 y4 y5
        go_wp2_with fail
        refine (c' _ hbw).mono ?_
        rintro r w2 ⟨rfl, hb2⟩
        clear y0 y1 y2 y3 y4 y5 c c'
        have HZ : Hid (D = d) := HD.out
        go_wp2
        all_goals
          go_roundw
          case rel => exact ⟨2, max d e, by omega, rfl, by have := HZ.out; congr 1; omega, rfl, hbel.trans (hb2.mono hbel.size)⟩
          case measure => simp [intOf]
      · obtain rfl : q = 2 := by omega
        clear c c'
        have HZ : Hid (D = max d e) := HD.out
        go_wp2
        go_ret
        exact ⟨by rw [← HZ.out]; rfl, hbw⟩

/-- How deep a filter is. -/
theorem deep26 (f : Ps.Ft) : ∀ (w : World) (o k l h : Int) (t : ByteArray) (x : Option Addr) (n : Nat), f.deep ≤ 100 → Lies Any w f o k l h t x n →
    Calls Tryz.prog 45 #[.agg #[.int .i64 o, .int .i64 k, .int .i64 l, .int .i64 h, .string t, .slice x n n]] w fun e w' => e = .returned (.int .i64 f.deep) ∧ Below w.heap.size w w' := by
  induction f with
  | leaf op key lo hi tag =>
    rintro w o k l h t x n _ ⟨rfl, rfl, rfl, rfl, rfl, rfl, rfl⟩
    exact deep_leaf o k l h t w
  | non f ih =>
    rintro w o k l h t x n hd ⟨rfl, rfl, rfl, rfl, rfl, b, o1, k1, l1, h1, t1, x1, n1, rfl, rfl, _, s, y⟩
    simp only [Ps.Ft.deep] at hd
    have := deep_non 7 0 0 0 ⟨#[]⟩ w b f.deep (by omega) o1 k1 l1 h1 t1 x1 n1 s (fun w' hb => ih w' o1 k1 l1 h1 t1 x1 n1 (by omega) (y.below hb))
    simpa [Ps.Ft.deep] using this
  | two op f g ihf ihg =>
    rintro w o k l h t x n hd ⟨rfl, rfl, rfl, rfl, rfl, b, o1, k1, l1, h1, t1, x1, n1, o2, k2, l2, h2, t2, x2, n2, rfl, rfl, _, s, y, s', z⟩
    simp only [Ps.Ft.deep] at hd
    have := deep_two o 0 0 0 ⟨#[]⟩ w b f.deep g.deep (by omega) (by omega) o1 k1 l1 h1 t1 x1 n1 s o2 k2 l2 h2 t2 x2 n2 s' (fun w' hb => ihf w' o1 k1 l1 h1 t1 x1 n1 (by omega) (y.below hb)) (fun w' hb => ihg w' o2 k2 l2 h2 t2 x2 n2 (by omega) (z.below hb))
    simpa [Ps.Ft.deep] using this

end Rf
end Go.Proofs.YtdeojcodbojmoaaGreatDoor
namespace Go.Proofs.YtdeojcodbojmoaaGreatDoor
namespace Rf
open Go.RowKit
set_option maxRecDepth 100000
set_option linter.unusedVariables false

/-- Block rb holds a reader to which a word did not fit. -/
def Bd (w : World) (rb : Nat) : Prop := (∀ o, w.frozen? ⟨rb, o, none⟩ = false) ∧ ∃ (ao : Option Addr) (len cap : Nat) (p : Nat) (en po : Int), len ≤ 60 ∧ p ≤ 60 ∧
  w.cell? ⟨rb, 0, none⟩ = some (.slice ao len cap) ∧ w.cell? ⟨rb, 1, none⟩ = some (.int .i64 p) ∧ w.cell? ⟨rb, 2, none⟩ = some (.int .i64 en) ∧ w.cell? ⟨rb, 3, none⟩ = some (.bool true) ∧ w.cell? ⟨rb, 4, none⟩ = some (.int .i64 po)

theorem Bd.lt {w : World} {rb : Nat} (h : Bd w rb) : rb < w.heap.size := by
  obtain ⟨_, ao, len, cap, p, en, po, _, _, q0, _⟩ := h
  exact World.block_lt_of_cell? w ⟨rb, 0, none⟩ q0

theorem Bd.below {w w' : World} {rb : Nat} (h : Bd w rb) (hb : Below (rb + 1) w w') : Bd w' rb := by
  obtain ⟨hf, ao, len, cap, p, en, po, h1, h2, q0, q1, q2, q3, q4⟩ := h
  exact ⟨fun o => (hb.frozen (by simp)).trans (hf o), ao, len, cap, p, en, po, h1, h2, (hb.cell (by simp)).trans q0, (hb.cell (by simp)).trans q1, (hb.cell (by simp)).trans q2, (hb.cell (by simp)).trans q3, (hb.cell (by simp)).trans q4⟩

/-- What failing leaves behind. -/
def WentB (rb : Nat) (w w' : World) : Prop := Bd w' rb ∧ Kept (Save rb) w w'

/-- The two stores of fail. -/
theorem bd_set {w : World} {rb : Nat} {ao : Option Addr} {len cap p : Nat} {en po : Int} (hf : ∀ o, w.frozen? ⟨rb, o, none⟩ = false) (h1 : len ≤ 60) (h2 : p ≤ 60) (q0 : w.cell? ⟨rb, 0, none⟩ = some (.slice ao len cap)) (q1 : w.cell? ⟨rb, 1, none⟩ = some (.int .i64 p)) (q2 : w.cell? ⟨rb, 2, none⟩ = some (.int .i64 en)) (q3 : w.cell? ⟨rb, 3, none⟩ = some (.bool false)) (q4 : w.cell? ⟨rb, 4, none⟩ = some (.int .i64 po)) (po' : Int) : WentB rb w ((w.setCell ⟨rb, 3, none⟩ (.bool true)).setCell ⟨rb, 4, none⟩ (.int .i64 po')) := by
  have o : ∀ i, i ≠ 3 → i ≠ 4 → ((w.setCell ⟨rb, 3, none⟩ (.bool true)).setCell ⟨rb, 4, none⟩ (.int .i64 po')).cell? ⟨rb, i, none⟩ = w.cell? ⟨rb, i, none⟩ := fun i h3 h4 => by
    rw [World.cell?_setCell_other _ _ _ _ (by simp <;> omega), World.cell?_setCell_other _ _ _ _ (by simp <;> omega)]
  refine ⟨⟨fun o => by simpa using hf o, ao, len, cap, p, en, po', h1, h2, (o 0 (by omega) (by omega)).trans q0, (o 1 (by omega) (by omega)).trans q1, (o 2 (by omega) (by omega)).trans q2, ?_, ?_⟩, ?_⟩
  · rw [World.cell?_setCell_other _ _ _ _ (by simp)]; exact World.cell?_setCell_same w ⟨rb, 3, none⟩ _ (u := .bool false) q3
  · exact World.cell?_setCell_same _ ⟨rb, 4, none⟩ _ (u := .int .i64 po) (by rw [World.cell?_setCell_other _ _ _ _ (by simp)]; exact q4)
  · exact ((Kept.refl (Save rb) w).setCell (p := ⟨rb, 3, none⟩) (fun k _ hk => hk) _).setCell (p := ⟨rb, 4, none⟩) (fun k _ hk => hk) _

theorem WentB.po {rb : Nat} {w w' : World} (h : WentB rb w w') (po : Int) : WentB rb w (w'.setCell ⟨rb, 4, none⟩ (.int .i64 po)) := by
  obtain ⟨⟨hf, ao, len, cap, p, en, po0, h1, h2, q0, q1, q2, q3, q4⟩, hk⟩ := h
  have o : ∀ i, i ≠ 4 → (w'.setCell ⟨rb, 4, none⟩ (.int .i64 po)).cell? ⟨rb, i, none⟩ = w'.cell? ⟨rb, i, none⟩ := fun i h4 => World.cell?_setCell_other _ _ _ _ (by simp <;> omega)
  exact ⟨⟨fun o => by simpa using hf o, ao, len, cap, p, en, po, h1, h2, (o 0 (by omega)).trans q0, (o 1 (by omega)).trans q1, (o 2 (by omega)).trans q2, (o 3 (by omega)).trans q3, World.cell?_setCell_same _ ⟨rb, 4, none⟩ _ (u := .int .i64 po0) q4⟩, hk.setCell (p := ⟨rb, 4, none⟩) (fun k _ hk => hk) _⟩

set_option maxHeartbeats 2000000 in
/-- fail, at a place behind the last word. -/
theorem fail_end (rb : Nat) (w : World) (ao : Option Addr) (len cap p at_ : Nat) (en po : Int) (hf : ∀ o, w.frozen? ⟨rb, o, none⟩ = false) (h1 : len ≤ 60) (h2 : p ≤ 60) (ha : len ≤ at_) (ha2 : at_ ≤ 60) (q0 : w.cell? ⟨rb, 0, none⟩ = some (.slice ao len cap)) (q1 : w.cell? ⟨rb, 1, none⟩ = some (.int .i64 p)) (q2 : w.cell? ⟨rb, 2, none⟩ = some (.int .i64 en)) (q3 : w.cell? ⟨rb, 3, none⟩ = some (.bool false)) (q4 : w.cell? ⟨rb, 4, none⟩ = some (.int .i64 po)) :
    Calls Tryz.prog 44 #[.pointer (some ⟨rb, 0, none⟩), .int .i64 at_] w fun r w' => r = .returned (.tuple #[]) ∧ WentB rb w w' := by
  have hS := bd_set hf h1 h2 q0 q1 q2 q3 q4 en
  have HS : Hid _ := hS
  have hg : decide ((at_ : Int) < (len : Int)) = false := decide_eq_false (by omega)
  have hgN : decide (at_ < len) = false := decide_eq_false (by omega)
  clear hS
  go_enter Tryz.func44, Tryz.ntmps44
  go_wp2
  refine bodyPost_end (v := .tuple #[]) (by simp [results, Tryz.results44, go_sem]) rfl ?_
  exact ⟨rfl, HS.out⟩

set_option maxHeartbeats 2000000 in
/-- fail, at a word. -/
theorem fail_word (rb : Nat) (w : World) (b len cap p at_ : Nat) (en po pl : Int) (hbr : b ≠ rb) (hf : ∀ o, w.frozen? ⟨rb, o, none⟩ = false) (h1 : len ≤ 60) (h2 : p ≤ 60) (ha : at_ < len) (q0 : w.cell? ⟨rb, 0, none⟩ = some (.slice (some ⟨b, 0, none⟩) len cap)) (q1 : w.cell? ⟨rb, 1, none⟩ = some (.int .i64 p)) (q2 : w.cell? ⟨rb, 2, none⟩ = some (.int .i64 en)) (q3 : w.cell? ⟨rb, 3, none⟩ = some (.bool false)) (q4 : w.cell? ⟨rb, 4, none⟩ = some (.int .i64 po)) (r3 : w.cell? ⟨b, at_ * 4 + 3, none⟩ = some (.int .i64 pl)) :
    Calls Tryz.prog 44 #[.pointer (some ⟨rb, 0, none⟩), .int .i64 at_] w fun r w' => r = .returned (.tuple #[]) ∧ WentB rb w w' := by
  have hS := bd_set hf h1 h2 q0 q1 q2 q3 q4 en
  have HS : Hid _ := hS
  have hg : decide ((at_ : Int) < (len : Int)) = true := decide_eq_true (by omega)
  have hgN : decide (at_ < len) = true := decide_eq_true (by omega)
  have hbr' : rb ≠ b := fun e => hbr e.symm
  clear hS
  go_enter Tryz.func44, Tryz.ntmps44
  go_wp2
  all_goals (
    refine bodyPost_end (v := .tuple #[]) (by simp [results, Tryz.results44, go_sem]) rfl ?_
    exact ⟨rfl, WentB.po HS.out _⟩)

set_option maxHeartbeats 1000000 in
/-- fail, once it has failed. -/
theorem fail_bad (rb : Nat) (w : World) (at_ : Int) (h : Bd w rb) : Calls Tryz.prog 44 #[.pointer (some ⟨rb, 0, none⟩), .int .i64 at_] w fun r w' => r = .returned (.tuple #[]) ∧ w' = w := by
  obtain ⟨hf, ao, len, cap, p, en, po, h1, h2, q0, q1, q2, q3, q4⟩ := h
  go_enter Tryz.func44, Tryz.ntmps44
  go_wp2
  first
    | (go_ret; exact ⟨rfl, rfl⟩)
    | (refine bodyPost_ret (v := .tuple #[]) (by simp [results, Tryz.results44, go_sem]) rfl ⟨rfl, rfl⟩)

/-- fail of a reader to which all has fitted. -/
theorem fail44 (rb : Nat) (ws : List Wd.Word) (p at_ : Nat) (w : World) (h : Rd w rb ws p) (ha : at_ ≤ 60) : Calls Tryz.prog 44 #[.pointer (some ⟨rb, 0, none⟩), .int .i64 at_] w fun r w' => r = .returned (.tuple #[]) ∧ WentB rb w w' := by
  obtain ⟨h1, h2, hf, ao, cap, en, po, b, q0, q1, q2, q3, q4, h3, h4⟩ := h
  by_cases hal : at_ < ws.length
  · obtain ⟨rfl, hlt⟩ := h3 (by omega)
    obtain ⟨_, _, _, _, r3⟩ := h4 at_ _ (List.getElem?_eq_getElem hal)
    exact fail_word rb w b ws.length cap p at_ en po _ (by omega) hf h1 (by omega) hal q0 q1 q2 q3 q4 r3
  · exact fail_end rb w ao ws.length cap p at_ en po hf h1 (by omega) (by omega) ha q0 q1 q2 q3 q4

set_option maxHeartbeats 1000000 in
theorem mark_bad (rb : Nat) (s : ByteArray) (w : World) (h : Bd w rb) : Calls Tryz.prog 64 #[.pointer (some ⟨rb, 0, none⟩), .string s] w fun e w' => e = .returned (.bool false) ∧ ∃ n, w' = w.drewN n := by
  obtain ⟨hf, ao, len, cap, p, en, po, h1, h2, q0, q1, q2, q3, q4⟩ := h
  go_enter Tryz.func64, Tryz.ntmps64
  go_wp2_with fail
  go_quiet (fail)
  go_wp2
  go_ret
  exact ⟨rfl, _, rfl⟩

set_option maxHeartbeats 1000000 in
theorem num_bad (rb : Nat) (below : Int) (w : World) (h : Bd w rb) : Calls Tryz.prog 97 #[.pointer (some ⟨rb, 0, none⟩), .int .i64 below] w fun e w' => e = .returned (.int .i64 0) ∧ w' = w := by
  obtain ⟨hf, ao, len, cap, p, en, po, h1, h2, q0, q1, q2, q3, q4⟩ := h
  go_enter Tryz.func97, Tryz.ntmps97
  go_wp2
  go_ret
  exact ⟨rfl, rfl⟩

end Rf
end Go.Proofs.YtdeojcodbojmoaaGreatDoor
namespace Go.Proofs.YtdeojcodbojmoaaGreatDoor
namespace Rf
open Go.RowKit
set_option maxRecDepth 100000
set_option linter.unusedVariables false

theorem WentB.of_drew {rb n : Nat} {w w' : World} (h : WentB rb (w.drewN n) w') : WentB rb w w' := ⟨h.1, (⟨rfl, rfl, rfl, Nat.le_refl _, fun _ _ _ => rfl⟩ : Kept (Save rb) w (w.drewN n)).trans h.2⟩

set_option maxHeartbeats 4000000 in
theorem num_no97 (rb : Nat) (ws : List Wd.Word) (p : Nat) (below : Int) (w : World) (h : Rd w rb ws p) (hn : Ps.num ws p below = none) :
    Calls Tryz.prog 97 #[.pointer (some ⟨rb, 0, none⟩), .int .i64 below] w fun e w' => e = .returned (.int .i64 0) ∧ WentB rb w w' := by
  have hc : ∀ n, Calls Tryz.prog 44 #[.pointer (some ⟨rb, 0, none⟩), .int .i64 p] (w.drewN n) fun r w' => r = .returned (.tuple #[]) ∧ WentB rb (w.drewN n) w' := fun n => fail44 rb ws p p (w.drewN n) (h.below (drewN_below _ w n)) (by have := h.1; have := h.2.1; omega)
  obtain ⟨h1, h2, hf, ao, cap, en, po, b, q0, q1, q2, q3, q4, h3, h4⟩ := h
  have hp0 : (0 : Int) ≤ (p : Int) := by omega
  by_cases hp : p < ws.length
  · obtain ⟨rfl, hb⟩ := h3 (by omega)
    have hx : ws[p]? = some ws[p] := List.getElem?_eq_getElem hp
    obtain ⟨r0, r1, r2, r3⟩ := h4 p _ hx
    unfold Ps.num at hn
    rw [hx] at hn
    simp only at hn
    have hg : decide ((ws.length : Int) ≤ (p : Int)) = false := decide_eq_false (by omega)
    have hgN : decide (ws.length ≤ p) = false := decide_eq_false (by omega)
    have hp1 : (p : Int) < (ws.length : Int) := by omega
    generalize ws[p] = x at *
    generalize ws.length = len at *
    clear h3 h4
    by_cases hk : x.kind = 2
    · have hb2 : ¬ x.num < below := fun hlt => by rw [if_pos ⟨hk, hlt⟩] at hn; cases hn
      have hg2 : decide (below ≤ x.num) = true := decide_eq_true (by omega)
      rw [hk] at r0
      clear hn r3
      go_enter Tryz.func97, Tryz.ntmps97
      go_wp2_with fail
      go_quiet (fail)
      go_wp2_with fail
      refine (hc _).mono ?_
      rintro r w1 ⟨rfl, hw1⟩
      clear hc
      go_wp2
      go_ret
      exact ⟨rfl, hw1.of_drew⟩
    · have hk2 : (x.kind != 2) = true := by simpa [bne] using hk
      clear hn r3 hk
      go_enter Tryz.func97, Tryz.ntmps97
      go_wp2_with fail
      go_quiet (fail)
      go_wp2_with fail
      refine (hc _).mono ?_
      rintro r w1 ⟨rfl, hw1⟩
      clear hc
      go_wp2
      go_ret
      exact ⟨rfl, hw1.of_drew⟩
  · have hg : decide ((ws.length : Int) ≤ (p : Int)) = true := decide_eq_true (by omega)
    have hgN : decide (ws.length ≤ p) = true := decide_eq_true (by omega)
    clear hn h3 h4
    generalize ws.length = len at *
    go_enter Tryz.func97, Tryz.ntmps97
    go_wp2_with fail
    go_quiet (fail)
    go_wp2_with fail
    refine (hc _).mono ?_
    rintro r w1 ⟨rfl, hw1⟩
    clear hc
    go_wp2
    go_ret
    exact ⟨rfl, hw1.of_drew⟩

end Rf
end Go.Proofs.YtdeojcodbojmoaaGreatDoor
