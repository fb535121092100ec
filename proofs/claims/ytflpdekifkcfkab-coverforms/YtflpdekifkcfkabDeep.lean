/- The document's reader of words, whole; how deep a filter is. -/
import Derived.Test.YtflpdekifkcfkabBina
namespace Go.Proofs.Ytflpdekifkcfkab
open Go.RowKit
set_option linter.unusedVariables false

/-- What the three functions of the reader do, where the words are right. -/
theorem reads_all (rb : Nat) (ws : List Wd.Word) (n : Nat) : ∀ (m p : Nat) (g : Ev.Ft) (r : Nat) (w' : World), m ≤ n → Rd w' rb ws p →
    (Ps.pars ws m .not p = some (g, r) → Calls Try.prog 57 #[.pointer (some ⟨rb, 0, none⟩)] w' (FR rb ws g r w')) ∧
    (Ps.pars ws m .and p = some (g, r) → Calls Try.prog 46 #[.pointer (some ⟨rb, 0, none⟩)] w' (FR rb ws g r w')) ∧
    (Ps.pars ws m .or p = some (g, r) → Calls Try.prog 34 #[.pointer (some ⟨rb, 0, none⟩)] w' (FR rb ws g r w')) := by
  induction n with
  | zero =>
    intro m p g r w' hm h
    obtain rfl : m = 0 := by omega
    exact ⟨fun h => (by cases h), fun h => (by cases h), fun h => (by cases h)⟩
  | succ n ih =>
    intro m p g r w' hm h
    by_cases hmn : m ≤ n
    · exact ih m p g r w' hmn h
    · obtain rfl : m = n + 1 := by omega
      refine ⟨fun hP => ?_, fun hP => ?_, fun hP => ?_⟩
      · simp only [Ps.pars] at hP
        split at hP
        · rename_i e33
          split at hP
          · cases hP
          · rename_i f q eq
            cases hP
            exact not_bang rb ws p r f w' h e33 (fun w'' h'' => (ih n (p + 1) f r w'' (Nat.le_refl _) h'').1 eq)
        · rename_i e33
          have e33' : Ps.isMark ws p 33 = false := by simpa using e33
          split at hP
          · rename_i e40
            split at hP
            · cases hP
            · rename_i f q eq
              split at hP
              · rename_i e41
                cases hP
                exact not_open rb ws p q g w' h e33' e40 (fun w'' h'' => (ih n (p + 1) g q w'' (Nat.le_refl _) h'').2.2 eq) e41
              · cases hP
          · rename_i e40
            have e40' : Ps.isMark ws p 40 = false := by simpa using e40
            split at hP
            · rename_i e42
              cases hP
              exact not_star rb ws p w' h e33' e40' e42
            · rename_i e42
              have e42' : Ps.isMark ws p 42 = false := by simpa using e42
              split at hP
              · rename_i e94
                split at hP
                · cases hP
                · rename_i t eq
                  cases hP
                  exact not_name rb ws p (p + 1) rfl t w' h e33' e40' e42' e94 eq
              · rename_i e94
                have e94' : Ps.isMark ws p 94 = false := by simpa using e94
                split at hP
                · rename_i e64
                  exact not_at rb ws p r g w' h e33' e40' e42' e94' e64 hP
                · cases hP
      · exact and30 rb ws n (fun m p g r w'' hm hp h'' => (ih m p g r w'' hm h'').1 hp) p r g hP w' h
      · exact or24 rb ws n (fun m p g r w'' hm hp h'' => (ih m p g r w'' hm h'').2.1 hp) p r g hP w' h

set_option maxRecDepth 100000 in
set_option maxHeartbeats 1000000 in
theorem deep_leaf (o k l h : Int) (t : ByteArray) (w : World) :
    Calls Try.prog 36 #[.agg #[.int .i64 o, .int .i64 k, .int .i64 l, .int .i64 h, .string t, .slice none 0 0]] w fun e w' => e = .returned (.int .i64 1) ∧ Below w.heap.size w w' := by
  go_enter Try.func36, Try.ntmps36
  go_wp2_with fail
  go_loopw [3, 4] (fun d i wr => d = .int .i64 0 ∧ i = .int .i64 0 ∧ wr = w.alloc (.cells #[.int .i64 o, .int .i64 k, .int .i64 l, .int .i64 h, .string t, .slice none 0 0] 26)) (fun _ _ _ => 0)
  case atStart => exact ⟨rfl, rfl, rfl⟩
  case round =>
    obtain ⟨rfl, rfl, rfl⟩ := hrel
    go_wp2
    go_ret
    exact ⟨rfl, (Below.refl _ _).alloc (Nat.le_refl _) _⟩

set_option maxRecDepth 100000 in
set_option maxHeartbeats 2000000 in
theorem deep_non (o k l h : Int) (t : ByteArray) (w : World) (b : Nat) (d : Nat) (hd : d ≤ 100) (o1 k1 l1 h1 : Int) (t1 : ByteArray) (x1 : Option Addr) (n1 : Nat) (s : Six w b 0 o1 k1 l1 h1 t1 x1 n1)
    (c : ∀ w', Below w.heap.size w w' → Calls Try.prog 36 #[.agg #[.int .i64 o1, .int .i64 k1, .int .i64 l1, .int .i64 h1, .string t1, .slice x1 n1 n1]] w' fun e w'' => e = .returned (.int .i64 d) ∧ Below w'.heap.size w' w'') :
    Calls Try.prog 36 #[.agg #[.int .i64 o, .int .i64 k, .int .i64 l, .int .i64 h, .string t, .slice (some ⟨b, 0, none⟩) 1 1]] w fun e w' => e = .returned (.int .i64 (1 + d)) ∧ Below w.heap.size w w' := by
  have hb0 := s.lt
  go_enter Try.func36, Try.ntmps36
  go_wp2_with fail
  obtain ⟨W, hW⟩ : ∃ W, W = w.alloc (.cells #[.int .i64 o, .int .i64 k, .int .i64 l, .int .i64 h, .string t, .slice (some ⟨b, 0, none⟩) 1 1] 26) := ⟨_, rfl⟩
  rw [← hW]
  have hbW : Below w.heap.size w W := by rw [hW]; exact (Below.refl _ _).alloc (Nat.le_refl _) _
  have f5 : W.cell? ⟨w.heap.size, 5, none⟩ = some (.slice (some ⟨b, 0, none⟩) 1 1) := by rw [hW]; simp
  have sW : w.heap.size < W.heap.size := by rw [hW]; simp
  clear hW
  go_loopw [3, 4] (fun d' i wr => ∃ k : Nat, k ≤ 1 ∧ i = .int .i64 k ∧ d' = .int .i64 (if k = 0 then 0 else (d : Int)) ∧ Below W.heap.size W wr) (fun _ i _ => 1 - (intOf i).toNat)
  case atStart => exact ⟨0, by omega, rfl, rfl, Below.refl _ _⟩
  case round =>
    obtain ⟨q, hq, rfl, rfl, hbel⟩ := hrel
    have f5' := (hbel.cell (p := ⟨w.heap.size, 5, none⟩) sW).trans f5
    have hbw : Below w.heap.size w wr := hbW.trans (hbel.mono (Nat.le_of_lt sW))
    by_cases hq0 : q = 0
    · subst hq0
      obtain ⟨y0, y1, y2, y3, y4, y5⟩ := s.of (fun i => hbw.cell (p := ⟨b, i, none⟩) hb0)
      simp only [Nat.zero_add] at y0 y1 y2 y3 y4 y5
      simp only [if_true]
      go_wp2_with fail
      refine (c _ hbw).mono ?_
      rintro e w2 ⟨rfl, hb2⟩
      clear y0 y1 y2 y3 y4 y5 c
      go_wp2
      all_goals
        go_roundw
        case rel => exact ⟨1, by omega, rfl, by simp; omega, hbel.trans (hb2.mono hbel.size)⟩
        case measure => simp [intOf]
    · obtain rfl : q = 1 := by omega
      clear c
      simp only [if_neg hq0]
      go_wp2
      go_ret
      exact ⟨rfl, hbw⟩

/-- The deepest of the first q parts. -/
def deepTo (d e : Nat) (q : Nat) : Nat := if q = 0 then 0 else if q = 1 then d else max d e

set_option maxRecDepth 100000 in
set_option maxHeartbeats 2000000 in
theorem deep_two (o k l h : Int) (t : ByteArray) (w : World) (b : Nat) (d e : Nat) (hd : d ≤ 100) (he : e ≤ 100) (o1 k1 l1 h1 : Int) (t1 : ByteArray) (x1 : Option Addr) (n1 : Nat) (s : Six w b 0 o1 k1 l1 h1 t1 x1 n1)
    (o2 k2 l2 h2 : Int) (t2 : ByteArray) (x2 : Option Addr) (n2 : Nat) (s' : Six w b 6 o2 k2 l2 h2 t2 x2 n2)
    (c : ∀ w', Below w.heap.size w w' → Calls Try.prog 36 #[.agg #[.int .i64 o1, .int .i64 k1, .int .i64 l1, .int .i64 h1, .string t1, .slice x1 n1 n1]] w' fun r w'' => r = .returned (.int .i64 d) ∧ Below w'.heap.size w' w'')
    (c' : ∀ w', Below w.heap.size w w' → Calls Try.prog 36 #[.agg #[.int .i64 o2, .int .i64 k2, .int .i64 l2, .int .i64 h2, .string t2, .slice x2 n2 n2]] w' fun r w'' => r = .returned (.int .i64 e) ∧ Below w'.heap.size w' w'') :
    Calls Try.prog 36 #[.agg #[.int .i64 o, .int .i64 k, .int .i64 l, .int .i64 h, .string t, .slice (some ⟨b, 0, none⟩) 2 2]] w fun r w' => r = .returned (.int .i64 (1 + (max d e : Nat))) ∧ Below w.heap.size w w' := by
  have hb0 := s.lt
  go_enter Try.func36, Try.ntmps36
  go_wp2_with fail
  obtain ⟨W, hW⟩ : ∃ W, W = w.alloc (.cells #[.int .i64 o, .int .i64 k, .int .i64 l, .int .i64 h, .string t, .slice (some ⟨b, 0, none⟩) 2 2] 26) := ⟨_, rfl⟩
  rw [← hW]
  have hbW : Below w.heap.size w W := by rw [hW]; exact (Below.refl _ _).alloc (Nat.le_refl _) _
  have f5 : W.cell? ⟨w.heap.size, 5, none⟩ = some (.slice (some ⟨b, 0, none⟩) 2 2) := by rw [hW]; simp
  have sW : w.heap.size < W.heap.size := by rw [hW]; simp
  clear hW
  go_loopw [3, 4] (fun d' i wr => ∃ (k D : Nat), k ≤ 2 ∧ i = .int .i64 k ∧ d' = .int .i64 D ∧ D = deepTo d e k ∧ Below W.heap.size W wr) (fun _ i _ => 2 - (intOf i).toNat)
  case atStart => exact ⟨0, 0, by omega, rfl, rfl, rfl, Below.refl _ _⟩
  case round =>
    obtain ⟨q, D, hq, rfl, rfl, hD, hbel⟩ := hrel
    have f5' := (hbel.cell (p := ⟨w.heap.size, 5, none⟩) sW).trans f5
    have hbw : Below w.heap.size w wr := hbW.trans (hbel.mono (Nat.le_of_lt sW))
    have HD : Hid (D = deepTo d e q) := hD
    have hDb : D ≤ 100 := by rw [hD]; unfold deepTo; split <;> (try split) <;> omega
    clear hD
    by_cases hq0 : q = 0
    · subst hq0
      obtain ⟨y0, y1, y2, y3, y4, y5⟩ := s.of (fun i => hbw.cell (p := ⟨b, i, none⟩) hb0)
      simp only [Nat.zero_add] at y0 y1 y2 y3 y4 y5
      go_wp2_with fail
      refine (c _ hbw).mono ?_
      rintro r w2 ⟨rfl, hb2⟩
      clear y0 y1 y2 y3 y4 y5 c c'
      have hz : D = 0 := HD.out
      go_wp2
      all_goals
        go_roundw
        case rel => exact ⟨1, d, by omega, rfl, by congr 1; omega, rfl, hbel.trans (hb2.mono hbel.size)⟩
        case measure => simp [intOf]
    · by_cases hq1 : q = 1
      · subst hq1
        obtain ⟨y0, y1, y2, y3, y4, y5⟩ := s'.of (fun i => hbw.cell (p := ⟨b, i, none⟩) hb0)
        simp only [Nat.reduceAdd] at y0 y1 y2 y3 y4 y5
        go_wp2_with fail
        refine (c' _ hbw).mono ?_
        rintro r w2 ⟨rfl, hb2⟩
        clear y0 y1 y2 y3 y4 y5 c c'
        have HZ : Hid (D = d) := HD.out
        go_wp2
        all_goals
          go_roundw
          case rel => exact ⟨2, max d e, by omega, rfl, by have := HZ.out; congr 1; omega, rfl, hbel.trans (hb2.mono hbel.size)⟩
          case measure => simp [intOf]
      · obtain rfl : q = 2 := by omega
        clear c c'
        have HZ : Hid (D = max d e) := HD.out
        go_wp2
        go_ret
        exact ⟨by rw [← HZ.out]; rfl, hbw⟩

/-- How deep a filter is. -/
theorem deep26 (f : Ev.Ft) : ∀ (w : World) (o k l h : Int) (t : ByteArray) (x : Option Addr) (n : Nat), f.deep ≤ 100 → Lies Any w f o k l h t x n →
    Calls Try.prog 36 #[.agg #[.int .i64 o, .int .i64 k, .int .i64 l, .int .i64 h, .string t, .slice x n n]] w fun e w' => e = .returned (.int .i64 f.deep) ∧ Below w.heap.size w w' := by
  induction f with
  | leaf op key lo hi tag =>
    rintro w o k l h t x n _ ⟨rfl, rfl, rfl, rfl, rfl, rfl, rfl⟩
    exact deep_leaf o k l h t w
  | non f ih =>
    rintro w o k l h t x n hd ⟨rfl, rfl, rfl, rfl, rfl, b, o1, k1, l1, h1, t1, x1, n1, rfl, rfl, _, s, y⟩
    simp only [Ev.Ft.deep] at hd
    have := deep_non 7 0 0 0 ⟨#[]⟩ w b f.deep (by omega) o1 k1 l1 h1 t1 x1 n1 s (fun w' hb => ih w' o1 k1 l1 h1 t1 x1 n1 (by omega) (y.below hb))
    simpa [Ev.Ft.deep] using this
  | two op f g ihf ihg =>
    rintro w o k l h t x n hd ⟨rfl, rfl, rfl, rfl, rfl, b, o1, k1, l1, h1, t1, x1, n1, o2, k2, l2, h2, t2, x2, n2, rfl, rfl, _, s, y, s', z⟩
    simp only [Ev.Ft.deep] at hd
    have := deep_two o 0 0 0 ⟨#[]⟩ w b f.deep g.deep (by omega) (by omega) o1 k1 l1 h1 t1 x1 n1 s o2 k2 l2 h2 t2 x2 n2 s' (fun w' hb => ihf w' o1 k1 l1 h1 t1 x1 n1 (by omega) (y.below hb)) (fun w' hb => ihg w' o2 k2 l2 h2 t2 x2 n2 (by omega) (z.below hb))
    simpa [Ev.Ft.deep] using this

end Go.Proofs.Ytflpdekifkcfkab
