/- cover's leaves: one side within another, texts apart, a text that begins with one of some. -/
import Derived.Test.YtflpdekifkcfkabCov
import Derived.Test.YtflpdekifkcfkabOne
import Derived.Test.YtflpdekifkcfkabSides
namespace Go.Proofs.Ytflpdekifkcfkab
open Go.RowKit
set_option linter.unusedVariables false

set_option maxHeartbeats 2000000 in
/-- cover.sideWithin. -/
theorem side_in (ah al au bh bl bu : Int) (w : World) (hb : Ev.Sd.ok ⟨bh, bl, bu⟩) :
    Calls Try.prog 24 #[.agg #[.int .i64 ah, .int .i64 al, .int .i64 au], .agg #[.int .i64 bh, .int .i64 bl, .int .i64 bu]] w fun e w' => e = .returned (.bool (Ev.withinS ⟨ah, al, au⟩ ⟨bh, bl, bu⟩)) ∧ Below w.heap.size w w' := by
  have B : Hid (Below w.heap.size w ((w.alloc (.cells #[.int .i64 ah, .int .i64 al, .int .i64 au] 36)).alloc (.cells #[.int .i64 bh, .int .i64 bl, .int .i64 bu] 36))) := ((Below.refl _ _).alloc (Nat.le_refl _) _).alloc (by simp) _
  rcases hb with ⟨h1, h2, h3⟩ | ⟨h1, h2, h3⟩ | ⟨h1, h2, h3, h4⟩ <;> simp only at h1 <;> subst h1
  · rw [show Ev.withinS ⟨ah, al, au⟩ ⟨0, bl, bu⟩ = true by simp [Ev.withinS]]
    clear h2 h3
    go_enter Try.func24, Try.ntmps24
    go_wp2
    go_ret
    exact ⟨rfl, B.out⟩
  · rw [show Ev.withinS ⟨ah, al, au⟩ ⟨2, bl, bu⟩ = (ah == 2) by unfold Ev.withinS; rw [if_neg (by simp), if_neg (by simp)]; rfl]
    clear h2 h3
    go_enter Try.func24, Try.ntmps24
    go_wp2
    go_ret
    exact ⟨rfl, B.out⟩
  · clear h2 h3 h4
    by_cases g1 : al < bl
    · rw [show Ev.withinS ⟨ah, al, au⟩ ⟨1, bl, bu⟩ = false by
        unfold Ev.withinS; rw [if_neg (by simp), if_pos rfl, decide_eq_false (show ¬ bl ≤ al by omega)]; rfl]
      go_enter Try.func24, Try.ntmps24
      go_wp2
      go_ret
      exact ⟨rfl, B.out⟩
    · by_cases g2 : bu < au
      · rw [show Ev.withinS ⟨ah, al, au⟩ ⟨1, bl, bu⟩ = false by
          unfold Ev.withinS; rw [if_neg (by simp), if_pos rfl, decide_eq_false (show ¬ au ≤ bu by omega), Bool.and_false]; rfl]
        go_enter Try.func24, Try.ntmps24
        go_wp2
        go_ret
        exact ⟨rfl, B.out⟩
      · rw [show Ev.withinS ⟨ah, al, au⟩ ⟨1, bl, bu⟩ = (ah == 1) by
          unfold Ev.withinS; rw [if_neg (by simp), if_pos rfl, decide_eq_true (show bl ≤ al by omega), decide_eq_true (show au ≤ bu by omega)]; simp; rfl]
        go_enter Try.func24, Try.ntmps24
        go_wp2
        go_ret
        exact ⟨rfl, B.out⟩

set_option maxHeartbeats 400000 in
/-- cover.apart. -/
theorem apart_any (a b : ByteArray) (w : World) (ha : a.size ≤ 1000) (hb : b.size ≤ 1000) :
    Calls Try.prog 42 #[.string a, .string b] w fun e w' => e = .returned (.bool (Ev.apart a b)) ∧ w' = w := by
  have c := fun w => prefix28 a b w ha hb
  have d := fun w => prefix28 b a w hb ha
  unfold Ev.apart
  cases hq : Ev.begins a b with
  | true =>
    rw [hq] at c
    clear d hq
    go_enter Try.func42, Try.ntmps42
    go_wp2_with fail
    refine (c _).mono ?_
    rintro e w' ⟨rfl, rfl⟩
    go_wp2
    go_ret
    exact ⟨rfl, rfl⟩
  | false =>
    rw [hq] at c
    clear hq
    generalize Ev.begins b a = rb at *
    go_enter Try.func42, Try.ntmps42
    go_wp2_with fail
    refine (c _).mono ?_
    rintro e w' ⟨rfl, rfl⟩
    go_wp2_with fail
    refine (d _).mono ?_
    rintro e w' ⟨rfl, rfl⟩
    go_wp2
    go_ret
    exact ⟨rfl, rfl⟩

set_option maxHeartbeats 400000 in
/-- The function value of cover.beginsWithOne. -/
theorem cclosure (tb : Nat) (s p : ByteArray) (w : World) (hs : s.size ≤ 1000) (hp : p.size ≤ 1000) (hc : w.cell? ⟨tb, 0, none⟩ = some (.string s)) :
    Calls Try.prog 53 #[.string p, .pointer (some ⟨tb, 0, none⟩)] w fun e w' => e = .returned (.bool (Ev.begins s p)) ∧ w' = w := by
  have c := fun w => prefix28 s p w hs hp
  go_enter Try.func53, Try.ntmps53
  go_wp2_with fail
  refine (c _).mono ?_
  rintro e w' ⟨rfl, rfl⟩
  go_wp2
  go_ret
  exact ⟨rfl, rfl⟩

set_option maxHeartbeats 1000000 in
theorem cidx (tb : Nat) (s : ByteArray) (ao : Option Addr) (cap : Nat) (l : List (List UInt8)) (w : World) (hs : s.size ≤ 1000) (hl : l.length ≤ 1000) (hl' : ∀ a ∈ l, a.length ≤ 1000) (ht : Txts Any w ao l) (hc : w.cell? ⟨tb, 0, none⟩ = some (.string s)) :
    Calls Try.prog 63 #[.slice ao l.length cap, .func (.func 53) #[] #[.pointer (some ⟨tb, 0, none⟩)]] w fun e w' => ∃ r : Int, e = .returned (.int .i64 r) ∧ decide (0 ≤ r) = Ev.anyOf s l ∧ w' = w := by
  have c := fun p (hp : ByteArray.size p ≤ 1000) => cclosure tb s p w hs hp hc
  clear hc
  go_enter Try.func63, Try.ntmps63
  go_wp2
  go_loop [5, 8] (fun _ i => ∃ k : Nat, k ≤ l.length ∧ i = .int .i64 k ∧ Aside (NoneOf s l k)) (fun _ i => l.length - (intOf i).toNat)
  case atStart => exact ⟨0, Nat.zero_le _, rfl, fun j hj h => absurd h (Nat.not_lt_zero _)⟩
  case round =>
    obtain ⟨k, hk, rfl, A⟩ := hrel
    by_cases hlt : k < l.length
    · obtain ⟨b, rfl, _, hb, hcell⟩ := ht (by omega)
      have hk1 := hcell k hlt
      have hz : (Ev.bts l[k]).size ≤ 1000 := by rw [bts_size]; exact hl' _ (List.getElem_mem hlt)
      clear hcell
      have hint : (k : Int) < (l.length : Int) := by omega
      generalize hy : Ev.bts l[k] = y at hk1 hz
      have B : Aside (Ev.bts l[k] = y) := hy
      clear hy
      have cc := c y hz
      cases hq : Ev.begins s y with
      | true =>
        rw [hq] at cc
        go_wp2_with fail
        refine cc.mono ?_
        rintro e w' ⟨rfl, rfl⟩
        go_wp2
        go_ret
        exact ⟨k, rfl, by rw [someOf hlt (by rw [B.out]; exact hq)]; simp, rfl⟩
      | false =>
        rw [hq] at cc
        go_wp2_with fail
        refine cc.mono ?_
        rintro e w' ⟨rfl, rfl⟩
        go_wp2
        go_round
        case rel =>
          refine ⟨k + 1, by omega, by go_num, (show Aside _ from fun j hj h => ?_)⟩
          by_cases e : j = k
          · subst e; rw [B.out]; exact hq
          · exact A.out j hj (by omega)
        case measure => simp [intOf]; omega
    · have hint : ¬ (k : Int) < (l.length : Int) := by omega
      have : k = l.length := by omega
      subst this
      go_wp2
      go_ret
      exact ⟨-1, rfl, by rw [noneOf_all A.out]; rfl, rfl⟩

set_option maxHeartbeats 400000 in
theorem ccontains (tb : Nat) (s : ByteArray) (ao : Option Addr) (cap : Nat) (l : List (List UInt8)) (w : World) (hs : s.size ≤ 1000) (hl : l.length ≤ 1000) (hl' : ∀ a ∈ l, a.length ≤ 1000) (ht : Txts Any w ao l) (hc : w.cell? ⟨tb, 0, none⟩ = some (.string s)) :
    Calls Try.prog 52 #[.slice ao l.length cap, .func (.func 53) #[] #[.pointer (some ⟨tb, 0, none⟩)]] w fun e w' => e = .returned (.bool (Ev.anyOf s l)) ∧ w' = w := by
  have c := cidx tb s ao cap l w hs hl hl' ht hc
  clear hc ht
  go_enter Try.func52, Try.ntmps52
  go_wp2_with fail
  refine c.mono ?_
  rintro e w' ⟨r, rfl, hr, rfl⟩
  have H : Hid (decide (0 ≤ r) = Ev.anyOf s l) := hr
  clear hr
  go_wp2
  go_ret
  exact ⟨by rw [← H.out]; rfl, rfl⟩

set_option maxHeartbeats 400000 in
theorem cone (s : ByteArray) (ao : Option Addr) (cap : Nat) (l : List (List UInt8)) (w : World) (hs : s.size ≤ 1000) (hl : l.length ≤ 1000) (hl' : ∀ a ∈ l, a.length ≤ 1000) (ht : Txts Any w ao l) :
    Calls Try.prog 41 #[.string s, .slice ao l.length cap] w fun e w' => e = .returned (.bool (Ev.anyOf s l)) ∧ Below w.heap.size w w' := by
  have c := ccontains w.heap.size s ao cap l (w.alloc (.cells #[.string s] 9)) hs hl hl' (ht.below ((Below.refl _ _).alloc (Nat.le_refl _) _)) (by simp)
  clear ht
  go_enter Try.func41, Try.ntmps41
  go_wp2_with fail
  refine c.mono ?_
  rintro e w' ⟨rfl, rfl⟩
  go_wp2
  go_ret
  exact ⟨rfl, (Below.refl _ _).alloc (Nat.le_refl _) _⟩

end Go.Proofs.Ytflpdekifkcfkab
