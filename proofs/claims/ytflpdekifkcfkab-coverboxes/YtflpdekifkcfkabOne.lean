/- A tag that begins with one of some texts: slices.ContainsFunc and what is handed to it. -/
import Derived.Test.YtflpdekifkcfkabNots
import Derived.Deep.LoopGhost
import Derived.Lib.Walk
namespace Go.Proofs.Ytflpdekifkcfkab
open Go.RowKit
set_option linter.unusedVariables false

/-- None of the first k. -/
def NoneOf (s : ByteArray) (l : List (List UInt8)) (k : Nat) : Prop := ∀ j (hj : j < l.length), j < k → Ev.begins s (Ev.bts l[j]) = false

theorem noneOf_all {s : ByteArray} {l : List (List UInt8)} (h : NoneOf s l l.length) : Ev.anyOf s l = false := by
  rw [← Bool.not_eq_true, Ev.anyOf_iff]
  rintro ⟨n, hn, hb⟩
  obtain ⟨j, hj, rfl⟩ := List.getElem_of_mem hn
  rw [h j hj hj] at hb; cases hb

theorem someOf {s : ByteArray} {l : List (List UInt8)} {k : Nat} (hk : k < l.length) (h : Ev.begins s (Ev.bts l[k]) = true) : Ev.anyOf s l = true := by
  rw [Ev.anyOf_iff]; exact ⟨l[k], List.getElem_mem hk, h⟩

set_option maxHeartbeats 1000000 in
theorem idx65 (tb : Nat) (s : ByteArray) (ao : Option Addr) (cap : Nat) (l : List (List UInt8)) (w : World) (hs : s.size ≤ 1000) (hl : l.length ≤ 1000) (hl' : ∀ a ∈ l, a.length ≤ 1000) (ht : Txts Any w ao l) (hc : w.cell? ⟨tb, 0, none⟩ = some (.string s)) :
    Calls Try.prog 63 #[.slice ao l.length cap, .func (.func 77) #[] #[.pointer (some ⟨tb, 0, none⟩)]] w fun e w' => ∃ r : Int, e = .returned (.int .i64 r) ∧ decide (0 ≤ r) = Ev.anyOf s l ∧ w' = w := by
  have c := fun p (hp : ByteArray.size p ≤ 1000) => closure51 tb s p w hs hp hc
  clear hc
  go_enter Try.func63, Try.ntmps63
  go_wp2
  go_loop [5, 8] (fun _ i => ∃ k : Nat, k ≤ l.length ∧ i = .int .i64 k ∧ Aside (NoneOf s l k)) (fun _ i => l.length - (intOf i).toNat)
  case atStart => exact ⟨0, Nat.zero_le _, rfl, fun j hj h => absurd h (Nat.not_lt_zero _)⟩
  case round =>
    obtain ⟨k, hk, rfl, A⟩ := hrel
    by_cases hlt : k < l.length
    · obtain ⟨b, rfl, _, hb, hcell⟩ := ht (by omega)
      have hk1 := hcell k hlt
      have hz : (Ev.bts l[k]).size ≤ 1000 := by rw [bts_size]; exact hl' _ (List.getElem_mem hlt)
      clear hcell
      have hint : (k : Int) < (l.length : Int) := by omega
      generalize hy : Ev.bts l[k] = y at hk1 hz
      have B : Aside (Ev.bts l[k] = y) := hy
      clear hy
      have cc := c y hz
      cases hq : Ev.begins s y with
      | true =>
        rw [hq] at cc
        go_wp2_with fail
        refine cc.mono ?_
        rintro e w' ⟨rfl, rfl⟩
        go_wp2
        go_ret
        exact ⟨k, rfl, by rw [someOf hlt (by rw [B.out]; exact hq)]; simp, rfl⟩
      | false =>
        rw [hq] at cc
        go_wp2_with fail
        refine cc.mono ?_
        rintro e w' ⟨rfl, rfl⟩
        go_wp2
        go_round
        case rel =>
          refine ⟨k + 1, by omega, by go_num, (show Aside _ from fun j hj h => ?_)⟩
          by_cases e : j = k
          · subst e; rw [B.out]; exact hq
          · exact A.out j hj (by omega)
        case measure => simp [intOf]; omega
    · have hint : ¬ (k : Int) < (l.length : Int) := by omega
      have : k = l.length := by omega
      subst this
      go_wp2
      go_ret
      exact ⟨-1, rfl, by rw [noneOf_all A.out]; rfl, rfl⟩

set_option maxHeartbeats 400000 in
theorem contains50 (tb : Nat) (s : ByteArray) (ao : Option Addr) (cap : Nat) (l : List (List UInt8)) (w : World) (hs : s.size ≤ 1000) (hl : l.length ≤ 1000) (hl' : ∀ a ∈ l, a.length ≤ 1000) (ht : Txts Any w ao l) (hc : w.cell? ⟨tb, 0, none⟩ = some (.string s)) :
    Calls Try.prog 52 #[.slice ao l.length cap, .func (.func 77) #[] #[.pointer (some ⟨tb, 0, none⟩)]] w fun e w' => e = .returned (.bool (Ev.anyOf s l)) ∧ w' = w := by
  have c := idx65 tb s ao cap l w hs hl hl' ht hc
  clear hc ht
  go_enter Try.func52, Try.ntmps52
  go_wp2_with fail
  refine c.mono ?_
  rintro e w' ⟨r, rfl, hr, rfl⟩
  have H : Hid (decide (0 ≤ r) = Ev.anyOf s l) := hr
  clear hr
  go_wp2
  go_ret
  exact ⟨by rw [← H.out]; rfl, rfl⟩

set_option maxHeartbeats 400000 in
theorem one32 (s : ByteArray) (ao : Option Addr) (cap : Nat) (l : List (List UInt8)) (w : World) (hs : s.size ≤ 1000) (hl : l.length ≤ 1000) (hl' : ∀ a ∈ l, a.length ≤ 1000) (ht : Txts Any w ao l) :
    Calls Try.prog 72 #[.string s, .slice ao l.length cap] w fun e w' => e = .returned (.bool (Ev.anyOf s l)) ∧ Below w.heap.size w w' := by
  have c := contains50 w.heap.size s ao cap l (w.alloc (.cells #[.string s] 9)) hs hl hl' (ht.below ((Below.refl _ _).alloc (Nat.le_refl _) _)) (by simp)
  clear ht
  go_enter Try.func72, Try.ntmps72
  go_wp2_with fail
  refine c.mono ?_
  rintro e w' ⟨rfl, rfl⟩
  go_wp2
  go_ret
  exact ⟨rfl, (Below.refl _ _).alloc (Nat.le_refl _) _⟩

end Go.Proofs.Ytflpdekifkcfkab
