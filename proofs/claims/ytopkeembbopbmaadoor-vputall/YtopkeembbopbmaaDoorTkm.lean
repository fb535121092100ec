/- bits.num, bits.TakeNum: what a row of bytes begins with. -/
import Derived.Test.YtopkeembbopbmaaDoorTkn
import Derived.Test.YtopkeembbopbmaaDoorIss
namespace Go.Proofs.YtopkeembbopbmaaDoor
open Go.RowKit
set_option maxRecDepth 100000
set_option linter.unusedVariables false

/-- The package's error is there. -/
def Err (w : World) (a : Addr) : Prop := w.cell? ⟨1, 0, none⟩ = some (.iface 135 (.pointer (some a)))
theorem Err.below {w w' : World} {a : Addr} (h : Err w a) (hb : Below w.heap.size w w') : Err w' a :=
  (hb.cell (p := ⟨1, 0, none⟩) (World.block_lt_of_cell? w ⟨1, 0, none⟩ h)).trans h

set_option maxHeartbeats 1000000 in
theorem num16_none (a : Addr) (w : World) (hg : w.cell? ⟨1, 0, none⟩ = some (.iface 135 (.pointer (some a)))) :
    Calls Tryd.prog 57 #[.slice none 0 0] w fun r w' => Below w.heap.size w w' ∧ ∃ p, r = .returned (.tuple #[.int .i64 0, .int .i64 0, .iface 127 (.agg #[.string p, .iface 135 (.pointer (some a))])]) := by
  have hmax : (max 5 0 : Int) = 5 := by decide
  go_enter Tryd.func57, Tryd.ntmps57
  go_wp2_with fail
  refine wp_loop_rounds 1 ?_
  rw [rounds_succ]
  go_wp2_with fail
  go_quiet (fail)
  go_wp2
  refine bodyPost_ret (v := .tuple #[.int .i64 0, .int .i64 0, .iface 127 (.agg #[.string _, .iface 135 (.pointer (some a))])]) (by simp [results, Tryd.results57, go_sem] <;> rfl) rfl ⟨below_dN w _, ⟨_, rfl⟩⟩

set_option maxHeartbeats 1000000 in
theorem num16_empty (a x : Addr) (cap : Nat) (w : World) (hg : w.cell? ⟨1, 0, none⟩ = some (.iface 135 (.pointer (some a)))) :
    Calls Tryd.prog 57 #[.slice (some x) 0 cap] w fun r w' => Below w.heap.size w w' ∧ ∃ p, r = .returned (.tuple #[.int .i64 0, .int .i64 0, .iface 127 (.agg #[.string p, .iface 135 (.pointer (some a))])]) := by
  have hmax : (max 5 0 : Int) = 5 := by decide
  go_enter Tryd.func57, Tryd.ntmps57
  go_wp2_with fail
  refine wp_loop_rounds 1 ?_
  rw [rounds_succ]
  go_wp2_with fail
  go_quiet (fail)
  go_wp2
  refine bodyPost_ret (v := .tuple #[.int .i64 0, .int .i64 0, .iface 127 (.agg #[.string _, .iface 135 (.pointer (some a))])]) (by simp [results, Tryd.results57, go_sem] <;> rfl) rfl ⟨below_dN w _, ⟨_, rfl⟩⟩

/-- bits.num. -/
theorem num16 (a : Addr) (ao : Option Addr) (n cap : Nat) (l : List Nat) (w : World) (hr : Rb w ao n cap l) (hn : n ≤ 100000) (hg : Err w a) :
    Calls Tryd.prog 57 #[.slice ao n cap] w fun r w' => Below w.heap.size w w' ∧ (∀ v k, take5 l = some (v, k) → r = .returned (.tuple #[.int .i64 v, .int .i64 k, .nilIface])) ∧ (take5 l = none → ∃ p, r = .returned (.tuple #[.int .i64 0, .int .i64 0, .iface 127 (.agg #[.string p, .iface 135 (.pointer (some a))])])) := by
  rcases Nat.eq_zero_or_pos n with h0 | h0
  · subst h0
    obtain rfl : l = [] := List.eq_nil_of_length_eq_zero hr.len
    have ht : take5 [] = none := rfl
    cases ao with
    | none =>
      obtain rfl : cap = 0 := hr.nil rfl
      refine (num16_none a w hg).mono ?_
      rintro r w' ⟨h1, h2⟩
      exact ⟨h1, fun v k h => (by cases h), fun _ => h2⟩
    | some x =>
      refine (num16_empty a x cap w hg).mono ?_
      rintro r w' ⟨h1, h2⟩
      exact ⟨h1, fun v k h => (by cases h), fun _ => h2⟩
  · obtain ⟨b, off, rfl, hc⟩ := hr.at_ h0
    by_cases h5 : n ≤ 5
    · exact num16_few a b off n cap l w hc hr.len hr.lt h0 hr.le hn hg h5
    · exact num16_many a b off n cap l w hc hr.len hr.lt h0 hr.le hn hg (by omega)

set_option maxHeartbeats 1000000 in
/-- bits.TakeNum. -/
theorem take12 (a : Addr) (ao : Option Addr) (n cap : Nat) (l : List Nat) (w : World) (hr : Rb w ao n cap l) (hn : n ≤ 100000) (hg : Err w a) :
    Calls Tryd.prog 47 #[.slice ao n cap] w fun r w' => Below w.heap.size w w' ∧ (∀ v k, take5 l = some (v, k) → r = .returned (.tuple #[.int .i64 v, .int .i64 k, .bool true])) ∧ (take5 l = none → r = .returned (.tuple #[.int .i64 0, .int .i64 0, .bool false])) := by
  have c1 := num16 a ao n cap l w hr hn hg
  have HG : Hid (Err w a) := hg
  clear hr hg
  cases ho : take5 l with
  | none =>
    rw [ho] at c1
    go_enter Tryd.func47, Tryd.ntmps47
    go_wp2_with fail
    refine c1.mono ?_
    rintro r w1 ⟨hb, _, h2⟩
    obtain ⟨p, rfl⟩ := h2 (by first | rfl | trivial)
    have g1 : w1.cell? ⟨1, 0, none⟩ = some (.iface 135 (.pointer (some a))) := HG.out.below hb
    have c2 := is_one a p w1
    have HB : Hid (Below w.heap.size w w1) := hb
    clear c1 hb h2
    go_wp2_with fail
    refine c2.mono ?_
    rintro r w2 ⟨rfl, hb2⟩
    have HB2 : Hid (Below w.heap.size w w2) := HB.out.trans (hb2.mono HB.out.size)
    clear c2 hb2 HB
    go_wp2_with fail
    refine bodyPost_ret (v := .tuple #[.int .i64 0, .int .i64 0, .bool false]) (by simp [results, Tryd.results47, go_sem]) rfl ⟨HB2.out, fun v k h => (by cases h), fun _ => rfl⟩
  | some vk =>
    obtain ⟨v, k⟩ := vk
    rw [ho] at c1
    go_enter Tryd.func47, Tryd.ntmps47
    go_wp2_with fail
    refine c1.mono ?_
    rintro r w1 ⟨hb, h1, _⟩
    obtain rfl := h1 v k (by first | rfl | trivial)
    have g1 : w1.cell? ⟨1, 0, none⟩ = some (.iface 135 (.pointer (some a))) := HG.out.below hb
    have c2 := is_nil a w1
    have HB : Hid (Below w.heap.size w w1) := hb
    clear c1 hb h1
    go_wp2_with fail
    refine c2.mono ?_
    rintro r w2 ⟨rfl, hb2⟩
    have HB2 : Hid (Below w.heap.size w w2) := HB.out.trans (hb2.mono HB.out.size)
    clear c2 hb2 HB
    go_wp2_with fail
    refine bodyPost_ret (v := .tuple #[.int .i64 v, .int .i64 k, .bool true]) (by simp [results, Tryd.results47, go_sem]) rfl ⟨HB2.out, fun v k h => (by cases h; rfl), fun h => (by cases h)⟩

end Go.Proofs.YtopkeembbopbmaaDoor
