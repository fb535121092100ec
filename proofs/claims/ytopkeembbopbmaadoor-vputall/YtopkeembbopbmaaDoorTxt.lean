/- bits.text, bits.TakeText: the text that a row of bytes begins with. -/
import Derived.Test.YtopkeembbopbmaaDoorTkm
namespace Go.Proofs.YtopkeembbopbmaaDoor
open Go.RowKit
set_option maxRecDepth 100000
set_option linter.unusedVariables false

/-- The text that a row of bytes begins with, and how many bytes it has. -/
def tkText (l : List Nat) : Option (List Nat × Nat) :=
  match take5 l with
  | none => none
  | some (v, n) => if l.length - n < v then none else some ((l.drop n).take v, n + v)

/-- A fault of bits. -/
def Flt (a : Addr) (e : Value) : Prop := (∃ p, e = .iface 127 (.agg #[.string p, .iface 135 (.pointer (some a))])) ∨ ∃ q p, e = .iface 127 (.agg #[.string q, .iface 127 (.agg #[.string p, .iface 135 (.pointer (some a))])])

/-- A part of what is read. -/
theorem rb_part {w : World} {b off n cap : Nat} {l : List Nat} (h : Rb w (some ⟨b, off, none⟩) n cap l) (k v : Nat) (hk : k + v ≤ n) : Rb w (some ⟨b, off + k, none⟩) v (cap - k) ((l.drop k).take v) := by
  have hle := h.le
  have hmx := h.max
  refine ⟨fun x hx => h.lt x (List.mem_of_mem_drop (List.mem_of_mem_take hx)), ?_, by omega, by omega, (fun h => by cases h), fun h0 => ?_⟩
  · have := h.len
    simp; omega
  · obtain ⟨b', off', e, hc⟩ := h.at_ (by omega)
    cases e
    refine ⟨b, off + k, rfl, fun j hj => ?_⟩
    rw [Nat.add_assoc, hc (k + j) (by omega)]
    have : k + j < l.length := by have := h.len; omega
    simp [List.getD, hj]

theorem conv_none {w : World} (x : Addr) (c : Nat) : (convert 27 9 (.slice (some x) 0 c)).run Tryd.prog w = .ok (.string ⟨#[]⟩) w := by
  rw [run_convert_bytes_string w 27 9 5 (some x) 0 c Tryd.underlying27 Tryd.underlying5 Tryd.underlying9, run_bytesToString w x 0 c [] (by simp [loadCells, loadCellsFrom])]
  rfl

set_option maxHeartbeats 1000000 in
theorem text18_long (a : Addr) (b off n cap : Nat) (l : List Nat) (v k : Nat) (w : World) (hr : Rb w (some ⟨b, off, none⟩) n cap l) (hn : n ≤ 100000) (hg : Err w a) (ht : take5 l = some (v, k)) (hk : k ≤ n) (hk5 : k ≤ 5) (hv : v < 34359738368) (hl : v ≤ n - k) :
    Calls Tryd.prog 59 #[.slice (some ⟨b, off, none⟩) n cap] w fun r w' => Below w.heap.size w w' ∧ r = .returned (.tuple #[.string (strs ((l.drop k).take v)), .int .i64 (k + v : Nat), .nilIface]) := by
  have c1 := num16 a _ n cap l w hr hn hg
  rw [ht] at c1
  have HR : Hid (Rb w (some ⟨b, off, none⟩) n cap l) := hr
  have hcap := hr.le
  clear hr hg
  go_enter Tryd.func59, Tryd.ntmps59
  go_wp2_with fail
  refine c1.mono ?_
  rintro r w1 ⟨hb, h1, _⟩
  obtain rfl := h1 v k (by first | rfl | trivial)
  have HB : Hid (Below w.heap.size w w1) := hb
  have cv := conv_rb (rb_part (HR.out.kept hb) k v (by omega))
  clear c1 h1 hb
  by_cases hck : cap = k
  · obtain rfl : n = k := by omega
    obtain rfl : v = 0 := by omega
    have cz := fun x c => conv_none (w := w1) x c
    clear cv
    go_wp2_with fail
    refine bodyPost_ret (v := .tuple #[.string ⟨#[]⟩, .int .i64 n, .nilIface]) (by simp [results, Tryd.results59, go_sem]) rfl ⟨HB.out, ?_⟩
    rw [List.take_zero]; rfl
  · go_wp2_with fail
    refine bodyPost_ret (v := .tuple #[.string (strs ((l.drop k).take v)), .int .i64 (k + v : Nat), .nilIface]) (by simp [results, Tryd.results59, go_sem]) rfl ⟨HB.out, rfl⟩

set_option maxHeartbeats 1000000 in
theorem text18_less (a : Addr) (ao : Option Addr) (n cap : Nat) (l : List Nat) (v k : Nat) (w : World) (hr : Rb w ao n cap l) (hn : n ≤ 100000) (hg : Err w a) (ht : take5 l = some (v, k)) (hk : k ≤ n) (hk5 : k ≤ 5) (hv : v < 34359738368) (hl : n - k < v) :
    Calls Tryd.prog 59 #[.slice ao n cap] w fun r w' => Below w.heap.size w w' ∧ ∃ e, Flt a e ∧ r = .returned (.tuple #[.string ⟨#[]⟩, .int .i64 0, e]) := by
  have c1 := num16 a _ n cap l w hr hn hg
  rw [ht] at c1
  have HG : Hid (Err w a) := hg
  have hl1 : (n : Int) - k < v := by omega
  have hl2 : decide ((n : Int) - k < v) = true := decide_eq_true hl1
  clear hr hg
  go_enter Tryd.func59, Tryd.ntmps59
  go_wp2_with fail
  refine c1.mono ?_
  rintro r w1 ⟨hb, h1, _⟩
  obtain rfl := h1 v k (by first | rfl | trivial)
  have HB : Hid (Below w.heap.size w w1) := hb
  have g1 : w1.cell? ⟨1, 0, none⟩ = some (.iface 135 (.pointer (some a))) := HG.out.below hb
  clear c1 h1 hb
  go_wp2_with fail
  go_quiet (fail)
  go_wp2
  refine bodyPost_ret (v := .tuple #[.string ⟨#[]⟩, .int .i64 0, .iface 127 (.agg #[.string _, .iface 135 (.pointer (some a))])]) (by simp [results, Tryd.results59, go_sem] <;> rfl) rfl ⟨HB.out.trans ((below_dN w1 _).mono HB.out.size), _, Or.inl ⟨_, rfl⟩, rfl⟩

set_option maxHeartbeats 1000000 in
theorem text18_no (a : Addr) (ao : Option Addr) (n cap : Nat) (l : List Nat) (w : World) (hr : Rb w ao n cap l) (hn : n ≤ 100000) (hg : Err w a) (ht : take5 l = none) :
    Calls Tryd.prog 59 #[.slice ao n cap] w fun r w' => Below w.heap.size w w' ∧ ∃ e, Flt a e ∧ r = .returned (.tuple #[.string ⟨#[]⟩, .int .i64 0, e]) := by
  have c1 := num16 a _ n cap l w hr hn hg
  rw [ht] at c1
  clear hr hg
  go_enter Tryd.func59, Tryd.ntmps59
  go_wp2_with fail
  refine c1.mono ?_
  rintro r w1 ⟨hb, _, h2⟩
  obtain ⟨p, rfl⟩ := h2 (by first | rfl | trivial)
  have HB : Hid (Below w.heap.size w w1) := hb
  clear c1 h2 hb
  go_wp2_with fail
  refine bodyPost_ret (v := .tuple #[.string ⟨#[]⟩, .int .i64 0, .iface 127 (.agg #[.string _, .iface 127 (.agg #[.string p, .iface 135 (.pointer (some a))])])]) (by simp [results, Tryd.results59, go_sem] <;> rfl) rfl ⟨HB.out, _, Or.inr ⟨_, p, rfl⟩, rfl⟩

/-- bits.text. -/
theorem text18 (a : Addr) (ao : Option Addr) (n cap : Nat) (l : List Nat) (w : World) (hr : Rb w ao n cap l) (hn : n ≤ 100000) (hg : Err w a) :
    Calls Tryd.prog 59 #[.slice ao n cap] w fun r w' => Below w.heap.size w w' ∧ (∀ t k, tkText l = some (t, k) → r = .returned (.tuple #[.string (strs t), .int .i64 k, .nilIface])) ∧ (tkText l = none → ∃ e, Flt a e ∧ r = .returned (.tuple #[.string ⟨#[]⟩, .int .i64 0, e])) := by
  unfold tkText
  cases ht : take5 l with
  | none =>
    refine (text18_no a ao n cap l w hr hn hg ht).mono ?_
    rintro r w' ⟨h1, h2⟩
    exact ⟨h1, fun t k h => (by cases h), fun _ => h2⟩
  | some vk =>
    obtain ⟨v, k⟩ := vk
    obtain ⟨h1, h2, _, h4, h5⟩ := take5_le hr.lt ht
    have hlen := hr.len
    by_cases hl : l.length - k < v
    · refine (text18_less a ao n cap l v k w hr hn hg ht (by omega) h5 h4 (by omega)).mono ?_
      rintro r w' ⟨q1, q2⟩
      exact ⟨q1, fun t k h => (by simp only [if_pos hl] at h; cases h), fun _ => q2⟩
    · obtain ⟨b, off, rfl, _⟩ := hr.at_ (by omega)
      refine (text18_long a b off n cap l v k w hr hn hg ht (by omega) h5 h4 (by omega)).mono ?_
      rintro r w' ⟨q1, q2⟩
      exact ⟨q1, fun t k h => (by simp only [if_neg hl] at h; cases h; exact q2), fun h => (by simp only [if_neg hl] at h; cases h)⟩

set_option maxHeartbeats 1000000 in
/-- bits.TakeText. -/
theorem take14 (a : Addr) (ao : Option Addr) (n cap : Nat) (l : List Nat) (w : World) (hr : Rb w ao n cap l) (hn : n ≤ 100000) (hg : Err w a) :
    Calls Tryd.prog 48 #[.slice ao n cap] w fun r w' => Below w.heap.size w w' ∧ (∀ t k, tkText l = some (t, k) → r = .returned (.tuple #[.string (strs t), .int .i64 k, .bool true])) ∧ (tkText l = none → r = .returned (.tuple #[.string ⟨#[]⟩, .int .i64 0, .bool false])) := by
  have c1 := text18 a ao n cap l w hr hn hg
  have HG : Hid (Err w a) := hg
  clear hr hg
  cases ho : tkText l with
  | none =>
    rw [ho] at c1
    go_enter Tryd.func48, Tryd.ntmps48
    go_wp2_with fail
    refine c1.mono ?_
    rintro r w1 ⟨hb, _, h2⟩
    obtain ⟨e, he, rfl⟩ := h2 (by first | rfl | trivial)
    have g1 : w1.cell? ⟨1, 0, none⟩ = some (.iface 135 (.pointer (some a))) := HG.out.below hb
    have HB : Hid (Below w.heap.size w w1) := hb
    have c2 : Calls Tryd.prog 58 #[e, .iface 135 (.pointer (some a))] w1 fun r w' => r = .returned (.bool true) ∧ Below w1.heap.size w1 w' := by
      rcases he with ⟨p, rfl⟩ | ⟨q, p, rfl⟩
      · exact is_one a p w1
      · exact is_two a q p w1
    clear c1 hb h2 he
    go_wp2_with fail
    refine c2.mono ?_
    rintro r w2 ⟨rfl, hb2⟩
    have HB2 : Hid (Below w.heap.size w w2) := HB.out.trans (hb2.mono HB.out.size)
    clear c2 hb2 HB
    go_wp2_with fail
    refine bodyPost_ret (v := .tuple #[.string ⟨#[]⟩, .int .i64 0, .bool false]) (by simp [results, Tryd.results48, go_sem]) rfl ⟨HB2.out, fun v k h => (by cases h), fun _ => rfl⟩
  | some vk =>
    obtain ⟨t, k⟩ := vk
    rw [ho] at c1
    go_enter Tryd.func48, Tryd.ntmps48
    go_wp2_with fail
    refine c1.mono ?_
    rintro r w1 ⟨hb, h1, _⟩
    obtain rfl := h1 t k (by first | rfl | trivial)
    have g1 : w1.cell? ⟨1, 0, none⟩ = some (.iface 135 (.pointer (some a))) := HG.out.below hb
    have c2 := is_nil a w1
    have HB : Hid (Below w.heap.size w w1) := hb
    clear c1 hb h1
    go_wp2_with fail
    refine c2.mono ?_
    rintro r w2 ⟨rfl, hb2⟩
    have HB2 : Hid (Below w.heap.size w w2) := HB.out.trans (hb2.mono HB.out.size)
    clear c2 hb2 HB
    go_wp2_with fail
    refine bodyPost_ret (v := .tuple #[.string (strs t), .int .i64 k, .bool true]) (by simp [results, Tryd.results48, go_sem]) rfl ⟨HB2.out, fun v k h => (by cases h; rfl), fun h => (by cases h)⟩

end Go.Proofs.YtopkeembbopbmaaDoor
