/- Putting behind what reads as bytes. -/
import Derived.Test.YtopkeembbopbmaaDoorPtx
import Derived.Test.YtopkeembbopbmaaDoorVn
import Derived.Test.YtopkeembbopbmaaDoorHld
import Derived.Deep.RegionHeld3
namespace Go.Proofs.YtopkeembbopbmaaDoor
open Go.RowKit
set_option maxRecDepth 100000
set_option linter.unusedVariables false

theorem own_rb {w : World} {base n : Nat} {x : Value} {l : List Nat} (h : w.ownsRow base 5 1 x n (cells l)) (hl : ∀ y ∈ l, y < 256) : ∃ ao cap, x = .slice ao n cap ∧ Rb w ao n cap l := by
  have h' := h
  rcases h.2 with ⟨rfl, rfl⟩ | ⟨g, cap, cur, rfl, r⟩
  · exact ⟨none, 0, rfl, Rb.of_own h' hl⟩
  · exact ⟨_, cap, rfl, Rb.of_own h' hl⟩

theorem rb_take {w : World} {ao : Option Addr} {n cap : Nat} {l : List Nat} (h : Rb w ao n cap l) (k : Nat) (hk : k ≤ n) : Rb w ao k cap (l.take k) := by
  have hle := h.le
  have hlen := h.len
  refine ⟨fun x hx => h.lt x (List.mem_of_mem_take hx), by simp; omega, by omega, h.max, h.nil, fun h0 => ?_⟩
  obtain ⟨b, off, e, hc⟩ := h.at_ (by omega)
  refine ⟨b, off, e, fun j hj => ?_⟩
  rw [hc j (by omega)]
  have : j < l.length := by omega
  simp [List.getD, hj]

theorem put45 (ao : Option Addr) (n cap : Nat) (l : List Nat) (v : Nat) (w : World) (hr : Rb w ao n cap l) (hn : n ≤ 100000) (hv : v < 9223372036854775808) : Calls Tryd.prog 45 #[.slice ao n cap, .int .i64 v] w fun r w' => ∃ xo N xc, r = .returned (.slice xo N xc) ∧ Rb w' xo N xc (l ++ put v) ∧ Below w.heap.size w w' := by
  refine (put8 ao n cap l v w hr hn hv).mono ?_
  rintro r w' ⟨x, rfl, hown, hb⟩
  obtain ⟨xo, xc, rfl, hx⟩ := own_rb hown (by intro y hy; rcases List.mem_append.1 hy with h | h; exact hr.lt y h; exact put_byte v y h)
  exact ⟨xo, _, xc, rfl, hx, hb⟩

theorem rput27 (ao : Option Addr) (n cap : Nat) (l : List Nat) (v : Nat) (w : World) (hr : Rb w ao n cap l) (hn : n ≤ 100000) (hv : v < 9223372036854775808) : Calls Tryd.prog 27 #[.slice ao n cap, .int .i64 v] w fun r w' => ∃ xo N xc, r = .returned (.slice xo N xc) ∧ Rb w' xo N xc (l ++ put v) ∧ Below w.heap.size w w' := by
  refine (rput9 ao n cap l v w hr hn hv).mono ?_
  rintro r w' ⟨x, rfl, hown, hb⟩
  obtain ⟨xo, xc, rfl, hx⟩ := own_rb hown (by intro y hy; rcases List.mem_append.1 hy with h | h; exact hr.lt y h; exact put_byte v y h)
  exact ⟨xo, _, xc, rfl, hx, hb⟩

theorem ptext46 (ao : Option Addr) (n cap : Nat) (l : List Nat) (s : ByteArray) (w : World) (hr : Rb w ao n cap l) (hn : n ≤ 100000) (hv : s.size ≤ 100000) : Calls Tryd.prog 46 #[.slice ao n cap, .string s] w fun r w' => ∃ xo N xc, r = .returned (.slice xo N xc) ∧ Rb w' xo N xc (l ++ putT s) ∧ Below w.heap.size w w' := by
  refine (ptext10 ao n cap l s w hr hn hv).mono ?_
  rintro r w' ⟨x, rfl, hown, hb⟩
  obtain ⟨xo, xc, rfl, hx⟩ := own_rb hown (by intro y hy; rcases List.mem_append.1 hy with h | h; exact hr.lt y h; exact putT_lt s y h)
  exact ⟨xo, _, xc, rfl, hx, hb⟩

theorem rptext29 (ao : Option Addr) (n cap : Nat) (l : List Nat) (s : ByteArray) (w : World) (hr : Rb w ao n cap l) (hn : n ≤ 100000) (hv : s.size ≤ 100000) : Calls Tryd.prog 29 #[.slice ao n cap, .string s] w fun r w' => ∃ xo N xc, r = .returned (.slice xo N xc) ∧ Rb w' xo N xc (l ++ putT s) ∧ Below w.heap.size w w' := by
  refine (rptext11 ao n cap l s w hr hn hv).mono ?_
  rintro r w' ⟨x, rfl, hown, hb⟩
  obtain ⟨xo, xc, rfl, hx⟩ := own_rb hown (by intro y hy; rcases List.mem_append.1 hy with h | h; exact hr.lt y h; exact putT_lt s y h)
  exact ⟨xo, _, xc, rfl, hx, hb⟩

set_option maxHeartbeats 400000 in
/-- vput.flag. -/
theorem flag44 (d : Bool) (w : World) : Calls Tryd.prog 44 #[.bool d] w fun r w' => r = .returned (.int .i64 (b2n d : Nat)) ∧ w' = w := by
  cases d
  · go_enter Tryd.func44, Tryd.ntmps44
    go_wp2
    go_ret
    exact ⟨rfl, rfl⟩
  · go_enter Tryd.func44, Tryd.ntmps44
    go_wp2
    go_ret
    exact ⟨rfl, rfl⟩

set_option maxHeartbeats 400000 in
/-- cardamomref16.bit. -/
theorem bit28 (d : Bool) (w : World) : Calls Tryd.prog 28 #[.bool d] w fun r w' => r = .returned (.int .i64 (b2n d : Nat)) ∧ w' = w := by
  cases d
  · go_enter Tryd.func28, Tryd.ntmps28
    go_wp2
    go_ret
    exact ⟨rfl, rfl⟩
  · go_enter Tryd.func28, Tryd.ntmps28
    go_wp2
    go_ret
    exact ⟨rfl, rfl⟩

end Go.Proofs.YtopkeembbopbmaaDoor
