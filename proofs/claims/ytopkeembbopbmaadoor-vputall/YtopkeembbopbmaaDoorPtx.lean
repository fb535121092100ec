/- bits.PutText, cardamomref16.PutText. -/
import Derived.Test.YtopkeembbopbmaaDoorPua
namespace Go.Proofs.YtopkeembbopbmaaDoor
open Go.RowKit
set_option maxRecDepth 100000
set_option linter.unusedVariables false

/-- A text as bytes. -/
def putT (s : ByteArray) : List Nat := put s.size ++ bl s
theorem putT_len (s : ByteArray) : (putT s).length = (put s.size).length + s.size := by simp [putT, bl_len]
theorem putT_lt (s : ByteArray) : ∀ x ∈ putT s, x < 256 := by
  intro x hx
  rcases List.mem_append.1 hx with h | h
  · exact put_byte _ x h
  · exact bl_lt s x h

set_option maxHeartbeats 1000000 in
/-- bits.PutText. -/
theorem ptext10 (ao : Option Addr) (n cap : Nat) (l : List Nat) (s : ByteArray) (w : World) (hr : Rb w ao n cap l) (hn : n ≤ 100000) (hs : s.size ≤ 100000) :
    Calls Tryd.prog 46 #[.slice ao n cap, .string s] w fun r w' => ∃ x, r = .returned x ∧ w'.ownsRow w.heap.size 5 1 x (n + (putT s).length) (cells (l ++ putT s)) ∧ Below w.heap.size w w' := by
  have c1 := put8 ao n cap l s.size w hr hn (by omega)
  have hpl : (put s.size).length ≤ 9 := put_len 8 s.size (by omega)
  obtain ⟨i0, hi, hz0, hz1, hz2⟩ := info_parts Tryd.info5
  clear hr
  go_enter Tryd.func46, Tryd.ntmps46
  go_wp2_with fail
  refine c1.mono ?_
  rintro r w1 ⟨x, rfl, hown, hb1⟩
  have HW : Hid (w1.ownsRow w.heap.size 5 1 x (n + (put s.size).length) (cells (l ++ put s.size)) ∧ Below w.heap.size w w1) := ⟨hown, hb1⟩
  have hle := hb1.size
  clear c1 hown hb1
  go_wp2_with (at_builtin; refine Lib.wpList_append_own_string _ rfl _ _ 27 9 rfl w.heap.size 5 i0 Tryd.underlying27 Tryd.underlying9 hi hz0 hz1 hz2 x _ _ rfl HW.out.1 s rfl (by unfold maxLen; omega) (by omega) (by omega) ?_)
  intro v2 w2 hown hgrow _
  have HR2 : Hid (w2.ownsRow w.heap.size 5 1 v2 (n + (putT s).length) (cells (l ++ putT s)) ∧ Below w.heap.size w w2) := by
    refine ⟨?_, HW.out.2.grown hgrow (by omega) (fun k hk => (HW.out.1.lt k hk).1)⟩
    rw [strCells_bl, ← cells_append] at hown
    rw [putT_len]
    simpa [putT, Nat.add_assoc] using hown
  clear hown hgrow
  go_wp2_with fail
  go_ret
  exact ⟨_, rfl, HR2.out.1, HR2.out.2⟩

set_option maxHeartbeats 1000000 in
/-- cardamomref16.PutText. -/
theorem rptext11 (ao : Option Addr) (n cap : Nat) (l : List Nat) (s : ByteArray) (w : World) (hr : Rb w ao n cap l) (hn : n ≤ 100000) (hs : s.size ≤ 100000) :
    Calls Tryd.prog 29 #[.slice ao n cap, .string s] w fun r w' => ∃ x, r = .returned x ∧ w'.ownsRow w.heap.size 5 1 x (n + (putT s).length) (cells (l ++ putT s)) ∧ Below w.heap.size w w' := by
  have c1 := rput9 ao n cap l s.size w hr hn (by omega)
  have hpl : (put s.size).length ≤ 9 := put_len 8 s.size (by omega)
  obtain ⟨i0, hi, hz0, hz1, hz2⟩ := info_parts Tryd.info5
  clear hr
  go_enter Tryd.func29, Tryd.ntmps29
  go_wp2_with fail
  refine c1.mono ?_
  rintro r w1 ⟨x, rfl, hown, hb1⟩
  have HW : Hid (w1.ownsRow w.heap.size 5 1 x (n + (put s.size).length) (cells (l ++ put s.size)) ∧ Below w.heap.size w w1) := ⟨hown, hb1⟩
  have hle := hb1.size
  clear c1 hown hb1
  go_wp2_with (at_builtin; refine Lib.wpList_append_own_string _ rfl _ _ 27 9 rfl w.heap.size 5 i0 Tryd.underlying27 Tryd.underlying9 hi hz0 hz1 hz2 x _ _ rfl HW.out.1 s rfl (by unfold maxLen; omega) (by omega) (by omega) ?_)
  intro v2 w2 hown hgrow _
  have HR2 : Hid (w2.ownsRow w.heap.size 5 1 v2 (n + (putT s).length) (cells (l ++ putT s)) ∧ Below w.heap.size w w2) := by
    refine ⟨?_, HW.out.2.grown hgrow (by omega) (fun k hk => (HW.out.1.lt k hk).1)⟩
    rw [strCells_bl, ← cells_append] at hown
    rw [putT_len]
    simpa [putT, Nat.add_assoc] using hown
  clear hown hgrow
  go_wp2_with fail
  go_ret
  exact ⟨_, rfl, HR2.out.1, HR2.out.2⟩

/-- What text is taken of it: the text put. -/
theorem take_put (v : Nat) (l : List Nat) (hv : v < 34359738368) : take5 (put v ++ l) = some (v, (put v).length) := tk_put 4 false v l (by simpa using hv) (by intro h; cases h)

end Go.Proofs.YtopkeembbopbmaaDoor
