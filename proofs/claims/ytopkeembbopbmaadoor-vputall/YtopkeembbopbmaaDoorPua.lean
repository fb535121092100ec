/- bits.PutNum. -/
import Derived.Test.YtopkeembbopbmaaDoorPut
namespace Go.Proofs.YtopkeembbopbmaaDoor
open Go.RowKit
set_option maxRecDepth 100000
set_option linter.unusedVariables false

/-- What is copied whole into what was made. -/
theorem own_copied (w : World) (w1 : World) (n k : Nat) (l : List Nat) (hl : l.length = n) (hb : n + k ≤ 1000000) (h : w1.heap[w.heap.size]? = some (.cells (splice (madeCells #[.int .u8 0] (n + k)).toList 0 (cells l)).toArray 5 (0, 0))) :
    w1.ownsRow w.heap.size 5 1 (.slice (some ⟨w.heap.size, 0, none⟩) n (n + k)) n (cells l) := by
  have hm : (madeCells #[Value.int .u8 0] (n + k)).toList.length = n + k := by simp [madeCells]
  have hcl : (cells l).length = n := by simp [cells, hl]
  refine ⟨by rw [hcl]; omega, .inr ⟨w.heap.size, _, _, rfl, Nat.le_refl _, h, by omega, by unfold maxLen; omega, ?_, ?_⟩⟩
  · rw [List.size_toArray, length_splice _ _ _ (by omega), hm]; omega
  · simp only [splice, List.take_zero, List.nil_append]
    rw [Nat.mul_one, ← hcl, List.take_left]

set_option maxHeartbeats 1000000 in
/-- bits.PutNum. -/
theorem put8 (ao : Option Addr) (n cap : Nat) (l : List Nat) (v : Nat) (w : World) (hr : Rb w ao n cap l) (hn : n ≤ 100000) (hv : v < 9223372036854775808) :
    Calls Tryd.prog 45 #[.slice ao n cap, .int .i64 v] w fun r w' => ∃ x, r = .returned x ∧ w'.ownsRow w.heap.size 5 1 x (n + (put v).length) (cells (l ++ put v)) ∧ Below w.heap.size w w' := by
  have HR : Hid (Rb w ao n cap l) := hr
  have hpl : (put v).length ≤ 9 := put_len 8 v (by omega)
  obtain ⟨i0, hi, hz0, hz1, hz2⟩ := info_parts Tryd.info5
  have hsz : (Tryd.prog.info? 5).map (·.size) = some 1 := by rw [hi]; simp [hz1]
  clear hr hi hz0 hz1 hz2
  go_enter Tryd.func45, Tryd.ntmps45
  have hcur : (w.alloc (.cells (madeCells #[.int .u8 0] (n + 10)) 5)).heap[w.heap.size]? = some (.cells (madeCells #[Value.int .u8 0] (n + 10)).toList.toArray 5 (0, 0)) := by
    rw [heap_alloc_new]
  have hlen : l.length = n := HR.out.len
  have HC : Hid (0 < (cells l).length → (some ⟨w.heap.size, 0, none⟩ : Option Addr) = some ⟨w.heap.size, 0, none⟩ ∧ ∃ ad, ao = some ad ∧ ∀ j v, (cells l)[j]? = some v → (w.alloc (.cells (madeCells #[.int .u8 0] (n + 10)) 5)).cell? (ad.add j) = some v) := by
    intro h0
    have hr2 := HR.out.kept ((Below.refl _ w).alloc (Nat.le_refl _) (.cells (madeCells #[.int .u8 0] (n + 10)) 5))
    obtain ⟨b, off, rfl, hc⟩ := hr2.at_ (by simpa [cells, hlen] using h0)
    refine ⟨rfl, _, rfl, fun j u hj => ?_⟩
    have hjl : j < l.length := by
      have := (List.getElem?_eq_some_iff.1 hj).1
      simpa [cells] using this
    rw [cells_get l j hjl] at hj
    cases hj
    rw [Addr.add_lit]
    exact hc j (by omega)
  have hm : (madeCells #[Value.int .u8 0] (n + 10)).toList.length = n + 10 := by simp [madeCells]
  have hcl : (cells l).length = n := by simp [cells, hlen]
  have HM : Hid ((cells l).length = Nat.min n n ∧ 0 + (cells l).length ≤ (madeCells #[Value.int .u8 0] (n + 10)).toList.length) := ⟨by rw [hcl]; simp, by rw [hcl, hm]; omega⟩
  have HU : Hid (_ = _) := hcur
  have HS : Hid (_ = _) := hsz
  have hb0 : Below w.heap.size w (w.alloc (.cells (madeCells #[.int .u8 0] (n + 10)) 5)) := (Below.refl _ w).alloc (Nat.le_refl _) _
  have HB0 : Hid (Below _ _ _) := hb0
  clear hcur hm hcl hb0 hsz
  go_wp2_with (first | (at_make; refine make_lc _ rfl _ _ rfl n 10 _ _ rfl rfl rfl (by omega) (by omega) ?_) | (refine wpList_copy_splice rfl (.tmp 13) (.tmp 14) 27 27 rfl 5 Tryd.underlying27 HS.out (some ⟨w.heap.size, 0, none⟩) ao n (n + 10) n cap rfl rfl w.heap.size 0 (madeCells #[.int .u8 0] (n + 10)).toList 5 HU.out (cells l) HM.out.1 HC.out HM.out.2 (cells_one l) w.heap.size w HB0.out (Nat.le_refl _) ?_))
  intro w1 hh hb1
  have HO : Hid (w1.ownsRow w.heap.size 5 1 (.slice (some ⟨w.heap.size, 0, none⟩) n (n + 10)) (n + 0) (cells (l ++ [])) ∧ Below w.heap.size w w1) := by
    refine ⟨?_, hb1⟩
    simpa using own_copied w w1 n 10 l hlen (by omega) hh.out
  clear hh hb1 HU HM HC HB0 HS
  go_wp2_with fail
  go_loopw [5, 6] (fun to y wr => ∃ (d : List Nat) (m : Nat), y = .int .u64 m ∧ d ++ put m = put v ∧ m < 9223372036854775808 ∧ wr.ownsRow w.heap.size 5 1 to (n + d.length) (cells (l ++ d)) ∧ Below w.heap.size w wr) (fun _ y _ => (intOf y).toNat)
  case atStart => exact ⟨[], v, rfl, rfl, hv, HO.out.1, HO.out.2⟩
  case round =>
    obtain ⟨d, m, rfl, hd, hm, hown, hb⟩ := hrel
    obtain ⟨to, tc, rfl⟩ := own_slice hown
    have HD : Hid (d ++ put m = put v) := hd
    have HW : Hid (wr.ownsRow w.heap.size 5 1 (.slice to (n + d.length) tc) (n + d.length) (cells (l ++ d)) ∧ Below w.heap.size w wr) := ⟨hown, hb⟩
    have hdl : d.length ≤ 9 := by have := congrArg List.length hd; simp at this; omega
    clear hd hown hb HO
    by_cases h128 : m < 128
    · have h1 : ¬ (128 : Int) ≤ m := by omega
      have h2 : decide ((128 : Int) ≤ (m : Int)) = false := decide_eq_false h1
      have h3 : decide (128 ≤ m) = false := decide_eq_false (by omega)
      have hle := HW.out.2.size
      go_wp2_with (at_builtin; refine append_one _ rfl _ _ rfl w.heap.size _ _ _ rfl (HW.out.1.alloc _) wr.heap.size (m : Int) rfl (by simp) m rfl (by omega) (by simp; omega) ?_)
      intro v2 w2 hown hgrow
      have HR2 : Hid (w2.ownsRow w.heap.size 5 1 v2 (n + (put v).length) (cells (l ++ put v)) ∧ Below w.heap.size w w2) := by
        have e : put v = d ++ [m] := by rw [← HD.out, put_small m h128]
        refine ⟨?_, (HW.out.2.alloc hle _).grown hgrow (by simp; omega) (fun k hk => (HW.out.1.lt k hk).1)⟩
        rw [e, ← List.append_assoc, cells_append, List.length_append]
        simpa [Nat.add_assoc] using hown
      clear hown hgrow
      go_wp2_with fail
      go_ret
      exact ⟨_, rfl, HR2.out.1, HR2.out.2⟩
    · have h1 : (128 : Int) ≤ m := by omega
      have h2 : decide ((128 : Int) ≤ (m : Int)) = true := decide_eq_true h1
      have h3 : decide (128 ≤ m) = true := decide_eq_true (by omega)
      have hle := HW.out.2.size
      have HQ : Hid (bits .or .u8 ((m : Int) % 256) 128 = ((m % 128 + 128 : Nat) : Int)) := by
        have := or128 m
        rwa [IntKind.wrap_u8'] at this
      go_wp2_with (at_builtin; refine append_one _ rfl _ _ rfl w.heap.size _ _ _ rfl (HW.out.1.alloc _) wr.heap.size (bits .or .u8 ((m : Int) % 256) 128) rfl (by simp) (m % 128 + 128) HQ.out (by omega) (by simp; omega) ?_)
      intro v2 w2 hown hgrow
      have HR2 : Hid (w2.ownsRow w.heap.size 5 1 v2 (n + (d ++ [m % 128 + 128]).length) (cells (l ++ (d ++ [m % 128 + 128]))) ∧ Below w.heap.size w w2) := by
        refine ⟨?_, (HW.out.2.alloc hle _).grown hgrow (by simp; omega) (fun k hk => (HW.out.1.lt k hk).1)⟩
        rw [← List.append_assoc, cells_append, List.length_append]
        simpa [Nat.add_assoc] using hown
      clear hown hgrow
      go_wp2_with fail
      refine ⟨⟨d ++ [m % 128 + 128], m / 128, by simp, ?_, by omega, HR2.out.1, HR2.out.2⟩, by simp [intOf]; omega⟩
      rw [← HD.out, put_great m h128, List.append_assoc]; rfl

end Go.Proofs.YtopkeembbopbmaaDoor
