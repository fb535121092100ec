/- vers.checkNumber, checkTag, checkBody, checkAttrs. -/
import Derived.Test.YtopkeembbopbmaaDoorVn
import Derived.Test.YtopkeembbopbmaaDoorEasV
namespace Go.Proofs.YtopkeembbopbmaaDoor
open Go.RowKit
set_option maxRecDepth 100000
set_option linter.unusedVariables false

/-- What a check tells. -/
def VkV (ok : Bool) (ev : Value) : Prop := (ok = true ∧ ev = .nilIface) ∨ (ok = false ∧ ∃ k, FauV k ev)
theorem VkV.one (p : ByteArray) : VkV false (.iface 93 (.agg #[.string p])) := .inr ⟨rfl, 0, p, rfl⟩

set_option maxHeartbeats 1000000 in
theorem num52 (n lo hi : Int) (w : World) : Calls Tryd.prog 52 #[.int .i64 n, .int .i64 lo, .int .i64 hi] w fun r w' => (∃ ev, r = .returned ev ∧ VkV (decide (lo ≤ n) && decide (n ≤ hi)) ev) ∧ w' = w := by
  by_cases h1 : n < lo
  · have d1 : decide (n < lo) = true := decide_eq_true h1
    have e1 : (decide (lo ≤ n) && decide (n ≤ hi)) = false := by rw [decide_eq_false (by omega)]; rfl
    rw [e1]
    clear e1
    go_enter Tryd.func52, Tryd.ntmps52
    go_wp2
    go_ret
    exact ⟨⟨_, rfl, VkV.one _⟩, rfl⟩
  · have d1 : decide (n < lo) = false := decide_eq_false h1
    by_cases h2 : hi < n
    · have d2 : decide (hi < n) = true := decide_eq_true h2
      have e1 : (decide (lo ≤ n) && decide (n ≤ hi)) = false := by rw [decide_eq_false (show ¬ n ≤ hi by omega), Bool.and_false]
      rw [e1]
      clear e1
      go_enter Tryd.func52, Tryd.ntmps52
      go_wp2
      go_ret
      exact ⟨⟨_, rfl, VkV.one _⟩, rfl⟩
    · have d2 : decide (hi < n) = false := decide_eq_false h2
      have e1 : (decide (lo ≤ n) && decide (n ≤ hi)) = true := by rw [decide_eq_true (by omega), decide_eq_true (by omega)]; rfl
      rw [e1]
      clear e1
      go_enter Tryd.func52, Tryd.ntmps52
      go_wp2
      go_ret
      exact ⟨⟨_, rfl, .inl ⟨rfl, rfl⟩⟩, rfl⟩

set_option maxHeartbeats 1000000 in
theorem tag55 (s : ByteArray) (w : World) (hm : s.size ≤ maxLen) : Calls Tryd.prog 55 #[.string s] w fun r w' => (∃ ev, r = .returned ev ∧ VkV (tagOk s) ev) ∧ w' = w := by
  by_cases h6 : s.size ≤ 6
  · have d6 : decide ((6 : Int) < (s.size : Int)) = false := decide_eq_false (by omega)
    have d7 : decide (6 < s.size) = false := decide_eq_false (by omega)
    have HO : Hid (tagOk s = (bl s).all low1) := by show _ = _; unfold tagOk; rw [decide_eq_true h6, Bool.true_and]
    go_enter Tryd.func55, Tryd.ntmps55
    go_wp2_with fail
    go_loopw [11] (fun i wr => ∃ k : Nat, k ≤ s.size ∧ i = .int .i64 k ∧ wr = w ∧ tagOk s = ((bl s).drop k).all low1) (fun i _ => s.size - (intOf i).toNat)
    case atStart => exact ⟨0, Nat.zero_le _, rfl, rfl, HO.out⟩
    case round =>
      obtain ⟨k, hk, rfl, rfl, ht⟩ := hrel
      by_cases hlt : k < s.size
      · rw [bl_drop s k hlt, List.all_cons] at ht
        have HT : Hid (tagOk s = (low1 s[k].toNat && ((bl s).drop (k + 1)).all low1)) := ht
        clear ht
        by_cases g1 : s[k].toNat < 97
        · have g2 : (s[k].toNat : Int) < 97 := by omega
          have HF : Hid (tagOk s = false) := by show _ = _; rw [HT.out]; unfold low1; rw [decide_eq_false (by omega)]; rfl
          clear HT g1
          go_wp2
          go_ret
          exact ⟨⟨_, rfl, by rw [HF.out]; exact VkV.one _⟩, rfl⟩
        · by_cases g3 : 122 < s[k].toNat
          · have g2 : ¬ (s[k].toNat : Int) < 97 := by omega
            have g4 : (122 : Int) < (s[k].toNat : Int) := by omega
            have HF : Hid (tagOk s = false) := by show _ = _; rw [HT.out]; unfold low1; rw [decide_eq_false (show ¬ s[k].toNat ≤ 122 by omega), Bool.and_false]; rfl
            clear HT g1 g3
            go_wp2
            go_ret
            exact ⟨⟨_, rfl, by rw [HF.out]; exact VkV.one _⟩, rfl⟩
          · have g2 : 97 ≤ (s[k].toNat : Int) := by omega
            have g4 : (s[k].toNat : Int) ≤ 122 := by omega
            have HF : Hid (tagOk s = ((bl s).drop (k + 1)).all low1) := by show _ = _; rw [HT.out]; unfold low1; rw [decide_eq_true (by omega), decide_eq_true (by omega)]; rfl
            clear HT g1 g3
            go_wp2
            go_roundw
            case rel => exact ⟨k + 1, by omega, by go_num, by trivial, HF.out⟩
            case measure => simp [intOf]; omega
      · have HF : Hid (tagOk s = true) := by show _ = _; rw [ht, List.drop_of_length_le (by rw [bl_len]; omega)]; rfl
        clear ht
        go_wp2
        go_ret
        exact ⟨⟨_, rfl, .inl ⟨HF.out, rfl⟩⟩, rfl⟩
  · have d6 : decide ((6 : Int) < (s.size : Int)) = true := decide_eq_true (by omega)
    have d7 : decide (6 < s.size) = true := decide_eq_true (by omega)
    have HO : Hid (tagOk s = false) := by show _ = _; unfold tagOk; rw [decide_eq_false h6]; rfl
    go_enter Tryd.func55, Tryd.ntmps55
    go_wp2
    go_ret
    exact ⟨⟨_, rfl, by rw [HO.out]; exact VkV.one _⟩, rfl⟩

theorem empty_of {s : ByteArray} (h : s.size = 0) : s = ⟨#[]⟩ := by
  apply ByteArray.ext
  exact Array.eq_empty_of_size_eq_zero h

theorem not_empty {s : ByteArray} (h : s.size ≠ 0) : s.toList.isEmpty = false := by
  rw [ByteArray.toList_eq]
  cases hs : s.data.toList with
  | nil => exact absurd (by show s.data.size = 0; rw [← Array.length_toList, hs]; rfl) h
  | cons c r => rfl

set_option maxHeartbeats 1000000 in
theorem body56 (s : ByteArray) (dead : Bool) (w : World) (hm : s.size ≤ maxLen) : Calls Tryd.prog 56 #[.string s, .bool dead] w fun r w' => (∃ ev, r = .returned ev ∧ VkV (bodyOk dead s) ev) ∧ w' = w := by
  by_cases h0 : s.size = 0
  · obtain rfl := empty_of h0
    have e : bodyOk dead ⟨#[]⟩ = true := by unfold bodyOk; cases dead <;> rfl
    rw [e]
    clear hm h0 e
    cases dead
    · go_enter Tryd.func56, Tryd.ntmps56
      go_wp2
      go_ret
      exact ⟨⟨_, rfl, .inl ⟨rfl, rfl⟩⟩, rfl⟩
    · go_enter Tryd.func56, Tryd.ntmps56
      go_wp2
      go_ret
      exact ⟨⟨_, rfl, .inl ⟨rfl, rfl⟩⟩, rfl⟩
  · have he := not_empty h0
    cases dead with
    | true =>
      have e : bodyOk true s = false := by unfold bodyOk; rw [decide_eq_false h0]; rfl
      rw [e]
      clear e h0
      go_enter Tryd.func56, Tryd.ntmps56
      go_wp2
      go_ret
      exact ⟨⟨_, rfl, VkV.one _⟩, rfl⟩
    | false =>
      have e : bodyOk false s = decide (s.size ≤ 12) := by unfold bodyOk; simp
      rw [e]
      by_cases h12 : s.size ≤ 12
      · have d1 : decide ((12 : Int) < (s.size : Int)) = false := decide_eq_false (by omega)
        have d2 : decide (12 < s.size) = false := decide_eq_false (by omega)
        rw [decide_eq_true h12]
        clear e h0
        go_enter Tryd.func56, Tryd.ntmps56
        go_wp2
        go_ret
        exact ⟨⟨_, rfl, .inl ⟨rfl, rfl⟩⟩, rfl⟩
      · have d1 : decide ((12 : Int) < (s.size : Int)) = true := decide_eq_true (by omega)
        have d2 : decide (12 < s.size) = true := decide_eq_true (by omega)
        rw [decide_eq_false h12]
        clear e h0
        go_enter Tryd.func56, Tryd.ntmps56
        go_wp2
        go_ret
        exact ⟨⟨_, rfl, VkV.one _⟩, rfl⟩

theorem VkV.part {ok : Bool} {ev : Value} (h : VkV ok ev) : (ok = true ∧ ev = .nilIface) ∨ (ok = false ∧ ∃ T x, ev = .iface T x ∧ ∀ p : ByteArray, ∃ k, FauV k (.iface 114 (.agg #[.string p, .iface T x]))) := by
  rcases h with h | ⟨h, k, hk⟩
  · exact .inl h
  · obtain ⟨T, x, rfl⟩ := hk.iface
    exact .inr ⟨h, T, x, rfl, fun p => ⟨k + 1, p, _, rfl, hk⟩⟩

set_option maxHeartbeats 2000000 in
theorem attrs54 (ao : Option Addr) (n cap : Nat) (al : List (Int × Int)) (w : World) (ha : At w ao n al) : Calls Tryd.prog 54 #[.slice ao n cap] w fun r w' => (∃ ev, r = .returned ev ∧ VkV (atsOk al) ev) ∧ Below w.heap.size w w' := by
  have hlen := ha.1
  by_cases h3 : n ≤ 3
  · have d1 : decide ((3 : Int) < (n : Int)) = false := decide_eq_false (by omega)
    have d2 : decide (3 < n) = false := decide_eq_false (by omega)
    have HO : Hid (atsOk al = atOk 0 al) := by show _ = _; unfold atsOk; rw [decide_eq_true (by omega), Bool.true_and]
    have HA : Hid (At w ao n al) := ha
    have HLn : Hid (n = al.length) := hlen
    clear ha hlen
    go_enter Tryd.func54, Tryd.ntmps54
    go_wp2_with fail
    go_loopw [3, 15] (fun lo i wr => ∃ (k : Nat) (least : Int), k ≤ n ∧ i = .int .i64 k ∧ lo = .int .i64 least ∧ (0 ≤ least ∧ least ≤ 4) ∧ Below w.heap.size w wr ∧ atsOk al = atOk least (al.drop k)) (fun _ i _ => n - (intOf i).toNat)
    case atStart => exact ⟨0, 0, Nat.zero_le _, rfl, rfl, ⟨by omega, by omega⟩, Below.refl _ _, HO.out⟩
    case round =>
      obtain ⟨k, least, hk, rfl, rfl, ⟨hl0, hl4⟩, hbel, ht⟩ := hrel
      have HB : Hid (Below w.heap.size w wr) := hbel
      have hsz := hbel.size
      by_cases hlt : k < n
      · rw [at_drop al k (by rw [← HLn.out]; exact hlt)] at ht
        obtain ⟨b, off, rfl, hc⟩ := (HA.out.kept hbel).2.2 (by omega)
        obtain ⟨c0, c1⟩ := hc k hlt
        generalize al.getD k (0, 0) = p at *
        obtain ⟨x, y⟩ := p
        simp only at c0 c1
        have HT : Hid (atsOk al = ((decide (least ≤ x) && decide (x ≤ 3)) && ((decide (0 ≤ y) && decide (y ≤ 99)) && atOk (x + 1) (al.drop (k + 1))))) := ht
        have q1 := num52 x least 3
        have q2 := num52 y 0 99
        clear ht hc hbel
        go_wp2_with fail
        refine (q1 _).mono ?_
        rintro r w1 ⟨⟨ev, rfl, hz⟩, rfl⟩
        rcases hz.part with ⟨g1, rfl⟩ | ⟨g1, T, z, rfl, hf⟩
        · clear q1 hz
          go_wp2_with fail
          refine (q2 _).mono ?_
          rintro r w1 ⟨⟨ev, rfl, hz⟩, rfl⟩
          rcases hz.part with ⟨g2, rfl⟩ | ⟨g2, T, z, rfl, hf⟩
          · have hx : least ≤ x ∧ x ≤ 3 := by simpa using g1
            have HF : Hid (atsOk al = atOk (x + 1) (al.drop (k + 1))) := by show _ = _; rw [HT.out, g1, g2]; rfl
            clear q2 hz g1 g2 HT
            go_wp2
            go_roundw
            case rel => exact ⟨k + 1, x + 1, by omega, by go_num, by go_num, ⟨by omega, by omega⟩, HB.out.alloc hsz _, HF.out⟩
            case measure => simp [intOf]; omega
          · have HF : Hid (atsOk al = false) := by show _ = _; rw [HT.out, g1, g2]; rfl
            have HE : Hid (∀ p : ByteArray, ∃ k, FauV k (.iface 114 (.agg #[.string p, .iface T z]))) := hf
            clear q2 hz g1 g2 HT hf
            go_wp2
            go_ret
            exact ⟨⟨_, rfl, .inr ⟨HF.out, HE.out _⟩⟩, HB.out.alloc hsz _⟩
        · have HF : Hid (atsOk al = false) := by show _ = _; rw [HT.out, g1]; rfl
          have HE : Hid (∀ p : ByteArray, ∃ k, FauV k (.iface 114 (.agg #[.string p, .iface T z]))) := hf
          clear q1 hz g1 HT hf
          go_wp2
          go_ret
          exact ⟨⟨_, rfl, .inr ⟨HF.out, HE.out _⟩⟩, HB.out.alloc hsz _⟩
      · have HF : Hid (atsOk al = true) := by show _ = _; rw [ht, List.drop_of_length_le (by have := HLn.out; omega)]; rfl
        clear ht hbel
        go_wp2
        go_ret
        exact ⟨⟨_, rfl, .inl ⟨HF.out, rfl⟩⟩, HB.out⟩
  · have d1 : decide ((3 : Int) < (n : Int)) = true := decide_eq_true (by omega)
    have d2 : decide (3 < n) = true := decide_eq_true (by omega)
    have HO : Hid (atsOk al = false) := by show _ = _; unfold atsOk; rw [decide_eq_false (by omega)]; rfl
    clear ha hlen
    go_enter Tryd.func54, Tryd.ntmps54
    go_wp2
    go_ret
    exact ⟨⟨_, rfl, by rw [HO.out]; exact VkV.one _⟩, Below.refl _ _⟩

end Go.Proofs.YtopkeembbopbmaaDoor
