/- cardamomref1.letters, cardamomlaw3.Light. -/
import Derived.Test.YtopkeembbopbmaaDoorChk
namespace Go.Proofs.YtopkeembbopbmaaDoor
open Go.RowKit
set_option maxRecDepth 100000
set_option linter.unusedVariables false

set_option maxHeartbeats 1000000 in
theorem let42 (s : ByteArray) (w : World) (hm : s.size ≤ 100000) : Calls Tryd.prog 42 #[.string s, .int .i64 6] w fun r w' => r = .returned (.bool (tagOk s)) ∧ w' = w := by
  have HO : Hid (tagOk s = (decide (s.size ≤ 6) && (bl s).all low1)) := rfl
  generalize tagOk s = T at *
  go_enter Tryd.func42, Tryd.ntmps42
  go_wp2_with fail
  go_loopw [5] (fun i wr => ∃ k : Nat, k ≤ s.size ∧ i = .int .i64 k ∧ wr = w ∧ (bl s).all low1 = ((bl s).drop k).all low1) (fun i _ => s.size - (intOf i).toNat)
  case atStart => exact ⟨0, Nat.zero_le _, rfl, rfl, rfl⟩
  case round =>
    obtain ⟨k, hk, rfl, rfl, ht⟩ := hrel
    by_cases hlt : k < s.size
    · rw [bl_drop s k hlt, List.all_cons] at ht
      have HT : Hid ((bl s).all low1 = (low1 s[k].toNat && ((bl s).drop (k + 1)).all low1)) := ht
      clear ht
      by_cases g1 : s[k].toNat < 97
      · have g2 : (s[k].toNat : Int) < 97 := by omega
        have HF : Hid (T = false) := by show _ = _; rw [HO.out, HT.out]; unfold low1; rw [decide_eq_false (show ¬ 97 ≤ s[k].toNat by omega)]; simp
        clear HT g1
        go_wp2
        go_ret
        exact ⟨by rw [HF.out]; rfl, rfl⟩
      · by_cases g3 : 122 < s[k].toNat
        · have g2 : ¬ (s[k].toNat : Int) < 97 := by omega
          have g4 : (122 : Int) < (s[k].toNat : Int) := by omega
          have HF : Hid (T = false) := by show _ = _; rw [HO.out, HT.out]; unfold low1; rw [decide_eq_false (show ¬ s[k].toNat ≤ 122 by omega)]; simp
          clear HT g1 g3
          go_wp2
          go_ret
          exact ⟨by rw [HF.out]; rfl, rfl⟩
        · have g2 : 97 ≤ (s[k].toNat : Int) := by omega
          have g4 : (s[k].toNat : Int) ≤ 122 := by omega
          have HF : Hid ((bl s).all low1 = ((bl s).drop (k + 1)).all low1) := by show _ = _; rw [HT.out]; unfold low1; rw [decide_eq_true (show 97 ≤ s[k].toNat by omega), decide_eq_true (show s[k].toNat ≤ 122 by omega)]; rfl
          clear HT g1 g3
          go_wp2
          go_roundw
          case rel => exact ⟨k + 1, by omega, by go_num, by trivial, HF.out⟩
          case measure => simp [intOf]; omega
    · have HF : Hid (T = decide (s.size ≤ 6)) := by show _ = _; rw [HO.out, ht, List.drop_of_length_le (by rw [bl_len]; omega)]; simp
      clear ht
      by_cases h6 : s.size ≤ 6
      · have HG : Hid (T = true) := by show _ = _; rw [HF.out, decide_eq_true h6]
        have h61 : (s.size : Int) ≤ 6 := by omega
        have h62 : decide ((s.size : Int) ≤ 6) = true := decide_eq_true h61
        have h63 : decide (s.size ≤ 6) = true := decide_eq_true h6
        go_wp2
        go_ret
        exact ⟨by rw [HG.out]; rfl, rfl⟩
      · have HG : Hid (T = false) := by show _ = _; rw [HF.out, decide_eq_false h6]
        have h61 : ¬ (s.size : Int) ≤ 6 := by omega
        have h62 : decide ((s.size : Int) ≤ 6) = false := decide_eq_false h61
        have h63 : decide (s.size ≤ 6) = false := decide_eq_false h6
        go_wp2
        go_ret
        exact ⟨by rw [HG.out]; rfl, rfl⟩

/-- Is a version not too great? -/
def lightI (v : Vn) : Bool := decide (v.len ≤ 6) && (decide (v.tag.size ≤ 12) && decide (v.body.size ≤ 30))

set_option maxHeartbeats 1000000 in
theorem light8 (v : Vn) (w : World) (h1 : v.len ≤ maxLen) (h2 : v.tag.size ≤ maxLen) (h3 : v.body.size ≤ maxLen) : Calls Tryd.prog 8 #[v.val] w fun r w' => r = .returned (.bool (lightI v)) ∧ Below w.heap.size w w' := by
  obtain ⟨it, L, R, N, dead, ao, len, cap, tag, body⟩ := v
  unfold Vn.val lightI
  simp only at h1 h2 h3 ⊢
  by_cases g1 : len ≤ 6
  · have d1 : decide ((len : Int) ≤ 6) = true := decide_eq_true (by omega)
    by_cases g2 : tag.size ≤ 12
    · have d2 : decide ((tag.size : Int) ≤ 12) = true := decide_eq_true (by omega)
      by_cases g3 : body.size ≤ 30
      · have d3 : decide ((body.size : Int) ≤ 30) = true := decide_eq_true (by omega)
        rw [decide_eq_true g1, decide_eq_true g2, decide_eq_true g3]
        go_enter Tryd.func8, Tryd.ntmps8
        go_wp2
        go_ret
        exact ⟨by first | rfl | simp, (Below.refl _ w).alloc (Nat.le_refl _) _⟩
      · have d3 : decide ((body.size : Int) ≤ 30) = false := decide_eq_false (by omega)
        rw [decide_eq_true g1, decide_eq_true g2, decide_eq_false g3]
        go_enter Tryd.func8, Tryd.ntmps8
        go_wp2
        go_ret
        exact ⟨by first | rfl | simp, (Below.refl _ w).alloc (Nat.le_refl _) _⟩
    · have d2 : decide ((tag.size : Int) ≤ 12) = false := decide_eq_false (by omega)
      rw [decide_eq_true g1, decide_eq_false g2]
      go_enter Tryd.func8, Tryd.ntmps8
      go_wp2
      go_ret
      exact ⟨by first | rfl | simp, (Below.refl _ w).alloc (Nat.le_refl _) _⟩
  · have d1 : decide ((len : Int) ≤ 6) = false := decide_eq_false (by omega)
    rw [decide_eq_false g1]
    go_enter Tryd.func8, Tryd.ntmps8
    go_wp2
    go_ret
    exact ⟨by first | rfl | simp, (Below.refl _ w).alloc (Nat.le_refl _) _⟩

end Go.Proofs.YtopkeembbopbmaaDoor
