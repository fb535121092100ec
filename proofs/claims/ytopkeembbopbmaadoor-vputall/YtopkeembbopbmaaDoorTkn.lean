/- bits.num: what a row of bytes begins with. -/
import Derived.Test.YtopkeembbopbmaaDoorNum
import Derived.Test.YtopkeembbopbmaaDoorStp
import Derived.BigQuiet
import Derived.Handy
import Derived.Laws.ShiftsVar
namespace Go.Proofs.YtopkeembbopbmaaDoor
open Go.RowKit
set_option maxRecDepth 100000
set_option linter.unusedVariables false

/-- A round's sum. -/
theorem or_step (acc x k : Nat) (hk : k < 5) (ha : acc < 128 ^ k) : bits .or .i64 (acc : Int) (wrap64 ((x : Int) % 128 * 2 ^ (7 * k))) = ((acc + 128 ^ k * (x % 128) : Nat) : Int) := by
  have e : (x : Int) % 128 = ((x % 128 : Nat) : Int) := by omega
  have h := shl_more (x % 128) k hk (by omega)
  rw [IntKind.wrap_i64] at h
  rw [e]
  have h2 : wrap64 (((x % 128 : Nat) : Int) * 2 ^ (7 * k)) = ((128 ^ k * (x % 128) : Nat) : Int) := by
    unfold wrap64; exact h
  rw [h2]
  exact or_more acc (x % 128) k hk ha (by omega)

theorem below_dN (w : World) (q : Nat) : Below w.heap.size w (w.drewN q) := ⟨rfl, rfl, rfl, Nat.le_refl _, fun _ _ => rfl⟩

set_option maxHeartbeats 1000000 in
theorem num16_few (a : Addr) (b off n cap : Nat) (l : List Nat) (w : World) (hc : ∀ j, j < n → w.cell? ⟨b, off + j, none⟩ = some (.int .u8 ((l.getD j 0 : Nat) : Int))) (hlen : l.length = n) (hlt : ∀ x ∈ l, x < 256) (h0 : 0 < n) (hcap : n ≤ cap) (hn : n ≤ 100000) (hg : w.cell? ⟨1, 0, none⟩ = some (.iface 135 (.pointer (some a)))) (hw : n ≤ 5) :
    Calls Tryd.prog 57 #[.slice (some ⟨b, off, none⟩) n cap] w fun r w' => Below w.heap.size w w' ∧ (∀ v k, take5 l = some (v, k) → r = .returned (.tuple #[.int .i64 v, .int .i64 k, .nilIface])) ∧ (take5 l = none → ∃ p, r = .returned (.tuple #[.int .i64 0, .int .i64 0, .iface 127 (.agg #[.string p, .iface 135 (.pointer (some a))])])) := by
  have HL : Hid (l.length = n ∧ ∀ x ∈ l, x < 256) := ⟨hlen, hlt⟩
  have HC : Hid (∀ j, j < n → w.cell? ⟨b, off + j, none⟩ = some (.int .u8 ((l.getD j 0 : Nat) : Int))) := hc
  clear hlen hlt hc
  have hmax : (max 5 0 : Int) = 5 := by decide
  go_enter Tryd.func57, Tryd.ntmps57
  go_wp2_with fail
  go_loop [2, 13] (fun v i => ∃ k acc : Nat, k ≤ 5 ∧ k ≤ n ∧ v = .int .i64 acc ∧ i = .int .i64 k ∧ Took l k acc) (fun _ i => 5 - (intOf i).toNat)
  case atStart => exact ⟨0, 0, by omega, by omega, rfl, rfl, took_start l⟩
  case round =>
    obtain ⟨k, acc, hk5, hkn, rfl, rfl, hT⟩ := hrel
    have HT : Hid (Took l k acc) := hT
    clear hT
    by_cases hend : k = n
    · have ht : Hid (take5 l = none) := took_end HT.out (by have := HL.out.1; omega)
      subst hend
      go_wp2_with fail
      go_quiet (fail)
      go_wp2
      refine bodyPost_ret (v := .tuple #[.int .i64 0, .int .i64 0, .iface 127 (.agg #[.string _, .iface 135 (.pointer (some a))])]) (by simp [results, Tryd.results57, go_sem] <;> rfl) rfl ⟨below_dN w _, fun v k h => by rw [ht.out] at h; (cases h), fun _ => ⟨_, rfl⟩⟩
    · have hkm : k < n := by omega
      have hkl : (k : Int) < n := by omega
      have hck := HC.out k (by omega)
      have hbk : l.getD k 0 < 256 := by
        obtain ⟨h1, h2⟩ := HL.out
        have hkl : k < l.length := by omega
        rw [List.getD_eq_getElem?_getD, List.getElem?_eq_getElem hkl]
        exact h2 _ (List.getElem_mem hkl)
      have HK : Hid (l[k]? = some (l.getD k 0)) := by
        obtain ⟨h1, h2⟩ := HL.out
        have hkl : k < l.length := by omega
        show _ = _
        rw [List.getD_eq_getElem?_getD, List.getElem?_eq_getElem hkl]; rfl
      generalize l.getD k 0 = x at *
      by_cases hx : x < 128
      · have hx1 : ¬ (128 : Int) ≤ x := by omega
        have hx2 : decide ((128 : Int) ≤ (x : Int)) = false := decide_eq_false hx1
        have hx3 : decide (128 ≤ x) = false := decide_eq_false (by omega)
        by_cases hz : x = 0
        · subst hz
          by_cases hk0 : 0 < k
          · have ht : Hid (take5 l = none) := took_zero HT.out (by omega) HK.out hk0
            have hk1 : (0 : Int) < k := by omega
            have hk2 : decide ((0 : Int) < (k : Int)) = true := by simpa using hk1
            have hk3 : decide (0 < k) = true := by simpa using hk0
            go_wp2_with fail
            go_quiet (fail)
            go_wp2
            refine bodyPost_ret (v := .tuple #[.int .i64 0, .int .i64 0, .iface 127 (.agg #[.string _, .iface 135 (.pointer (some a))])]) (by simp [results, Tryd.results57, go_sem] <;> rfl) rfl ⟨below_dN w _, fun v k h => by rw [ht.out] at h; (cases h), fun _ => ⟨_, rfl⟩⟩
          · obtain rfl : k = 0 := by omega
            have ht : Hid (take5 l = some (acc + 128 ^ 0 * 0, 0 + 1)) := took_last HT.out (by omega) HK.out (by omega) (by omega)
            have ha : acc = 0 := by have := HT.out.1; simpa using this
            subst ha
            rw [Nat.add_zero] at hck
            go_wp2_with fail
            refine bodyPost_ret (v := .tuple #[.int .i64 0, .int .i64 1, .nilIface]) (by simp [results, Tryd.results57, go_sem] <;> decide) rfl ⟨Below.refl _ _, fun v k h => by rw [ht.out] at h; cases h; rfl, fun h => by rw [ht.out] at h; cases h⟩
        · have ht : Hid (take5 l = some (acc + 128 ^ k * x, k + 1)) := took_last HT.out (by omega) HK.out hx (by omega)
          have hz1 : ¬ (x : Int) = 0 := by omega
          have hz2 : decide ((x : Int) = 0) = false := by simpa using hz1
          have he : bits .or .i64 (acc : Int) (wrap64 ((x : Int) % 128 * 2 ^ (7 * k))) = ((acc + 128 ^ k * x : Nat) : Int) := by
            have := or_step acc x k (by omega) HT.out.1
            rwa [Nat.mod_eq_of_lt hx] at this
          have HE : Hid (bits .or .i64 (acc : Int) (wrap64 ((x : Int) % 128 * 2 ^ (7 * k))) = ((acc + 128 ^ k * x : Nat) : Int)) := he
          clear he
          go_wp2_with fail
          go_wp2
          refine bodyPost_ret (v := .tuple #[.int .i64 ((acc + 128 ^ k * x : Nat) : Int), .int .i64 ((k + 1 : Nat) : Int), .nilIface]) (by simp [results, Tryd.results57, go_sem, HE.out]) rfl ⟨Below.refl _ _, fun v k h => by rw [ht.out] at h; cases h; rfl, fun h => by rw [ht.out] at h; cases h⟩
      · have hx1 : (128 : Int) ≤ x := by omega
        have hx2 : decide ((128 : Int) ≤ (x : Int)) = true := by simpa using hx1
        have hx3 : decide (128 ≤ x) = true := by simpa using Nat.le_of_not_lt hx
        go_wp2_with fail
        have he := or_step acc x k (by omega) HT.out.1
        refine ⟨⟨k + 1, acc + 128 ^ k * (x % 128), by omega, by omega, by rw [he], by simp, took_more HT.out (by omega) HK.out (by omega) hbk⟩, by simp [intOf]; omega⟩

set_option maxHeartbeats 1000000 in
theorem num16_many (a : Addr) (b off n cap : Nat) (l : List Nat) (w : World) (hc : ∀ j, j < n → w.cell? ⟨b, off + j, none⟩ = some (.int .u8 ((l.getD j 0 : Nat) : Int))) (hlen : l.length = n) (hlt : ∀ x ∈ l, x < 256) (h0 : 0 < n) (hcap : n ≤ cap) (hn : n ≤ 100000) (hg : w.cell? ⟨1, 0, none⟩ = some (.iface 135 (.pointer (some a)))) (hw : 5 < n) :
    Calls Tryd.prog 57 #[.slice (some ⟨b, off, none⟩) n cap] w fun r w' => Below w.heap.size w w' ∧ (∀ v k, take5 l = some (v, k) → r = .returned (.tuple #[.int .i64 v, .int .i64 k, .nilIface])) ∧ (take5 l = none → ∃ p, r = .returned (.tuple #[.int .i64 0, .int .i64 0, .iface 127 (.agg #[.string p, .iface 135 (.pointer (some a))])])) := by
  have HL : Hid (l.length = n ∧ ∀ x ∈ l, x < 256) := ⟨hlen, hlt⟩
  have HC : Hid (∀ j, j < n → w.cell? ⟨b, off + j, none⟩ = some (.int .u8 ((l.getD j 0 : Nat) : Int))) := hc
  clear hlen hlt hc
  have hmax : (max 5 0 : Int) = 5 := by decide
  go_enter Tryd.func57, Tryd.ntmps57
  go_wp2_with fail
  go_loop [2, 13] (fun v i => ∃ k acc : Nat, k ≤ 5 ∧ k ≤ n ∧ v = .int .i64 acc ∧ i = .int .i64 k ∧ Took l k acc) (fun _ i => 5 - (intOf i).toNat)
  case atStart => exact ⟨0, 0, by omega, by omega, rfl, rfl, took_start l⟩
  case round =>
    obtain ⟨k, acc, hk5, hkn, rfl, rfl, hT⟩ := hrel
    have HT : Hid (Took l k acc) := hT
    clear hT
    by_cases hend : k = 5
    · have ht : Hid (take5 l = none) := took_end HT.out (by have := HL.out.1; omega)
      subst hend
      go_wp2_with fail
      go_quiet (fail)
      go_wp2
      refine bodyPost_ret (v := .tuple #[.int .i64 0, .int .i64 0, .iface 127 (.agg #[.string _, .iface 135 (.pointer (some a))])]) (by simp [results, Tryd.results57, go_sem] <;> rfl) rfl ⟨below_dN w _, fun v k h => by rw [ht.out] at h; (cases h), fun _ => ⟨_, rfl⟩⟩
    · have hkm : k < 5 := by omega
      have hkl : (k : Int) < 5 := by omega
      have hck := HC.out k (by omega)
      have hbk : l.getD k 0 < 256 := by
        obtain ⟨h1, h2⟩ := HL.out
        have hkl : k < l.length := by omega
        rw [List.getD_eq_getElem?_getD, List.getElem?_eq_getElem hkl]
        exact h2 _ (List.getElem_mem hkl)
      have HK : Hid (l[k]? = some (l.getD k 0)) := by
        obtain ⟨h1, h2⟩ := HL.out
        have hkl : k < l.length := by omega
        show _ = _
        rw [List.getD_eq_getElem?_getD, List.getElem?_eq_getElem hkl]; rfl
      generalize l.getD k 0 = x at *
      by_cases hx : x < 128
      · have hx1 : ¬ (128 : Int) ≤ x := by omega
        have hx2 : decide ((128 : Int) ≤ (x : Int)) = false := decide_eq_false hx1
        have hx3 : decide (128 ≤ x) = false := decide_eq_false (by omega)
        by_cases hz : x = 0
        · subst hz
          by_cases hk0 : 0 < k
          · have ht : Hid (take5 l = none) := took_zero HT.out (by omega) HK.out hk0
            have hk1 : (0 : Int) < k := by omega
            have hk2 : decide ((0 : Int) < (k : Int)) = true := by simpa using hk1
            have hk3 : decide (0 < k) = true := by simpa using hk0
            go_wp2_with fail
            go_quiet (fail)
            go_wp2
            refine bodyPost_ret (v := .tuple #[.int .i64 0, .int .i64 0, .iface 127 (.agg #[.string _, .iface 135 (.pointer (some a))])]) (by simp [results, Tryd.results57, go_sem] <;> rfl) rfl ⟨below_dN w _, fun v k h => by rw [ht.out] at h; (cases h), fun _ => ⟨_, rfl⟩⟩
          · obtain rfl : k = 0 := by omega
            have ht : Hid (take5 l = some (acc + 128 ^ 0 * 0, 0 + 1)) := took_last HT.out (by omega) HK.out (by omega) (by omega)
            have ha : acc = 0 := by have := HT.out.1; simpa using this
            subst ha
            rw [Nat.add_zero] at hck
            go_wp2_with fail
            refine bodyPost_ret (v := .tuple #[.int .i64 0, .int .i64 1, .nilIface]) (by simp [results, Tryd.results57, go_sem] <;> decide) rfl ⟨Below.refl _ _, fun v k h => by rw [ht.out] at h; cases h; rfl, fun h => by rw [ht.out] at h; cases h⟩
        · have ht : Hid (take5 l = some (acc + 128 ^ k * x, k + 1)) := took_last HT.out (by omega) HK.out hx (by omega)
          have hz1 : ¬ (x : Int) = 0 := by omega
          have hz2 : decide ((x : Int) = 0) = false := by simpa using hz1
          have he : bits .or .i64 (acc : Int) (wrap64 ((x : Int) % 128 * 2 ^ (7 * k))) = ((acc + 128 ^ k * x : Nat) : Int) := by
            have := or_step acc x k (by omega) HT.out.1
            rwa [Nat.mod_eq_of_lt hx] at this
          have HE : Hid (bits .or .i64 (acc : Int) (wrap64 ((x : Int) % 128 * 2 ^ (7 * k))) = ((acc + 128 ^ k * x : Nat) : Int)) := he
          clear he
          go_wp2_with fail
          go_wp2
          refine bodyPost_ret (v := .tuple #[.int .i64 ((acc + 128 ^ k * x : Nat) : Int), .int .i64 ((k + 1 : Nat) : Int), .nilIface]) (by simp [results, Tryd.results57, go_sem, HE.out]) rfl ⟨Below.refl _ _, fun v k h => by rw [ht.out] at h; cases h; rfl, fun h => by rw [ht.out] at h; cases h⟩
      · have hx1 : (128 : Int) ≤ x := by omega
        have hx2 : decide ((128 : Int) ≤ (x : Int)) = true := by simpa using hx1
        have hx3 : decide (128 ≤ x) = true := by simpa using Nat.le_of_not_lt hx
        go_wp2_with fail
        have he := or_step acc x k (by omega) HT.out.1
        refine ⟨⟨k + 1, acc + 128 ^ k * (x % 128), by omega, by omega, by rw [he], by simp, took_more HT.out (by omega) HK.out (by omega) hbk⟩, by simp [intOf]; omega⟩

end Go.Proofs.YtopkeembbopbmaaDoor
