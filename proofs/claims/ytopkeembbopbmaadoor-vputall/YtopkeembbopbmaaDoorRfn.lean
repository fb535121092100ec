/- cardamomref16.TakeNum, TakeText: the document's own. -/
import Derived.Test.YtopkeembbopbmaaDoorTxt
namespace Go.Proofs.YtopkeembbopbmaaDoor
open Go.RowKit
set_option maxRecDepth 100000
set_option linter.unusedVariables false

theorem ref_step (acc x k : Nat) (hk : k < 5) (ha : acc < 128 ^ k) : wrap64 ((acc : Int) + wrap64 ((x : Int) % 128 * ((128 ^ k : Nat) : Int))) = ((acc + 128 ^ k * (x % 128) : Nat) : Int) := by
  have h1 := pow_le5 k (by omega)
  have h2 : 128 ^ k * (x % 128) ≤ 34359738368 * 127 := Nat.mul_le_mul h1 (by omega)
  have e : (x : Int) % 128 * ((128 ^ k : Nat) : Int) = ((128 ^ k * (x % 128) : Nat) : Int) := by
    rw [Int.natCast_mul, Int.mul_comm]
    congr 1
  rw [e]
  generalize 128 ^ k * (x % 128) = q at *
  generalize 128 ^ k = p at *
  unfold wrap64
  omega

theorem by_step (k : Nat) (hk : k < 5) : wrap64 (((128 ^ k : Nat) : Int) * 128) = ((128 ^ (k + 1) : Nat) : Int) := by
  have h1 := pow_le5 k (by omega)
  rw [Nat.pow_succ]
  generalize 128 ^ k = p at *
  unfold wrap64
  omega

set_option maxHeartbeats 1000000 in
theorem rnum13_at (b off n cap : Nat) (l : List Nat) (w : World) (hc : ∀ j, j < n → w.cell? ⟨b, off + j, none⟩ = some (.int .u8 ((l.getD j 0 : Nat) : Int))) (hlen : l.length = n) (hlt : ∀ x ∈ l, x < 256) (h0 : 0 < n) (hcap : n ≤ cap) (hn : n ≤ 100000) :
    Calls Tryd.prog 39 #[.slice (some ⟨b, off, none⟩) n cap] w fun r w' => w' = w ∧ (∀ v k, take5 l = some (v, k) → r = .returned (.tuple #[.int .i64 v, .int .i64 k, .bool true])) ∧ (take5 l = none → r = .returned (.tuple #[.int .i64 0, .int .i64 0, .bool false])) := by
  have HL : Hid (l.length = n ∧ ∀ x ∈ l, x < 256) := ⟨hlen, hlt⟩
  have HC : Hid (∀ j, j < n → w.cell? ⟨b, off + j, none⟩ = some (.int .u8 ((l.getD j 0 : Nat) : Int))) := hc
  clear hlen hlt hc
  go_enter Tryd.func39, Tryd.ntmps39
  go_wp2_with fail
  go_loop [5, 6, 7] (fun v y i => ∃ k acc p : Nat, k ≤ 5 ∧ k ≤ n ∧ v = .int .i64 acc ∧ y = .int .i64 p ∧ p = 128 ^ k ∧ i = .int .i64 k ∧ Took l k acc) (fun _ _ i => 5 - (intOf i).toNat)
  case atStart => exact ⟨0, 0, 1, by omega, by omega, rfl, rfl, rfl, rfl, took_start l⟩
  case round =>
    obtain ⟨k, acc, p, hk5, hkn, rfl, rfl, hp, rfl, hT⟩ := hrel
    have HT : Hid (Took l k acc) := hT
    have HP : Hid (p = 128 ^ k) := hp
    clear hT hp
    by_cases hend : k = n ∨ k = 5
    · have ht : Hid (take5 l = none) := took_end HT.out (by have := HL.out.1; omega)
      by_cases hkn2 : k = n
      · have h1 : ¬ (k : Int) < n := by omega
        go_wp2_with fail
        refine bodyPost_ret (v := .tuple #[.int .i64 0, .int .i64 0, .bool false]) (by simp [results, Tryd.results39, go_sem] <;> rfl) rfl ⟨rfl, fun v k h => by rw [ht.out] at h; (cases h), fun _ => rfl⟩
      · have h1 : (k : Int) < n := by omega
        obtain rfl : k = 5 := by omega
        go_wp2_with fail
        refine bodyPost_ret (v := .tuple #[.int .i64 0, .int .i64 0, .bool false]) (by simp [results, Tryd.results39, go_sem] <;> rfl) rfl ⟨rfl, fun v k h => by rw [ht.out] at h; (cases h), fun _ => rfl⟩
    · have hkm : k < n := by omega
      have hk4 : k < 5 := by omega
      have hkl : (k : Int) < n := by omega
      have hkl5 : (k : Int) < 5 := by omega
      have hck := HC.out k (by omega)
      have hbk : l.getD k 0 < 256 := by
        obtain ⟨h1, h2⟩ := HL.out
        have hkl : k < l.length := by omega
        rw [List.getD_eq_getElem?_getD, List.getElem?_eq_getElem hkl]
        exact h2 _ (List.getElem_mem hkl)
      have HK : Hid (l[k]? = some (l.getD k 0)) := by
        obtain ⟨h1, h2⟩ := HL.out
        have hkl : k < l.length := by omega
        show _ = _
        rw [List.getD_eq_getElem?_getD, List.getElem?_eq_getElem hkl]; rfl
      generalize l.getD k 0 = x at *
      by_cases hx : x < 128
      · have hx1 : (x : Int) < 128 := by omega
        have hx2 : decide ((x : Int) < 128) = true := decide_eq_true hx1
        have hx3 : decide (x < 128) = true := decide_eq_true hx
        by_cases hz : x = 0
        · subst hz
          by_cases hk0 : 0 < k
          · have ht : Hid (take5 l = none) := took_zero HT.out (by omega) HK.out hk0
            have hk1 : (0 : Int) < k := by omega
            have hk2 : decide ((0 : Int) < (k : Int)) = true := by simpa using hk1
            have hk3 : decide (0 < k) = true := by simpa using hk0
            go_wp2_with fail
            refine bodyPost_ret (v := .tuple #[.int .i64 0, .int .i64 0, .bool false]) (by simp [results, Tryd.results39, go_sem] <;> rfl) rfl ⟨rfl, fun v k h => by rw [ht.out] at h; (cases h), fun _ => rfl⟩
          · obtain rfl : k = 0 := by omega
            have ht : Hid (take5 l = some (acc + 128 ^ 0 * 0, 0 + 1)) := took_last HT.out (by omega) HK.out (by omega) (by omega)
            have ha : acc = 0 := by have := HT.out.1; simpa using this
            subst ha
            rw [Nat.add_zero] at hck
            go_wp2_with fail
            refine bodyPost_ret (v := .tuple #[.int .i64 0, .int .i64 1, .bool true]) (by simp [results, Tryd.results39, go_sem] <;> decide) rfl ⟨rfl, fun v k h => by rw [ht.out] at h; cases h; rfl, fun h => by rw [ht.out] at h; cases h⟩
        · have ht : Hid (take5 l = some (acc + 128 ^ k * x, k + 1)) := took_last HT.out (by omega) HK.out hx (by omega)
          have hz1 : ¬ (x : Int) = 0 := by omega
          have hz2 : decide ((x : Int) = 0) = false := by simpa using hz1
          have HE : Hid (wrap64 ((acc : Int) + wrap64 ((x : Int) % 128 * (p : Int))) = ((acc + 128 ^ k * x : Nat) : Int)) := by
            have := ref_step acc x k (by omega) HT.out.1
            rw [Nat.mod_eq_of_lt hx, ← HP.out] at this
            show _ = _
            rw [this, HP.out]
          go_wp2_with fail
          all_goals refine bodyPost_ret (v := .tuple #[.int .i64 ((acc + 128 ^ k * x : Nat) : Int), .int .i64 ((k + 1 : Nat) : Int), .bool true]) (by simp [results, Tryd.results39, go_sem, HE.out]) rfl ⟨rfl, fun v k h => by rw [ht.out] at h; cases h; rfl, fun h => by rw [ht.out] at h; cases h⟩
      · have hx1 : ¬ (x : Int) < 128 := by omega
        have hx2 : decide ((x : Int) < 128) = false := decide_eq_false hx1
        have hx3 : decide (x < 128) = false := decide_eq_false hx
        go_wp2_with fail
        have he : wrap64 ((acc : Int) + wrap64 ((x : Int) % 128 * (p : Int))) = ((acc + 128 ^ k * (x % 128) : Nat) : Int) := by
          have := ref_step acc x k (by omega) HT.out.1
          rwa [← HP.out] at this ⊢
        have hy := by_step k (by omega)
        rw [← HP.out] at hy
        refine ⟨⟨k + 1, acc + 128 ^ k * (x % 128), 128 ^ (k + 1), by omega, by omega, by rw [he], by rw [hy], rfl, by simp, took_more HT.out (by omega) HK.out (by omega) hbk⟩, by simp [intOf]; omega⟩

theorem rnum13_none (w : World) : Calls Tryd.prog 39 #[.slice none 0 0] w fun r w' => w' = w ∧ r = .returned (.tuple #[.int .i64 0, .int .i64 0, .bool false]) := by
  go_enter Tryd.func39, Tryd.ntmps39
  go_wp2_with fail
  refine wp_loop_rounds 1 ?_
  rw [rounds_succ]
  go_wp2_with fail
  refine bodyPost_ret (v := .tuple #[.int .i64 0, .int .i64 0, .bool false]) (by simp [results, Tryd.results39, go_sem] <;> rfl) rfl ⟨rfl, rfl⟩

theorem rnum13_empty (x : Addr) (cap : Nat) (w : World) : Calls Tryd.prog 39 #[.slice (some x) 0 cap] w fun r w' => w' = w ∧ r = .returned (.tuple #[.int .i64 0, .int .i64 0, .bool false]) := by
  go_enter Tryd.func39, Tryd.ntmps39
  go_wp2_with fail
  refine wp_loop_rounds 1 ?_
  rw [rounds_succ]
  go_wp2_with fail
  refine bodyPost_ret (v := .tuple #[.int .i64 0, .int .i64 0, .bool false]) (by simp [results, Tryd.results39, go_sem] <;> rfl) rfl ⟨rfl, rfl⟩

/-- cardamomref16.TakeNum. -/
theorem rnum13 (ao : Option Addr) (n cap : Nat) (l : List Nat) (w : World) (hr : Rb w ao n cap l) (hn : n ≤ 100000) :
    Calls Tryd.prog 39 #[.slice ao n cap] w fun r w' => w' = w ∧ (∀ v k, take5 l = some (v, k) → r = .returned (.tuple #[.int .i64 v, .int .i64 k, .bool true])) ∧ (take5 l = none → r = .returned (.tuple #[.int .i64 0, .int .i64 0, .bool false])) := by
  rcases Nat.eq_zero_or_pos n with h0 | h0
  · subst h0
    obtain rfl : l = [] := List.eq_nil_of_length_eq_zero hr.len
    cases ao with
    | none =>
      obtain rfl : cap = 0 := hr.nil rfl
      refine (rnum13_none w).mono ?_
      rintro r w' ⟨h1, h2⟩
      exact ⟨h1, fun v k h => (by cases h), fun _ => h2⟩
    | some x =>
      refine (rnum13_empty x cap w).mono ?_
      rintro r w' ⟨h1, h2⟩
      exact ⟨h1, fun v k h => (by cases h), fun _ => h2⟩
  · obtain ⟨b, off, rfl, hc⟩ := hr.at_ h0
    exact rnum13_at b off n cap l w hc hr.len hr.lt h0 hr.le hn

set_option maxHeartbeats 1000000 in
theorem rtext15_long (b off n cap : Nat) (l : List Nat) (v k : Nat) (w : World) (hr : Rb w (some ⟨b, off, none⟩) n cap l) (hn : n ≤ 100000) (ht : take5 l = some (v, k)) (hk : k ≤ n) (hk5 : k ≤ 5) (hv : v < 34359738368) (hl : v ≤ n - k) :
    Calls Tryd.prog 40 #[.slice (some ⟨b, off, none⟩) n cap] w fun r w' => w' = w ∧ r = .returned (.tuple #[.string (strs ((l.drop k).take v)), .int .i64 (k + v : Nat), .bool true]) := by
  have c1 := rnum13 _ n cap l w hr hn
  rw [ht] at c1
  have HR : Hid (Rb w (some ⟨b, off, none⟩) n cap l) := hr
  have hcap := hr.le
  clear hr
  have hl1 : ¬ (n : Int) - k < v := by omega
  have hl2 : decide ((n : Int) - k < v) = false := decide_eq_false hl1
  have cv := conv_rb (rb_part HR.out k v (by omega))
  go_enter Tryd.func40, Tryd.ntmps40
  go_wp2_with fail
  refine c1.mono ?_
  rintro r w1 ⟨rfl, h1, _⟩
  obtain rfl := h1 v k (by first | rfl | trivial)
  clear c1 h1
  by_cases hck : cap = k
  · obtain rfl : n = k := by omega
    obtain rfl : v = 0 := by omega
    have cz := fun x c => conv_none (w := w1) x c
    clear cv
    go_wp2_with fail
    refine bodyPost_ret (v := .tuple #[.string ⟨#[]⟩, .int .i64 n, .bool true]) (by simp [results, Tryd.results40, go_sem]) rfl ⟨rfl, ?_⟩
    rw [List.take_zero]; rfl
  · go_wp2_with fail
    refine bodyPost_ret (v := .tuple #[.string (strs ((l.drop k).take v)), .int .i64 (k + v : Nat), .bool true]) (by simp [results, Tryd.results40, go_sem]) rfl ⟨rfl, rfl⟩

set_option maxHeartbeats 1000000 in
theorem rtext15_less (ao : Option Addr) (n cap : Nat) (l : List Nat) (v k : Nat) (w : World) (hr : Rb w ao n cap l) (hn : n ≤ 100000) (ht : take5 l = some (v, k)) (hk : k ≤ n) (hk5 : k ≤ 5) (hv : v < 34359738368) (hl : n - k < v) :
    Calls Tryd.prog 40 #[.slice ao n cap] w fun r w' => w' = w ∧ r = .returned (.tuple #[.string ⟨#[]⟩, .int .i64 0, .bool false]) := by
  have c1 := rnum13 _ n cap l w hr hn
  rw [ht] at c1
  have hl1 : (n : Int) - k < v := by omega
  have hl2 : decide ((n : Int) - k < v) = true := decide_eq_true hl1
  clear hr
  go_enter Tryd.func40, Tryd.ntmps40
  go_wp2_with fail
  refine c1.mono ?_
  rintro r w1 ⟨rfl, h1, _⟩
  obtain rfl := h1 v k (by first | rfl | trivial)
  clear c1 h1
  go_wp2_with fail
  refine bodyPost_ret (v := .tuple #[.string ⟨#[]⟩, .int .i64 0, .bool false]) (by simp [results, Tryd.results40, go_sem] <;> rfl) rfl ⟨rfl, rfl⟩

set_option maxHeartbeats 1000000 in
theorem rtext15_no (ao : Option Addr) (n cap : Nat) (l : List Nat) (w : World) (hr : Rb w ao n cap l) (hn : n ≤ 100000) (ht : take5 l = none) :
    Calls Tryd.prog 40 #[.slice ao n cap] w fun r w' => w' = w ∧ r = .returned (.tuple #[.string ⟨#[]⟩, .int .i64 0, .bool false]) := by
  have c1 := rnum13 _ n cap l w hr hn
  rw [ht] at c1
  clear hr
  go_enter Tryd.func40, Tryd.ntmps40
  go_wp2_with fail
  refine c1.mono ?_
  rintro r w1 ⟨rfl, _, h2⟩
  obtain rfl := h2 (by first | rfl | trivial)
  clear c1 h2
  go_wp2_with fail
  refine bodyPost_ret (v := .tuple #[.string ⟨#[]⟩, .int .i64 0, .bool false]) (by simp [results, Tryd.results40, go_sem] <;> rfl) rfl ⟨rfl, rfl⟩

/-- cardamomref16.TakeText. -/
theorem rtext15 (ao : Option Addr) (n cap : Nat) (l : List Nat) (w : World) (hr : Rb w ao n cap l) (hn : n ≤ 100000) :
    Calls Tryd.prog 40 #[.slice ao n cap] w fun r w' => w' = w ∧ (∀ t k, tkText l = some (t, k) → r = .returned (.tuple #[.string (strs t), .int .i64 k, .bool true])) ∧ (tkText l = none → r = .returned (.tuple #[.string ⟨#[]⟩, .int .i64 0, .bool false])) := by
  unfold tkText
  cases ht : take5 l with
  | none =>
    refine (rtext15_no ao n cap l w hr hn ht).mono ?_
    rintro r w' ⟨h1, h2⟩
    exact ⟨h1, fun t k h => (by cases h), fun _ => h2⟩
  | some vk =>
    obtain ⟨v, k⟩ := vk
    obtain ⟨h1, h2, _, h4, h5⟩ := take5_le hr.lt ht
    have hlen := hr.len
    by_cases hl : l.length - k < v
    · refine (rtext15_less ao n cap l v k w hr hn ht (by omega) h5 h4 (by omega)).mono ?_
      rintro r w' ⟨q1, q2⟩
      exact ⟨q1, fun t k h => (by simp only [if_pos hl] at h; cases h), fun _ => q2⟩
    · obtain ⟨b, off, rfl, _⟩ := hr.at_ (by omega)
      refine (rtext15_long b off n cap l v k w hr hn ht (by omega) h5 h4 (by omega)).mono ?_
      rintro r w' ⟨q1, q2⟩
      exact ⟨q1, fun t k h => (by simp only [if_neg hl] at h; cases h; exact q2), fun h => (by simp only [if_neg hl] at h; cases h)⟩

end Go.Proofs.YtopkeembbopbmaaDoor
