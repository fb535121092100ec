/- The leaves' contracts: prefixes, attributes. -/
import Derived.Test.YtflpdekifkcfkaaProg
import Derived.Test.YtflpdekifkcfkaaRep
import Derived.WalkKit
import Derived.WalkSpells
import Derived.WalkLawsBesides
import Derived.Handy
namespace Go.Proofs.Ytflpdekifkcfkaa
open Go.RowKit
set_option linter.unusedVariables false

set_option maxHeartbeats 400000 in
theorem prefix33 (s p : ByteArray) (w : World) (hs : s.size ≤ 1000) (hp : p.size ≤ 1000) :
    Calls Try.prog 49 #[.string s, .string p] w fun e w' => e = .returned (.bool (Ev.begins s p)) ∧ w' = w := by
  by_cases h : p.size ≤ s.size
  · have hb : Ev.begins s p = ((s.extract 0 p.size).toList == p.toList) := by unfold Ev.begins; simp [h]
    rw [hb]
    clear hb
    go_enter Try.func49, Try.ntmps49
    go_wp2
    go_ret
    exact ⟨rfl, rfl⟩
  · have hb : Ev.begins s p = false := by unfold Ev.begins; simp [h]
    rw [hb]
    clear hb
    go_enter Try.func49, Try.ntmps49
    go_wp2
    go_ret
    exact ⟨rfl, rfl⟩

set_option maxHeartbeats 400000 in
theorem prefix28 (s p : ByteArray) (w : World) (hs : s.size ≤ 1000) (hp : p.size ≤ 1000) :
    Calls Try.prog 31 #[.string s, .string p] w fun e w' => e = .returned (.bool (Ev.begins s p)) ∧ w' = w := by
  have c := fun w => prefix33 s p w hs hp
  go_enter Try.func31, Try.ntmps31
  go_wp2_with fail
  refine (c _).mono ?_
  rintro e w' ⟨rfl, rfl⟩
  go_wp2
  go_ret
  exact ⟨rfl, rfl⟩

set_option maxHeartbeats 400000 in
theorem begins22 (s p : ByteArray) (w : World) (hs : s.size ≤ 1000) (hp : p.size ≤ 1000) :
    Calls Try.prog 34 #[.string s, .string p] w fun e w' => e = .returned (.bool (Ev.begins s p)) ∧ w' = w := by
  by_cases h : p.size ≤ s.size
  · have hb : Ev.begins s p = ((s.extract 0 p.size).toList == p.toList) := by unfold Ev.begins; simp [h]
    rw [hb]
    clear hb
    go_enter Try.func34, Try.ntmps34
    go_wp2
    go_ret
    exact ⟨rfl, rfl⟩
  · have hb : Ev.begins s p = false := by unfold Ev.begins; simp [h]
    rw [hb]
    clear hb
    go_enter Try.func34, Try.ntmps34
    go_wp2
    go_ret
    exact ⟨rfl, rfl⟩

/-- A version as Go hands it over. -/
def Vs.val (v : Vs) : Value := .agg #[.int .i64 v.it, .int .i64 v.L, .int .i64 v.R, .int .i64 v.N, .bool v.dead, .slice v.ao v.len v.cap, .string v.tag, .string v.body]

/-- A key's value as Go hands it over. -/
def attrV (o : Option Int) : Value := .tuple #[.int .i64 (o.getD 0), .bool o.isSome]

set_option maxHeartbeats 1000000 in
theorem attr32 (v : Vs) (al : List (Int × Int)) (key : Int) (w : World) (hv : Has Any w v al) :
    Calls Try.prog 86 #[v.val, .int .i64 key] w fun e w' => e = .returned (attrV (Ev.attr al key)) ∧ Below w.heap.size w w' := by
  obtain ⟨it, L, R, N, dead, ao, len, cap, tag, body⟩ := v
  obtain ⟨rfl, h1, h2, h3⟩ := hv
  simp only at h1 h2 h3
  unfold Vs.val
  simp only
  go_enter Try.func86, Try.ntmps86
  go_wp2
  go_loopw [11] (fun i wr => ∃ k : Nat, k ≤ al.length ∧ i = .int .i64 k ∧ Ev.Unseen al key k ∧ Below w.heap.size w wr) (fun i _ => al.length - (intOf i).toNat)
  case atStart => exact ⟨0, by omega, rfl, Ev.Unseen.zero _ _, (Below.refl _ _).alloc (Nat.le_refl _) _⟩
  case round =>
    obtain ⟨k, hk, rfl, hun, hbel⟩ := hrel
    by_cases hlt : k < al.length
    · obtain ⟨b, rfl, _, hb, hc⟩ := h3 (by omega)
      have q0 : wr.cell? ⟨b, k * 2, none⟩ = some (.int .i64 (al[k]).1) := (hbel.cell hb).trans (hc k hlt).1
      have q1 : wr.cell? ⟨b, k * 2 + 1, none⟩ = some (.int .i64 (al[k]).2) := (hbel.cell hb).trans (hc k hlt).2
      have hbs := hbel.size
      clear hc h3
      by_cases he : (al[k]).1 = key
      · have hf := hun.found hlt he
        have he' : ((al[k]).1 == key) = true := beq_iff_eq.2 he
        have HF : Hid _ := hf
        clear hf hun he
        go_wp2
        go_ret2
        exact ⟨by rw [HF.out]; rfl, hbel.alloc hbs _⟩
      · have hf := hun.succ hlt he
        have he' : ((al[k]).1 == key) = false := beq_eq_false_iff_ne.2 he
        clear hun he
        go_wp2
        go_roundw
        case rel => exact ⟨k + 1, by omega, by go_num, hf, hbel.alloc hbs _⟩
        case measure => simp [intOf]; omega
    · have hf := hun.none (by omega)
      have HF : Hid _ := hf
      clear hf hun h3
      go_wp2
      go_ret2
      exact ⟨by rw [HF.out]; rfl, hbel⟩

set_option maxHeartbeats 1000000 in
theorem attr21 (v : Vs) (al : List (Int × Int)) (key : Int) (w : World) (hv : Has Any w v al) :
    Calls Try.prog 33 #[v.val, .int .i64 key] w fun e w' => e = .returned (attrV (Ev.attr al key)) ∧ Below w.heap.size w w' := by
  obtain ⟨it, L, R, N, dead, ao, len, cap, tag, body⟩ := v
  obtain ⟨rfl, h1, h2, h3⟩ := hv
  simp only at h1 h2 h3
  unfold Vs.val
  simp only
  go_enter Try.func33, Try.ntmps33
  go_wp2
  go_loop [6] (fun i => ∃ k : Nat, k ≤ al.length ∧ i = .int .i64 k ∧ Ev.Unseen al key k) (fun i => al.length - (intOf i).toNat)
  case atStart => exact ⟨0, by omega, rfl, Ev.Unseen.zero _ _⟩
  case round =>
    obtain ⟨k, hk, rfl, hun⟩ := hrel
    by_cases hlt : k < al.length
    · obtain ⟨b, rfl, _, hb, hc⟩ := h3 (by omega)
      obtain ⟨q0, q1⟩ := hc k hlt
      clear hc h3
      by_cases he : (al[k]).1 = key
      · have hf := hun.found hlt he
        have he' : ((al[k]).1 == key) = true := beq_iff_eq.2 he
        have HF : Hid _ := hf
        clear hf hun he
        go_wp2
        go_ret2
        exact ⟨by rw [HF.out]; rfl, (Below.refl _ _).alloc (Nat.le_refl _) _⟩
      · have hf := hun.succ hlt he
        have he' : ((al[k]).1 == key) = false := beq_eq_false_iff_ne.2 he
        clear hun he
        go_wp2
        go_round
        case rel => exact ⟨k + 1, by omega, by go_num, hf⟩
        case measure => simp [intOf]; omega
    · have hf := hun.none (by omega)
      have HF : Hid _ := hf
      clear hf hun h3
      go_wp2
      go_ret2
      exact ⟨by rw [HF.out]; rfl, (Below.refl _ _).alloc (Nat.le_refl _) _⟩

theorem between_some {al : List (Int × Int)} {key lo hi n : Int} (h : Ev.attr al key = some n) : Ev.between al key lo hi = (decide (lo ≤ n) && decide (n ≤ hi)) := by unfold Ev.between; rw [h]
theorem between_none {al : List (Int × Int)} {key lo hi : Int} (h : Ev.attr al key = none) : Ev.between al key lo hi = false := by unfold Ev.between; rw [h]

set_option maxHeartbeats 1000000 in
theorem between27 (v : Vs) (al : List (Int × Int)) (key lo hi : Int) (w : World) (hv : Has Any w v al) :
    Calls Try.prog 73 #[v.val, .int .i64 key, .int .i64 lo, .int .i64 hi] w fun e w' => e = .returned (.bool (Ev.between al key lo hi)) ∧ Below w.heap.size w w' := by
  have c := fun w' (hb : Below w.heap.size w w') => attr32 v al key w' (hv.below hb)
  unfold attrV at c
  cases ha : Ev.attr al key with
  | none =>
    rw [between_none ha]
    rw [ha] at c
    clear ha hv
    unfold Vs.val at c ⊢
    go_enter Try.func73, Try.ntmps73
    go_wp2_with fail
    refine (c _ ((Below.refl _ _).alloc (Nat.le_refl _) _)).mono ?_
    rintro e w1 ⟨rfl, hb⟩
    clear c
    go_wp2
    go_ret
    exact ⟨rfl, ((Below.refl _ _).alloc (Nat.le_refl _) _).trans (hb.mono (by simp))⟩
  | some n =>
    rw [between_some ha]
    rw [ha] at c
    clear ha hv
    unfold Vs.val at c ⊢
    by_cases h1 : lo ≤ n
    · have h1' : decide (lo ≤ n) = true := decide_eq_true h1
      rw [h1', Bool.true_and]
      go_enter Try.func73, Try.ntmps73
      go_wp2_with fail
      refine (c _ ((Below.refl _ _).alloc (Nat.le_refl _) _)).mono ?_
      rintro e w1 ⟨rfl, hb⟩
      clear c
      go_wp2
      go_ret
      exact ⟨rfl, ((Below.refl _ _).alloc (Nat.le_refl _) _).trans (hb.mono (by simp))⟩
    · have h1' : decide (lo ≤ n) = false := decide_eq_false h1
      rw [h1', Bool.false_and]
      go_enter Try.func73, Try.ntmps73
      go_wp2_with fail
      refine (c _ ((Below.refl _ _).alloc (Nat.le_refl _) _)).mono ?_
      rintro e w1 ⟨rfl, hb⟩
      clear c
      go_wp2
      go_ret
      exact ⟨rfl, ((Below.refl _ _).alloc (Nat.le_refl _) _).trans (hb.mono (by simp))⟩

end Go.Proofs.Ytflpdekifkcfkaa
