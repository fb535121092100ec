/- The leaves' contracts: prefixes, attributes. -/
import Derived.Test.YtflpdekifkcfkabProg
import Derived.Test.YtflpdekifkcfkabRep
import Derived.WalkKit
import Derived.WalkSpells
import Derived.WalkLawsBesides
import Derived.Handy
namespace Go.Proofs.Ytflpdekifkcfkab
open Go.RowKit
set_option linter.unusedVariables false

set_option maxHeartbeats 400000 in
theorem prefix33 (s p : ByteArray) (w : World) (hs : s.size ≤ 1000) (hp : p.size ≤ 1000) :
    Calls Try.prog 40 #[.string s, .string p] w fun e w' => e = .returned (.bool (Ev.begins s p)) ∧ w' = w := by
  by_cases h : p.size ≤ s.size
  · have hb : Ev.begins s p = ((s.extract 0 p.size).toList == p.toList) := by unfold Ev.begins; simp [h]
    rw [hb]
    clear hb
    go_enter Try.func40, Try.ntmps40
    go_wp2
    go_ret
    exact ⟨rfl, rfl⟩
  · have hb : Ev.begins s p = false := by unfold Ev.begins; simp [h]
    rw [hb]
    clear hb
    go_enter Try.func40, Try.ntmps40
    go_wp2
    go_ret
    exact ⟨rfl, rfl⟩

set_option maxHeartbeats 400000 in
theorem prefix28 (s p : ByteArray) (w : World) (hs : s.size ≤ 1000) (hp : p.size ≤ 1000) :
    Calls Try.prog 25 #[.string s, .string p] w fun e w' => e = .returned (.bool (Ev.begins s p)) ∧ w' = w := by
  have c := fun w => prefix33 s p w hs hp
  go_enter Try.func25, Try.ntmps25
  go_wp2_with fail
  refine (c _).mono ?_
  rintro e w' ⟨rfl, rfl⟩
  go_wp2
  go_ret
  exact ⟨rfl, rfl⟩

set_option maxHeartbeats 400000 in
theorem begins22 (s p : ByteArray) (w : World) (hs : s.size ≤ 1000) (hp : p.size ≤ 1000) :
    Calls Try.prog 27 #[.string s, .string p] w fun e w' => e = .returned (.bool (Ev.begins s p)) ∧ w' = w := by
  by_cases h : p.size ≤ s.size
  · have hb : Ev.begins s p = ((s.extract 0 p.size).toList == p.toList) := by unfold Ev.begins; simp [h]
    rw [hb]
    clear hb
    go_enter Try.func27, Try.ntmps27
    go_wp2
    go_ret
    exact ⟨rfl, rfl⟩
  · have hb : Ev.begins s p = false := by unfold Ev.begins; simp [h]
    rw [hb]
    clear hb
    go_enter Try.func27, Try.ntmps27
    go_wp2
    go_ret
    exact ⟨rfl, rfl⟩

/-- A version as Go hands it over. -/
def Vs.val (v : Vs) : Value := .agg #[.int .i64 v.it, .int .i64 v.L, .int .i64 v.R, .int .i64 v.N, .bool v.dead, .slice v.ao v.len v.cap, .string v.tag, .string v.body]

/-- A key's value as Go hands it over. -/
def attrV (o : Option Int) : Value := .tuple #[.int .i64 (o.getD 0), .bool o.isSome]

set_option maxHeartbeats 1000000 in
theorem attr21 (v : Vs) (al : List (Int × Int)) (key : Int) (w : World) (hv : Has Any w v al) :
    Calls Try.prog 32 #[v.val, .int .i64 key] w fun e w' => e = .returned (attrV (Ev.attr al key)) ∧ Below w.heap.size w w' := by
  obtain ⟨it, L, R, N, dead, ao, len, cap, tag, body⟩ := v
  obtain ⟨rfl, h1, h2, h3⟩ := hv
  simp only at h1 h2 h3
  unfold Vs.val
  simp only
  go_enter Try.func32, Try.ntmps32
  go_wp2
  go_loop [6] (fun i => ∃ k : Nat, k ≤ al.length ∧ i = .int .i64 k ∧ Ev.Unseen al key k) (fun i => al.length - (intOf i).toNat)
  case atStart => exact ⟨0, by omega, rfl, Ev.Unseen.zero _ _⟩
  case round =>
    obtain ⟨k, hk, rfl, hun⟩ := hrel
    by_cases hlt : k < al.length
    · obtain ⟨b, rfl, _, hb, hc⟩ := h3 (by omega)
      obtain ⟨q0, q1⟩ := hc k hlt
      clear hc h3
      by_cases he : (al[k]).1 = key
      · have hf := hun.found hlt he
        have he' : ((al[k]).1 == key) = true := beq_iff_eq.2 he
        have HF : Hid _ := hf
        clear hf hun he
        go_wp2
        go_ret2
        exact ⟨by rw [HF.out]; rfl, (Below.refl _ _).alloc (Nat.le_refl _) _⟩
      · have hf := hun.succ hlt he
        have he' : ((al[k]).1 == key) = false := beq_eq_false_iff_ne.2 he
        clear hun he
        go_wp2
        go_round
        case rel => exact ⟨k + 1, by omega, by go_num, hf⟩
        case measure => simp [intOf]; omega
    · have hf := hun.none (by omega)
      have HF : Hid _ := hf
      clear hf hun h3
      go_wp2
      go_ret2
      exact ⟨by rw [HF.out]; rfl, (Below.refl _ _).alloc (Nat.le_refl _) _⟩

theorem between_some {al : List (Int × Int)} {key lo hi n : Int} (h : Ev.attr al key = some n) : Ev.between al key lo hi = (decide (lo ≤ n) && decide (n ≤ hi)) := by unfold Ev.between; rw [h]
theorem between_none {al : List (Int × Int)} {key lo hi : Int} (h : Ev.attr al key = none) : Ev.between al key lo hi = false := by unfold Ev.between; rw [h]

end Go.Proofs.Ytflpdekifkcfkab
