/- norm's leaves: what a side lets through, what two sides have in common, tags, a box of one key. -/
import Derived.Test.YtflpdekifkcfkabLets
import Derived.Test.YtflpdekifkcfkabBrow
import Derived.BigRegion
namespace Go.Proofs.Ytflpdekifkcfkab
open Go.RowKit
set_option linter.unusedVariables false

/-- A side as Go hands it over. -/
def Sval (p : Ev.Sd) : Value := .agg #[.int .i64 p.how, .int .i64 p.lo, .int .i64 p.hi]

/-- Two that have a How in common. -/
def alikeS (p q : Ev.Sd) : Option Ev.Sd :=
  if p.how ≠ 1 then some ⟨p.how, 0, 0⟩ else if min p.hi q.hi < max p.lo q.lo then none else some ⟨1, max p.lo q.lo, min p.hi q.hi⟩

set_option maxHeartbeats 1000000 in
theorem alike_other (a b : Ev.Sd) (w : World) (h : a.how ≠ 1) :
    Calls Try.prog 73 #[Sval a, Sval b] w fun e w' => e = .returned (.tuple #[Sval ⟨a.how, 0, 0⟩, .bool true]) ∧ Below w.heap.size w w' := by
  obtain ⟨ah, al, au⟩ := a
  obtain ⟨bh, bl, bu⟩ := b
  simp only at h
  have h1 : (ah != 1) = true := by simpa using h
  unfold Sval
  simp only
  go_enter Try.func73, Try.ntmps73
  go_wp2
  refine bodyPost_ret (v := .tuple #[.agg #[.int .i64 ah, .int .i64 0, .int .i64 0], .bool true]) (by simp [results, Try.results73, go_sem]) rfl ⟨rfl, ?_⟩
  exact (((Below.refl _ _).alloc (Nat.le_refl _) _).alloc (by simp) _).alloc (by simp; omega) _

set_option maxHeartbeats 1000000 in
theorem alike_there (a b : Ev.Sd) (w : World) (h : a.how = 1) :
    Calls Try.prog 73 #[Sval a, Sval b] w fun e w' => e = .returned (.tuple #[Sval (if min a.hi b.hi < max a.lo b.lo then ⟨0, 0, 0⟩ else ⟨1, max a.lo b.lo, min a.hi b.hi⟩), .bool (decide (¬ min a.hi b.hi < max a.lo b.lo))]) ∧ Below w.heap.size w w' := by
  obtain ⟨ah, al, au⟩ := a
  obtain ⟨bh, bl, bu⟩ := b
  simp only at h
  subst h
  obtain ⟨m, hm⟩ : ∃ m, m = max al bl := ⟨_, rfl⟩
  obtain ⟨n, hn⟩ : ∃ n, n = min au bu := ⟨_, rfl⟩
  simp only [← hm, ← hn]
  have H : Hid (m = max al bl ∧ n = min au bu) := ⟨hm, hn⟩
  clear hm hn
  by_cases hc : n < m
  · rw [if_pos hc, decide_eq_false (by simpa using hc)]
    have HC : Hid (n < m) := hc
    clear hc
    unfold Sval
    simp only
    go_enter Try.func73, Try.ntmps73
    go_wp2
    go_region
    go_wp2
    all_goals
      have hm := H.out.1
      have hn := H.out.2
      have hc := HC.out
      first
        | (exfalso; omega)
        | (refine bodyPost_ret (v := .tuple #[.agg #[.int .i64 0, .int .i64 0, .int .i64 0], .bool false]) (by simp [results, Try.results73, go_sem]) rfl ⟨rfl, ?_⟩
           exact ((((Below.refl _ _).alloc (Nat.le_refl _) _).alloc (by simp) _).alloc (by simp; omega) _).drew)
  · rw [if_neg hc, decide_eq_true hc]
    have HC : Hid (¬ n < m) := hc
    clear hc
    unfold Sval
    simp only
    go_enter Try.func73, Try.ntmps73
    go_wp2
    go_region
    go_wp2
    all_goals
      have hm := H.out.1
      have hn := H.out.2
      have hc := HC.out
      first
        | (exfalso; omega)
        | (refine bodyPost_ret (v := .tuple #[.agg #[.int .i64 1, .int .i64 al, .int .i64 au], .bool true]) (by simp [results, Try.results73, go_sem]) rfl ⟨by rw [show m = al from by omega, show n = au from by omega], ?_⟩
           exact ((((Below.refl _ _).alloc (Nat.le_refl _) _).alloc (by simp) _).alloc (by simp; omega) _).drew)
        | (refine bodyPost_ret (v := .tuple #[.agg #[.int .i64 1, .int .i64 al, .int .i64 bu], .bool true]) (by simp [results, Try.results73, go_sem]) rfl ⟨by rw [show m = al from by omega, show n = bu from by omega], ?_⟩
           exact ((((Below.refl _ _).alloc (Nat.le_refl _) _).alloc (by simp) _).alloc (by simp; omega) _).drew)
        | (refine bodyPost_ret (v := .tuple #[.agg #[.int .i64 1, .int .i64 bl, .int .i64 au], .bool true]) (by simp [results, Try.results73, go_sem]) rfl ⟨by rw [show m = bl from by omega, show n = au from by omega], ?_⟩
           exact ((((Below.refl _ _).alloc (Nat.le_refl _) _).alloc (by simp) _).alloc (by simp; omega) _).drew)
        | (refine bodyPost_ret (v := .tuple #[.agg #[.int .i64 1, .int .i64 bl, .int .i64 bu], .bool true]) (by simp [results, Try.results73, go_sem]) rfl ⟨by rw [show m = bl from by omega, show n = bu from by omega], ?_⟩
           exact ((((Below.refl _ _).alloc (Nat.le_refl _) _).alloc (by simp) _).alloc (by simp; omega) _).drew)

/-- norm.meetAlike. -/
theorem alike52 (a b : Ev.Sd) (w : World) :
    Calls Try.prog 73 #[Sval a, Sval b] w fun e w' => e = .returned (.tuple #[Sval ((alikeS a b).getD Ev.nul), .bool (alikeS a b).isSome]) ∧ Below w.heap.size w w' := by
  by_cases h : a.how = 1
  · have c := alike_there a b w h
    unfold alikeS
    rw [if_neg (by simpa using h)]
    by_cases hc : min a.hi b.hi < max a.lo b.lo
    · rw [if_pos hc] at c ⊢; rw [decide_eq_false (by simpa using hc)] at c; exact c
    · rw [if_neg hc] at c ⊢; rw [decide_eq_true hc] at c; exact c
  · have c := alike_other a b w h
    unfold alikeS
    rw [if_pos h]
    exact c

end Go.Proofs.Ytflpdekifkcfkab
