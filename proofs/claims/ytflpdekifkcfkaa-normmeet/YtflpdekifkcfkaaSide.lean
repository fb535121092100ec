/- norm's leaves: what a side lets through, what two sides have in common, tags, a box of one key. -/
import Derived.Test.YtflpdekifkcfkaaLets
import Derived.Test.YtflpdekifkcfkaaBrow
import Derived.BigRegion
namespace Go.Proofs.Ytflpdekifkcfkaa
open Go.RowKit
set_option linter.unusedVariables false

theorem range_lets (al : List (Int × Int)) (t : ByteArray) (key lo hi : Int) : (Ev.Ft.leaf 3 key lo hi ⟨#[]⟩).lets al t = Ev.between al key lo hi := by simp [Ev.Ft.lets]

set_option maxHeartbeats 1000000 in
theorem side_any (lo hi key : Int) (v : Vs) (w : World) :
    Calls Try.prog 30 #[.agg #[.int .i64 0, .int .i64 lo, .int .i64 hi], .int .i64 key, v.val] w fun e w' => e = .returned (.bool true) ∧ Below w.heap.size w w' := by
  unfold Vs.val
  go_enter Try.func30, Try.ntmps30
  go_wp2
  go_ret
  exact ⟨rfl, ((Below.refl _ _).alloc (Nat.le_refl _) _).alloc (by simp) _⟩

set_option maxHeartbeats 1000000 in
theorem side_there (lo hi key : Int) (v : Vs) (al : List (Int × Int)) (w : World) (hv : Has Any w v al) :
    Calls Try.prog 30 #[.agg #[.int .i64 1, .int .i64 lo, .int .i64 hi], .int .i64 key, v.val] w fun e w' => e = .returned (.bool (Ev.between al key lo hi)) ∧ Below w.heap.size w w' := by
  have c := fun w' (hb : Below w.heap.size w w') => lets13 (.leaf 3 key lo hi ⟨#[]⟩) v al w' 3 key lo hi ⟨#[]⟩ none 0 (by simp [Ev.Ft.deep]) ⟨by omega, by omega, by decide⟩ ⟨rfl, rfl, rfl, rfl, rfl, rfl, rfl⟩ (hv.below hb)
  rw [range_lets] at c
  clear hv
  generalize Ev.between al key lo hi = r at *
  unfold Vs.val at c ⊢
  go_enter Try.func30, Try.ntmps30
  go_wp2_with fail
  refine (c _ (((Below.refl _ _).alloc (Nat.le_refl _) _).alloc (by simp) _)).mono ?_
  rintro e w1 ⟨rfl, hb⟩
  clear c
  have q : w1.cell? ⟨w.heap.size, 0, none⟩ = some (.int .i64 1) := (hb.cell (by simp; omega)).trans (by simp)
  have hb' : Below w.heap.size w w1 := (((Below.refl _ _).alloc (Nat.le_refl _) _).alloc (by simp) _).trans (hb.mono (by simp; omega))
  clear hb
  go_wp2
  go_ret
  exact ⟨by cases r <;> rfl, hb'⟩

set_option maxHeartbeats 1000000 in
theorem side_absent (lo hi key : Int) (v : Vs) (al : List (Int × Int)) (w : World) (hv : Has Any w v al) :
    Calls Try.prog 30 #[.agg #[.int .i64 2, .int .i64 lo, .int .i64 hi], .int .i64 key, v.val] w fun e w' => e = .returned (.bool (!(Ev.between al key (-9223372036854775808) 9223372036854775807))) ∧ Below w.heap.size w w' := by
  have c := fun w' (hb : Below w.heap.size w w') => lets13 (.leaf 3 key (-9223372036854775808) 9223372036854775807 ⟨#[]⟩) v al w' 3 key (-9223372036854775808) 9223372036854775807 ⟨#[]⟩ none 0 (by simp [Ev.Ft.deep]) ⟨by omega, by omega, by decide⟩ ⟨rfl, rfl, rfl, rfl, rfl, rfl, rfl⟩ (hv.below hb)
  rw [range_lets] at c
  clear hv
  generalize Ev.between al key (-9223372036854775808) 9223372036854775807 = r at *
  unfold Vs.val at c ⊢
  go_enter Try.func30, Try.ntmps30
  go_wp2_with fail
  refine (c _ (((Below.refl _ _).alloc (Nat.le_refl _) _).alloc (by simp) _)).mono ?_
  rintro e w1 ⟨rfl, hb⟩
  clear c
  have q : w1.cell? ⟨w.heap.size, 0, none⟩ = some (.int .i64 2) := (hb.cell (by simp; omega)).trans (by simp)
  have hb' : Below w.heap.size w w1 := (((Below.refl _ _).alloc (Nat.le_refl _) _).alloc (by simp) _).trans (hb.mono (by simp; omega))
  clear hb
  go_wp2
  go_ret
  exact ⟨by cases r <;> rfl, hb'⟩

/-- norm.sideLets. -/
theorem side30 (p : Ev.Sd) (key : Int) (v : Vs) (al : List (Int × Int)) (w : World) (hp : p.ok) (hv : Has Any w v al) :
    Calls Try.prog 30 #[.agg #[.int .i64 p.how, .int .i64 p.lo, .int .i64 p.hi], .int .i64 key, v.val] w fun e w' => e = .returned (.bool (p.lets al key)) ∧ Below w.heap.size w w' := by
  obtain ⟨how, lo, hi⟩ := p
  rcases hp with ⟨h, _, _⟩ | ⟨h, _, _⟩ | ⟨h, _, _, _⟩ <;> simp only at h <;> subst h
  · simpa [Ev.Sd.lets] using side_any lo hi key v w
  · simpa [Ev.Sd.lets] using side_absent lo hi key v al w hv
  · simpa [Ev.Sd.lets] using side_there lo hi key v al w hv

/-- A side as Go hands it over. -/
def Sval (p : Ev.Sd) : Value := .agg #[.int .i64 p.how, .int .i64 p.lo, .int .i64 p.hi]

/-- Two that have a How in common. -/
def alikeS (p q : Ev.Sd) : Option Ev.Sd :=
  if p.how ≠ 1 then some ⟨p.how, 0, 0⟩ else if min p.hi q.hi < max p.lo q.lo then none else some ⟨1, max p.lo q.lo, min p.hi q.hi⟩

set_option maxHeartbeats 1000000 in
theorem alike_other (a b : Ev.Sd) (w : World) (h : a.how ≠ 1) :
    Calls Try.prog 52 #[Sval a, Sval b] w fun e w' => e = .returned (.tuple #[Sval ⟨a.how, 0, 0⟩, .bool true]) ∧ Below w.heap.size w w' := by
  obtain ⟨ah, al, au⟩ := a
  obtain ⟨bh, bl, bu⟩ := b
  simp only at h
  have h1 : (ah != 1) = true := by simpa using h
  unfold Sval
  simp only
  go_enter Try.func52, Try.ntmps52
  go_wp2
  refine bodyPost_ret (v := .tuple #[.agg #[.int .i64 ah, .int .i64 0, .int .i64 0], .bool true]) (by simp [results, Try.results52, go_sem]) rfl ⟨rfl, ?_⟩
  exact (((Below.refl _ _).alloc (Nat.le_refl _) _).alloc (by simp) _).alloc (by simp; omega) _

set_option maxHeartbeats 1000000 in
theorem alike_there (a b : Ev.Sd) (w : World) (h : a.how = 1) :
    Calls Try.prog 52 #[Sval a, Sval b] w fun e w' => e = .returned (.tuple #[Sval (if min a.hi b.hi < max a.lo b.lo then ⟨0, 0, 0⟩ else ⟨1, max a.lo b.lo, min a.hi b.hi⟩), .bool (decide (¬ min a.hi b.hi < max a.lo b.lo))]) ∧ Below w.heap.size w w' := by
  obtain ⟨ah, al, au⟩ := a
  obtain ⟨bh, bl, bu⟩ := b
  simp only at h
  subst h
  obtain ⟨m, hm⟩ : ∃ m, m = max al bl := ⟨_, rfl⟩
  obtain ⟨n, hn⟩ : ∃ n, n = min au bu := ⟨_, rfl⟩
  simp only [← hm, ← hn]
  have H : Hid (m = max al bl ∧ n = min au bu) := ⟨hm, hn⟩
  clear hm hn
  by_cases hc : n < m
  · rw [if_pos hc, decide_eq_false (by simpa using hc)]
    have HC : Hid (n < m) := hc
    clear hc
    unfold Sval
    simp only
    go_enter Try.func52, Try.ntmps52
    go_wp2
    go_region
    go_wp2
    all_goals
      have hm := H.out.1
      have hn := H.out.2
      have hc := HC.out
      first
        | (exfalso; omega)
        | (refine bodyPost_ret (v := .tuple #[.agg #[.int .i64 0, .int .i64 0, .int .i64 0], .bool false]) (by simp [results, Try.results52, go_sem]) rfl ⟨rfl, ?_⟩
           exact ((((Below.refl _ _).alloc (Nat.le_refl _) _).alloc (by simp) _).alloc (by simp; omega) _).drew)
  · rw [if_neg hc, decide_eq_true hc]
    have HC : Hid (¬ n < m) := hc
    clear hc
    unfold Sval
    simp only
    go_enter Try.func52, Try.ntmps52
    go_wp2
    go_region
    go_wp2
    all_goals
      have hm := H.out.1
      have hn := H.out.2
      have hc := HC.out
      first
        | (exfalso; omega)
        | (refine bodyPost_ret (v := .tuple #[.agg #[.int .i64 1, .int .i64 al, .int .i64 au], .bool true]) (by simp [results, Try.results52, go_sem]) rfl ⟨by rw [show m = al from by omega, show n = au from by omega], ?_⟩
           exact ((((Below.refl _ _).alloc (Nat.le_refl _) _).alloc (by simp) _).alloc (by simp; omega) _).drew)
        | (refine bodyPost_ret (v := .tuple #[.agg #[.int .i64 1, .int .i64 al, .int .i64 bu], .bool true]) (by simp [results, Try.results52, go_sem]) rfl ⟨by rw [show m = al from by omega, show n = bu from by omega], ?_⟩
           exact ((((Below.refl _ _).alloc (Nat.le_refl _) _).alloc (by simp) _).alloc (by simp; omega) _).drew)
        | (refine bodyPost_ret (v := .tuple #[.agg #[.int .i64 1, .int .i64 bl, .int .i64 au], .bool true]) (by simp [results, Try.results52, go_sem]) rfl ⟨by rw [show m = bl from by omega, show n = au from by omega], ?_⟩
           exact ((((Below.refl _ _).alloc (Nat.le_refl _) _).alloc (by simp) _).alloc (by simp; omega) _).drew)
        | (refine bodyPost_ret (v := .tuple #[.agg #[.int .i64 1, .int .i64 bl, .int .i64 bu], .bool true]) (by simp [results, Try.results52, go_sem]) rfl ⟨by rw [show m = bl from by omega, show n = bu from by omega], ?_⟩
           exact ((((Below.refl _ _).alloc (Nat.le_refl _) _).alloc (by simp) _).alloc (by simp; omega) _).drew)

/-- norm.meetAlike. -/
theorem alike52 (a b : Ev.Sd) (w : World) :
    Calls Try.prog 52 #[Sval a, Sval b] w fun e w' => e = .returned (.tuple #[Sval ((alikeS a b).getD Ev.nul), .bool (alikeS a b).isSome]) ∧ Below w.heap.size w w' := by
  by_cases h : a.how = 1
  · have c := alike_there a b w h
    unfold alikeS
    rw [if_neg (by simpa using h)]
    by_cases hc : min a.hi b.hi < max a.lo b.lo
    · rw [if_pos hc] at c ⊢; rw [decide_eq_false (by simpa using hc)] at c; exact c
    · rw [if_neg hc] at c ⊢; rw [decide_eq_true hc] at c; exact c
  · have c := alike_other a b w h
    unfold alikeS
    rw [if_pos h]
    exact c

end Go.Proofs.Ytflpdekifkcfkaa
