/- What two sides have in common; the longer of two tags; a box of one key; how many parts. -/
import Derived.Test.YtflpdekifkcfkabSide
namespace Go.Proofs.Ytflpdekifkcfkab
open Go.RowKit
set_option linter.unusedVariables false

theorem alike_self {p : Ev.Sd} (h : p.ok) : alikeS p p = some p := by
  obtain ⟨ph, pl, pu⟩ := p
  unfold alikeS
  rcases h with ⟨h1, h2, h3⟩ | ⟨h1, h2, h3⟩ | ⟨h1, h2, h3, h4⟩ <;> simp only at h1 h2 h3 <;> subst h1
  · subst h2; subst h3; rfl
  · subst h2; subst h3; rfl
  · have e1 : max pl pl = pl := by omega
    have e2 : min pu pu = pu := by omega
    simp only [e1, e2]
    rw [if_neg (by simp), if_neg (by omega)]

theorem alike_both {p q : Ev.Sd} (hp : p.ok) (h0 : p.how ≠ 0) (h0' : q.how ≠ 0) (h : p.how = q.how) : alikeS p q = Ev.meetS p q := by
  obtain ⟨ph, pl, pu⟩ := p
  obtain ⟨qh, ql, qu⟩ := q
  simp only at h h0 h0'
  subst h
  unfold alikeS Ev.meetS
  rcases hp with ⟨h1, h2, h3⟩ | ⟨h1, h2, h3⟩ | ⟨h1, h2, h3, h4⟩ <;> simp only at h1 h2 h3 <;> subst h1
  · exact absurd rfl h0
  · subst h2; subst h3; rfl
  · simp

set_option maxHeartbeats 1000000 in
theorem sides_first (a b : Ev.Sd) (w : World) (h : a.how = 0) :
    Calls Try.prog 69 #[Sval a, Sval b] w fun e w' => e = .returned (.tuple #[Sval ((alikeS b b).getD Ev.nul), .bool (alikeS b b).isSome]) ∧ Below w.heap.size w w' := by
  obtain ⟨ah, al, au⟩ := a
  obtain ⟨bh, bl, bu⟩ := b
  simp only at h
  subst h
  have c := fun w => alike52 ⟨bh, bl, bu⟩ ⟨bh, bl, bu⟩ w
  generalize (alikeS ⟨bh, bl, bu⟩ ⟨bh, bl, bu⟩).getD Ev.nul = r at *
  generalize (alikeS ⟨bh, bl, bu⟩ ⟨bh, bl, bu⟩).isSome = ok at *
  obtain ⟨rh, rl, ru⟩ := r
  unfold Sval at c ⊢
  simp only at c ⊢
  go_enter Try.func69, Try.ntmps69
  go_wp2_with fail
  refine (c _).mono ?_
  rintro e w1 ⟨rfl, hb⟩
  clear c
  have hb0 : Below w.heap.size w w1 := ((((Below.refl _ _).alloc (Nat.le_refl _) _).alloc (by simp) _).alloc (by simp; omega) _).trans (hb.mono (by simp; omega))
  have f : ∀ o, w1.frozen? ⟨w.heap.size + 1 + 1, o, none⟩ = _ := fun o => hb.frozen (by simp)
  have q : ∀ o, w1.cell? ⟨w.heap.size + 1 + 1, o, none⟩ = _ := fun o => hb.cell (by simp)
  clear hb
  go_wp2
  refine bodyPost_ret (v := .tuple #[.agg #[.int .i64 rh, .int .i64 rl, .int .i64 ru], .bool ok]) (by simp [results, Try.results69, go_sem, q]) rfl ⟨rfl, ?_⟩
  exact ((hb0.setCell (by simp; omega) _).setCell (by simp; omega) _).setCell (by simp; omega) _

set_option maxHeartbeats 1000000 in
theorem sides_second (a b : Ev.Sd) (w : World) (h0 : a.how ≠ 0) (h : b.how = 0) :
    Calls Try.prog 69 #[Sval a, Sval b] w fun e w' => e = .returned (.tuple #[Sval ((alikeS a a).getD Ev.nul), .bool (alikeS a a).isSome]) ∧ Below w.heap.size w w' := by
  obtain ⟨ah, al, au⟩ := a
  obtain ⟨bh, bl, bu⟩ := b
  simp only at h h0
  subst h
  have h1 : (ah == 0) = false := by simpa using h0
  have c := fun w => alike52 ⟨ah, al, au⟩ ⟨ah, al, au⟩ w
  generalize (alikeS ⟨ah, al, au⟩ ⟨ah, al, au⟩).getD Ev.nul = r at *
  generalize (alikeS ⟨ah, al, au⟩ ⟨ah, al, au⟩).isSome = ok at *
  obtain ⟨rh, rl, ru⟩ := r
  unfold Sval at c ⊢
  simp only at c ⊢
  go_enter Try.func69, Try.ntmps69
  go_wp2_with fail
  refine (c _).mono ?_
  rintro e w1 ⟨rfl, hb⟩
  clear c
  have hb0 : Below w.heap.size w w1 := ((((Below.refl _ _).alloc (Nat.le_refl _) _).alloc (by simp) _).alloc (by simp; omega) _).trans (hb.mono (by simp; omega))
  have f : ∀ o, w1.frozen? ⟨w.heap.size + 1 + 1, o, none⟩ = _ := fun o => hb.frozen (by simp)
  have q : ∀ o, w1.cell? ⟨w.heap.size + 1 + 1, o, none⟩ = _ := fun o => hb.cell (by simp)
  clear hb
  go_wp2
  refine bodyPost_ret (v := .tuple #[.agg #[.int .i64 rh, .int .i64 rl, .int .i64 ru], .bool ok]) (by simp [results, Try.results69, go_sem, q]) rfl ⟨rfl, ?_⟩
  exact ((hb0.setCell (by simp; omega) _).setCell (by simp; omega) _).setCell (by simp; omega) _

set_option maxHeartbeats 1000000 in
theorem sides_third (a b : Ev.Sd) (w : World) (h0 : a.how ≠ 0) (h0' : b.how ≠ 0) (h : a.how = b.how) :
    Calls Try.prog 69 #[Sval a, Sval b] w fun e w' => e = .returned (.tuple #[Sval ((alikeS a b).getD Ev.nul), .bool (alikeS a b).isSome]) ∧ Below w.heap.size w w' := by
  obtain ⟨ah, al, au⟩ := a
  obtain ⟨bh, bl, bu⟩ := b
  simp only at h h0 h0'
  subst h
  have h1 : (ah == 0) = false := by simpa using h0
  have c := fun w => alike52 ⟨ah, al, au⟩ ⟨ah, bl, bu⟩ w
  generalize (alikeS ⟨ah, al, au⟩ ⟨ah, bl, bu⟩).getD Ev.nul = r at *
  generalize (alikeS ⟨ah, al, au⟩ ⟨ah, bl, bu⟩).isSome = ok at *
  obtain ⟨rh, rl, ru⟩ := r
  unfold Sval at c ⊢
  simp only at c ⊢
  go_enter Try.func69, Try.ntmps69
  go_wp2_with fail
  refine (c _).mono ?_
  rintro e w1 ⟨rfl, hb⟩
  clear c
  have hb0 : Below w.heap.size w w1 := ((((Below.refl _ _).alloc (Nat.le_refl _) _).alloc (by simp) _).alloc (by simp; omega) _).trans (hb.mono (by simp; omega))
  have f : ∀ o, w1.frozen? ⟨w.heap.size + 1 + 1, o, none⟩ = _ := fun o => hb.frozen (by simp)
  have q : ∀ o, w1.cell? ⟨w.heap.size + 1 + 1, o, none⟩ = _ := fun o => hb.cell (by simp)
  clear hb
  go_wp2
  refine bodyPost_ret (v := .tuple #[.agg #[.int .i64 rh, .int .i64 rl, .int .i64 ru], .bool ok]) (by simp [results, Try.results69, go_sem, q]) rfl ⟨rfl, ?_⟩
  exact ((hb0.setCell (by simp; omega) _).setCell (by simp; omega) _).setCell (by simp; omega) _

set_option maxHeartbeats 1000000 in
theorem sides_apart (a b : Ev.Sd) (w : World) (h0 : a.how ≠ 0) (h0' : b.how ≠ 0) (h : a.how ≠ b.how) :
    Calls Try.prog 69 #[Sval a, Sval b] w fun e w' => e = .returned (.tuple #[Sval Ev.nul, .bool false]) ∧ Below w.heap.size w w' := by
  obtain ⟨ah, al, au⟩ := a
  obtain ⟨bh, bl, bu⟩ := b
  simp only at h h0 h0'
  have h1 : (ah == 0) = false := by simpa using h0
  have h2 : (bh == 0) = false := by simpa using h0'
  have h3 : (ah == bh) = false := by simpa using h
  unfold Sval Ev.nul
  simp only
  go_enter Try.func69, Try.ntmps69
  go_wp2
  refine bodyPost_ret (v := .tuple #[.agg #[.int .i64 0, .int .i64 0, .int .i64 0], .bool false]) (by simp [results, Try.results69, go_sem]) rfl ⟨rfl, ?_⟩
  exact ((((Below.refl _ _).alloc (Nat.le_refl _) _).alloc (by simp) _).alloc (by simp; omega) _)

/-- norm.meetSides. -/
theorem sides35 (a b : Ev.Sd) (w : World) (ha : a.ok) (hb : b.ok) :
    Calls Try.prog 69 #[Sval a, Sval b] w fun e w' => e = .returned (.tuple #[Sval ((Ev.meetS a b).getD Ev.nul), .bool (Ev.meetS a b).isSome]) ∧ Below w.heap.size w w' := by
  by_cases h0 : a.how = 0
  · have c := sides_first a b w h0
    rw [alike_self hb] at c
    have e : Ev.meetS a b = some b := by unfold Ev.meetS; rw [if_pos h0]
    rw [e]; exact c
  · by_cases h1 : b.how = 0
    · have c := sides_second a b w h0 h1
      rw [alike_self ha] at c
      have e : Ev.meetS a b = some a := by unfold Ev.meetS; rw [if_neg h0, if_pos h1]
      rw [e]; exact c
    · by_cases h2 : a.how = b.how
      · have c := sides_third a b w h0 h1 h2
        rw [alike_both ha h0 h1 h2] at c
        exact c
      · have c := sides_apart a b w h0 h1 h2
        have e : Ev.meetS a b = none := by unfold Ev.meetS; rw [if_neg h0, if_neg h1, if_pos h2]
        rw [e]; exact c

set_option maxHeartbeats 1000000 in
/-- norm.meetTags. -/
theorem tags36 (a b : ByteArray) (w : World) (ha : a.size ≤ 1000) (hb : b.size ≤ 1000) :
    Calls Try.prog 70 #[.string a, .string b] w fun e w' => e = .returned (.tuple #[.string (Ev.longer a b), .bool (Ev.begins (Ev.longer a b) a && Ev.begins (Ev.longer a b) b)]) ∧ w' = w := by
  have hself : ∀ x : ByteArray, Ev.begins x x = true := fun x => by rw [Ev.begins_iff]; exact List.prefix_refl _
  by_cases h : a.size < b.size
  · have e : Ev.longer a b = b := by unfold Ev.longer; rw [if_pos h]
    rw [e, hself, Bool.and_true]
    have c := fun w => prefix28 b a w hb ha
    clear hself e
    go_enter Try.func70, Try.ntmps70
    go_wp2_with fail
    refine (c _).mono ?_
    rintro e w' ⟨rfl, rfl⟩
    go_wp2
    go_ret2
    exact ⟨rfl, rfl⟩
  · have e : Ev.longer a b = a := by unfold Ev.longer; rw [if_neg h]
    rw [e, hself, Bool.true_and]
    have c := fun w => prefix28 a b w ha hb
    clear hself e
    go_enter Try.func70, Try.ntmps70
    go_wp2_with fail
    refine (c _).mono ?_
    rintro e w' ⟨rfl, rfl⟩
    go_wp2
    go_ret2
    exact ⟨rfl, rfl⟩

/-- How many parts there are. -/
def parts (op : Int) : Int := if op = 5 ∨ op = 6 then 2 else if op = 7 then 1 else 0

set_option maxHeartbeats 1000000 in
theorem parts44 (op : Int) (w : World) :
    Calls Try.prog 48 #[.int .i64 op] w fun e w' => e = .returned (.int .i64 (parts op)) ∧ w' = w := by
  by_cases h5 : op = 5
  · subst h5
    go_enter Try.func48, Try.ntmps48
    go_wp2
    go_ret
    exact ⟨rfl, rfl⟩
  · by_cases h6 : op = 6
    · subst h6
      go_enter Try.func48, Try.ntmps48
      go_wp2
      go_ret
      exact ⟨rfl, rfl⟩
    · have e5 : (op == 5) = false := by simpa using h5
      have e6 : (op == 6) = false := by simpa using h6
      by_cases h7 : op = 7
      · subst h7
        go_enter Try.func48, Try.ntmps48
        go_wp2
        go_ret
        exact ⟨rfl, rfl⟩
      · have e7 : (op == 7) = false := by simpa using h7
        have e : parts op = 0 := by unfold parts; rw [if_neg (by omega), if_neg h7]
        rw [e]
        clear e h5 h6 h7
        go_enter Try.func48, Try.ntmps48
        go_wp2
        go_ret
        exact ⟨rfl, rfl⟩

end Go.Proofs.Ytflpdekifkcfkab
