/- Reading a version part by part, with two checks on the way, is reading it whole and holding it against its own bytes. No Go, no program. -/
import Derived.Test.YtopkeembbopbmaaDoorPln
namespace Go.Proofs.YtopkeembbopbmaaDoor

theorem rd_inv {b c : List Nat} {v : Nat} (hb : ∀ x ∈ b, x < 256) (h : rd b = some (v, c)) : b = put v ++ c ∧ v < 128 ^ 5 ∧ (∀ x ∈ c, x < 256) := by
  unfold rd at h
  cases e : take5 b with
  | none => rw [e] at h; cases h
  | some p =>
    obtain ⟨w, n⟩ := p
    rw [e] at h
    cases h
    obtain ⟨_, _, h3, _, h5, _⟩ := tk_one 5 false b hb v n e
    refine ⟨by rw [h3, List.take_append_drop], h5, fun x hx => hb x (List.mem_of_mem_drop hx)⟩

theorem rt_inv {b c s : List Nat} (hb : ∀ x ∈ b, x < 256) (h : rt b = some (s, c)) : b = putx s ++ c ∧ s.length < 128 ^ 5 ∧ (∀ x ∈ c, x < 256) := by
  unfold rt at h
  cases e : rd b with
  | none => rw [e] at h; cases h
  | some p =>
    obtain ⟨v, d⟩ := p
    rw [e] at h
    obtain ⟨h1, h2, h3⟩ := rd_inv hb e
    simp only at h
    split at h
    · rename_i hl
      cases h
      have e1 : (d.take v).length = v := by rw [List.length_take]; omega
      refine ⟨?_, by omega, fun x hx => h3 x (List.mem_of_mem_drop hx)⟩
      unfold putx
      rw [e1, List.append_assoc, List.take_append_drop]
      exact h1
    · cases h

theorem rat_inv (k : Nat) : ∀ {b c : List Nat} {a : List (Nat × Nat)}, (∀ x ∈ b, x < 256) → rat k b = some (a, c) → b = pat a ++ c ∧ a.length = k ∧ (∀ x ∈ c, x < 256) := by
  induction k with
  | zero =>
    intro b c a hb h
    cases h
    exact ⟨rfl, rfl, hb⟩
  | succ k ih =>
    intro b c a hb h
    unfold rat at h
    cases e1 : rd b with
    | none => rw [e1] at h; cases h
    | some p =>
      obtain ⟨x, b1⟩ := p
      rw [e1] at h
      obtain ⟨q1, _, q3⟩ := rd_inv hb e1
      simp only [Option.bind_some] at h
      cases e2 : rd b1 with
      | none => rw [e2] at h; cases h
      | some p =>
        obtain ⟨y, b2⟩ := p
        rw [e2] at h
        obtain ⟨r1, _, r3⟩ := rd_inv q3 e2
        simp only [Option.bind_some] at h
        cases e3 : rat k b2 with
        | none => rw [e3] at h; cases h
        | some p =>
          obtain ⟨a', c'⟩ := p
          rw [e3] at h
          simp only [Option.bind_some] at h
          cases h
          obtain ⟨s1, s2, s3⟩ := ih r3 e3
          refine ⟨?_, by rw [List.length_cons, s2], s3⟩
          rw [pat_cons, q1, r1, s1]
          simp only [List.append_assoc]

/-- A mark of one byte: nought or one. -/
def rfg (b : List Nat) : Option (Nat × List Nat) := (rd b).bind fun x => if x.1 ≤ 1 then some x else none
/-- At most three attributes. -/
def ratP (b : List Nat) : Option (List (Nat × Nat) × List Nat) := (rd b).bind fun k => if k.1 ≤ 3 then rat k.1 k.2 else none

/-- A version's parts, one by one. -/
def rvP (b : List Nat) : Option (Vp × List Nat) :=
  (rd b).bind fun i => (rd i.2).bind fun l => (rd l.2).bind fun r => (rd r.2).bind fun n => (rfg n.2).bind fun d =>
    (ratP d.2).bind fun a => (rt a.2).bind fun t => (rt t.2).bind fun e => some (⟨i.1, l.1, r.1, n.1, d.1, a.1, t.1, e.1⟩, e.2)

def tvP (may : Vp → Bool) (b : List Nat) : Option (Vp × Nat) :=
  match rvP b with
  | none => none
  | some (v, c) => if may v = true then some (v, b.length - c.length) else none

theorem rv_inv {b c : List Nat} {v : Vp} (hb : ∀ x ∈ b, x < 256) (h : rv b = some (v, c)) :
    ∃ d, b = put v.i ++ (put v.l ++ (put v.r ++ (put v.n ++ (put d ++ (put v.a.length ++ (pat v.a ++ (putx v.t ++ putx v.b))))))) ++ c ∧ v.d = (if d = 0 then 0 else 1) ∧ d < 128 ^ 5 := by
  unfold rv at h
  cases e1 : rd b with
  | none => rw [e1] at h; cases h
  | some p =>
  obtain ⟨i, b1⟩ := p; rw [e1] at h; simp only [Option.bind_some] at h
  obtain ⟨q1, _, w1⟩ := rd_inv hb e1
  cases e2 : rd b1 with
  | none => rw [e2] at h; cases h
  | some p =>
  obtain ⟨l, b2⟩ := p; rw [e2] at h; simp only [Option.bind_some] at h
  obtain ⟨q2, _, w2⟩ := rd_inv w1 e2
  cases e3 : rd b2 with
  | none => rw [e3] at h; cases h
  | some p =>
  obtain ⟨r, b3⟩ := p; rw [e3] at h; simp only [Option.bind_some] at h
  obtain ⟨q3, _, w3⟩ := rd_inv w2 e3
  cases e4 : rd b3 with
  | none => rw [e4] at h; cases h
  | some p =>
  obtain ⟨n, b4⟩ := p; rw [e4] at h; simp only [Option.bind_some] at h
  obtain ⟨q4, _, w4⟩ := rd_inv w3 e4
  cases e5 : rd b4 with
  | none => rw [e5] at h; cases h
  | some p =>
  obtain ⟨d, b5⟩ := p; rw [e5] at h; simp only [Option.bind_some] at h
  obtain ⟨q5, hd, w5⟩ := rd_inv w4 e5
  cases e6 : rd b5 with
  | none => rw [e6] at h; cases h
  | some p =>
  obtain ⟨k, b6⟩ := p; rw [e6] at h; simp only [Option.bind_some] at h
  obtain ⟨q6, _, w6⟩ := rd_inv w5 e6
  cases e7 : rat k b6 with
  | none => rw [e7] at h; cases h
  | some p =>
  obtain ⟨a, b7⟩ := p; rw [e7] at h; simp only [Option.bind_some] at h
  obtain ⟨q7, hk, w7⟩ := rat_inv k w6 e7
  cases e8 : rt b7 with
  | none => rw [e8] at h; cases h
  | some p =>
  obtain ⟨t, b8⟩ := p; rw [e8] at h; simp only [Option.bind_some] at h
  obtain ⟨q8, _, w8⟩ := rt_inv w7 e8
  cases e9 : rt b8 with
  | none => rw [e9] at h; cases h
  | some p =>
  obtain ⟨e, b9⟩ := p; rw [e9] at h; simp only [Option.bind_some] at h
  obtain ⟨q9, _, _⟩ := rt_inv w8 e9
  cases h
  refine ⟨d, ?_, rfl, hd⟩
  subst hk
  simp only [List.append_assoc]
  rw [q1, q2, q3, q4, q5, q6, q7, q8, q9]

theorem put_inj {v w : Nat} (hv : v < 128 ^ 5) (hw : w < 128 ^ 5) (h : put v = put w) : v = w := by
  have h1 := rd_put v hv []
  rw [h, rd_put w hw []] at h1
  cases h1
  rfl

/-- What is read with the two checks is what is read without, where it passes them. -/
theorem rvP_some {b c : List Nat} {v : Vp} (hb : ∀ x ∈ b, x < 256) (h : rvP b = some (v, c)) : rv b = some (v, c) ∧ b = pv v ++ c ∧ v.a.length ≤ 3 := by
  have key : rv b = some (v, c) ∧ v.a.length ≤ 3 ∧ ∀ d, v.d = (if d = 0 then 0 else 1) → True := by
    unfold rvP at h
    unfold rv
    cases e1 : rd b with
    | none => rw [e1] at h; cases h
    | some p =>
    obtain ⟨i, b1⟩ := p; rw [e1] at h; simp only [Option.bind_some] at h ⊢
    obtain ⟨q1, _, w1⟩ := rd_inv hb e1
    cases e2 : rd b1 with
    | none => rw [e2] at h; cases h
    | some p =>
    obtain ⟨l, b2⟩ := p; rw [e2] at h; simp only [Option.bind_some] at h ⊢
    obtain ⟨q2, _, w2⟩ := rd_inv w1 e2
    cases e3 : rd b2 with
    | none => rw [e3] at h; cases h
    | some p =>
    obtain ⟨r, b3⟩ := p; rw [e3] at h; simp only [Option.bind_some] at h ⊢
    obtain ⟨q3, _, w3⟩ := rd_inv w2 e3
    cases e4 : rd b3 with
    | none => rw [e4] at h; cases h
    | some p =>
    obtain ⟨n, b4⟩ := p; rw [e4] at h; simp only [Option.bind_some] at h ⊢
    obtain ⟨q4, _, w4⟩ := rd_inv w3 e4
    unfold rfg at h
    cases e5 : rd b4 with
    | none => rw [e5] at h; cases h
    | some p =>
    obtain ⟨d, b5⟩ := p; rw [e5] at h; simp only [Option.bind_some] at h ⊢
    obtain ⟨q5, hd, w5⟩ := rd_inv w4 e5
    by_cases hd1 : d ≤ 1
    · rw [if_pos hd1] at h; simp only [Option.bind_some] at h
      unfold ratP at h
      cases e6 : rd b5 with
      | none => rw [e6] at h; cases h
      | some p =>
      obtain ⟨k, b6⟩ := p; rw [e6] at h; simp only [Option.bind_some] at h ⊢
      obtain ⟨q6, _, w6⟩ := rd_inv w5 e6
      by_cases hk : k ≤ 3
      · rw [if_pos hk] at h
        cases e7 : rat k b6 with
        | none => rw [e7] at h; cases h
        | some p =>
        obtain ⟨a, b7⟩ := p; rw [e7] at h; simp only [Option.bind_some] at h ⊢
        obtain ⟨q7, hk7, w7⟩ := rat_inv k w6 e7
        cases e8 : rt b7 with
        | none => rw [e8] at h; cases h
        | some p =>
        obtain ⟨t, b8⟩ := p; rw [e8] at h; simp only [Option.bind_some] at h ⊢
        cases e9 : rt b8 with
        | none => rw [e9] at h; cases h
        | some p =>
        obtain ⟨e, b9⟩ := p; rw [e9] at h; simp only [Option.bind_some] at h ⊢
        cases h
        have ed : (if d = 0 then 0 else 1) = d := by split <;> omega
        exact ⟨by rw [ed], by show a.length ≤ 3; omega, fun _ _ => trivial⟩
      · rw [if_neg hk] at h; cases h
    · rw [if_neg hd1] at h; cases h
  obtain ⟨k1, k2, _⟩ := key
  refine ⟨k1, ?_, k2⟩
  obtain ⟨d, hd, hv, hd5⟩ := rv_inv hb k1
  -- the mark that stands there is the one that was read
  have hm : v.d = d ∨ 1 < d := by
    rw [hv]; split <;> omega
  rcases hm with hm | hm
  · rw [hd]; unfold pv; rw [hm]
  · exfalso
    -- then the reading with checks had not passed
    unfold rvP at h
    have e : ∀ (x : Nat) (hx : x < 128 ^ 5) (l : List Nat), rd (put x ++ l) = some (x, l) := fun x hx l => rd_put x hx l
    have hfi : ∃ j, (∀ y, rd b = some y → y.2 = j) := ⟨((rd b).map (·.2)).getD [], fun y hy => by rw [hy]; rfl⟩
    unfold rv at k1
    cases e1 : rd b with
    | none => rw [e1] at h; cases h
    | some p =>
    obtain ⟨i, b1⟩ := p; rw [e1] at h k1; simp only [Option.bind_some] at h k1
    obtain ⟨q1, z1, w1⟩ := rd_inv hb e1
    cases e2 : rd b1 with
    | none => rw [e2] at h; cases h
    | some p =>
    obtain ⟨l, b2⟩ := p; rw [e2] at h k1; simp only [Option.bind_some] at h k1
    obtain ⟨q2, z2, w2⟩ := rd_inv w1 e2
    cases e3 : rd b2 with
    | none => rw [e3] at h; cases h
    | some p =>
    obtain ⟨r, b3⟩ := p; rw [e3] at h k1; simp only [Option.bind_some] at h k1
    obtain ⟨q3, z3, w3⟩ := rd_inv w2 e3
    cases e4 : rd b3 with
    | none => rw [e4] at h; cases h
    | some p =>
    obtain ⟨n, b4⟩ := p; rw [e4] at h k1; simp only [Option.bind_some] at h k1
    obtain ⟨q4, z4, w4⟩ := rd_inv w3 e4
    unfold rfg at h
    cases e5 : rd b4 with
    | none => rw [e5] at h; cases h
    | some p =>
    obtain ⟨d', b5⟩ := p; rw [e5] at h k1; simp only [Option.bind_some] at h k1
    obtain ⟨q5, z5, w5⟩ := rd_inv w4 e5
    by_cases hd1 : d' ≤ 1
    · cases e6 : rd b5 with
      | none => rw [e6] at k1; cases k1
      | some p =>
      obtain ⟨k, b6⟩ := p; rw [e6] at k1; simp only [Option.bind_some] at k1
      cases e7 : rat k b6 with
      | none => rw [e7] at k1; cases k1
      | some p =>
      obtain ⟨a, b7⟩ := p; rw [e7] at k1; simp only [Option.bind_some] at k1
      cases e8 : rt b7 with
      | none => rw [e8] at k1; cases k1
      | some p =>
      obtain ⟨t, b8⟩ := p; rw [e8] at k1; simp only [Option.bind_some] at k1
      cases e9 : rt b8 with
      | none => rw [e9] at k1; cases k1
      | some p =>
      obtain ⟨e', b9⟩ := p; rw [e9] at k1; simp only [Option.bind_some] at k1
      cases k1
      rw [q1, q2, q3, q4, q5] at hd
      simp only [List.append_assoc, List.append_cancel_left_eq] at hd
      have h1 := e d' z5 b5
      rw [hd, e d hd5] at h1
      cases h1
      omega
    · rw [if_neg hd1] at h; cases h

theorem tvP_eq (may : Vp → Bool) (h3 : ∀ v, may v = true → v.a.length ≤ 3 ∧ v.d ≤ 1) (b : List Nat) (hb : ∀ x ∈ b, x < 256) : tvP may b = tv may b := by
  unfold tvP tv
  cases e : rvP b with
  | some p =>
    obtain ⟨v, c⟩ := p
    obtain ⟨k1, k2, k3⟩ := rvP_some hb e
    rw [k1]
    have e2 : b.length - c.length = (pv v).length := by rw [k2]; simp
    have e3 : pv v = b.take (b.length - c.length) := by rw [e2, k2]; simp
    by_cases hm : may v = true
    · simp only; rw [if_pos hm, if_pos ⟨hm, e3⟩]
    · simp only [hm]; simp
  | none =>
    cases k : rv b with
    | none => rfl
    | some p =>
      obtain ⟨v, c⟩ := p
      simp only
      by_cases hm : may v = true ∧ pv v = b.take (b.length - c.length)
      · exfalso
        obtain ⟨m1, m2⟩ := hm
        obtain ⟨m3, m4⟩ := h3 v m1
        obtain ⟨d, hd, hv, hd5⟩ := rv_inv hb k
        have hb2 : b = pv v ++ c := by
          have e1 : b = b.take (b.length - c.length) ++ b.drop (b.length - c.length) := (List.take_append_drop _ _).symm
          have e2 : b.drop (b.length - c.length) = c := by
            have hl := congrArg List.length hd
            rw [List.length_append] at hl
            have : b.drop (b.length - c.length) = (put v.i ++ (put v.l ++ (put v.r ++ (put v.n ++ (put d ++ (put v.a.length ++ (pat v.a ++ (putx v.t ++ putx v.b))))))) ++ c).drop ((put v.i ++ (put v.l ++ (put v.r ++ (put v.n ++ (put d ++ (put v.a.length ++ (pat v.a ++ (putx v.t ++ putx v.b)))))))).length) := by
              rw [← hd]; congr 1; omega
            rw [this, List.drop_left]
          rw [e2, ← m2] at e1
          exact e1
        have hdd : v.d = d := by
          have h5 : v.d < 128 ^ 5 := by omega
          rw [hb2] at hd
          unfold pv at hd
          simp only [List.append_assoc, List.append_cancel_left_eq] at hd
          have h6 := rd_put v.d h5 (put v.a.length ++ (pat v.a ++ (putx v.t ++ (putx v.b ++ c))))
          rw [hd, rd_put d hd5] at h6
          cases h6
          rfl
        -- so the reading with checks passes
        unfold rv at k
        unfold rvP at e
        cases e1 : rd b with
        | none => rw [e1] at k; cases k
        | some p =>
        obtain ⟨i, b1⟩ := p; rw [e1] at e k; simp only [Option.bind_some] at e k
        obtain ⟨q1, z1, w1⟩ := rd_inv hb e1
        cases e2 : rd b1 with
        | none => rw [e2] at k; cases k
        | some p =>
        obtain ⟨l, b2⟩ := p; rw [e2] at e k; simp only [Option.bind_some] at e k
        obtain ⟨q2, z2, w2⟩ := rd_inv w1 e2
        cases e3 : rd b2 with
        | none => rw [e3] at k; cases k
        | some p =>
        obtain ⟨r, b3⟩ := p; rw [e3] at e k; simp only [Option.bind_some] at e k
        obtain ⟨q3, z3, w3⟩ := rd_inv w2 e3
        cases e4 : rd b3 with
        | none => rw [e4] at k; cases k
        | some p =>
        obtain ⟨n, b4⟩ := p; rw [e4] at e k; simp only [Option.bind_some] at e k
        obtain ⟨q4, z4, w4⟩ := rd_inv w3 e4
        unfold rfg at e
        cases e5 : rd b4 with
        | none => rw [e5] at k; cases k
        | some p =>
        obtain ⟨d', b5⟩ := p; rw [e5] at e k; simp only [Option.bind_some] at e k
        obtain ⟨q5, z5, w5⟩ := rd_inv w4 e5
        unfold ratP at e
        cases e6 : rd b5 with
        | none => rw [e6] at k; cases k
        | some p =>
        obtain ⟨kk, b6⟩ := p; rw [e6] at k; simp only [Option.bind_some] at k
        obtain ⟨q6, z6, w6⟩ := rd_inv w5 e6
        cases e7 : rat kk b6 with
        | none => rw [e7] at k; cases k
        | some p =>
        obtain ⟨a, b7⟩ := p; rw [e7] at k; simp only [Option.bind_some] at k
        obtain ⟨q7, hk7, w7⟩ := rat_inv kk w6 e7
        cases e8 : rt b7 with
        | none => rw [e8] at k; cases k
        | some p =>
        obtain ⟨t, b8⟩ := p; rw [e8] at k; simp only [Option.bind_some] at k
        cases e9 : rt b8 with
        | none => rw [e9] at k; cases k
        | some p =>
        obtain ⟨e', b9⟩ := p; rw [e9] at k; simp only [Option.bind_some] at k
        cases k
        simp only at m3 m4 hdd
        have hd' : d' = d := by
          rw [q1, q2, q3, q4, q5] at hd
          simp only [List.append_assoc, List.append_cancel_left_eq] at hd
          have h1 := rd_put d' z5 b5
          rw [hd, rd_put d hd5] at h1
          cases h1
          rfl
        have hd1 : d' ≤ 1 := by omega
        have hk3 : kk ≤ 3 := by omega
        rw [if_pos hd1] at e; simp only [Option.bind_some] at e
        rw [e6] at e; simp only [Option.bind_some] at e
        rw [if_pos hk3] at e
        rw [e7] at e; simp only [Option.bind_some] at e
        rw [e8] at e; simp only [Option.bind_some] at e
        rw [e9] at e; simp only [Option.bind_some] at e
        cases e
      · rw [if_neg hm]

end Go.Proofs.YtopkeembbopbmaaDoor
