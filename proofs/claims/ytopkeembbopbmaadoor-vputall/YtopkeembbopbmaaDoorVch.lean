/- Reading a version part by part as a chain; which versions may be, told by their parts. No walk. -/
import Derived.Test.YtopkeembbopbmaaDoorRdq
namespace Go.Proofs.YtopkeembbopbmaaDoor
open Go.RowKit
set_option maxRecDepth 100000
set_option linter.unusedVariables false

theorem chain (l : List Nat) {r1 r2 r3 r4 r5 : Option (Nat × List Nat)} {r6 : Option (List (Nat × Nat) × List Nat)} {r7 r8 : Option (List Nat × List Nat)}
    (h1 : r1 = (some l).bind rd) (h2 : r2 = (r1.map (·.2)).bind rd) (h3 : r3 = (r2.map (·.2)).bind rd) (h4 : r4 = (r3.map (·.2)).bind rd) (h5 : r5 = (r4.map (·.2)).bind rfg) (h6 : r6 = (r5.map (·.2)).bind ratP) (h7 : r7 = (r6.map (·.2)).bind rt) (h8 : r8 = (r7.map (·.2)).bind rt) :
    (r8.map (·.2) = none ∧ rvP l = none) ∨ ∃ V c l1 l2 l3 l4 l5 l6 l7, r8.map (·.2) = some c ∧ rvP l = some (V, c) ∧ r1 = some (V.i, l1) ∧ r2 = some (V.l, l2) ∧ r3 = some (V.r, l3) ∧ r4 = some (V.n, l4) ∧ r5 = some (V.d, l5) ∧ r6 = some (V.a, l6) ∧ r7 = some (V.t, l7) ∧ r8 = some (V.b, c) := by
  have key : ∀ {α β : Type} {x : Option (α × List Nat)} {f : List Nat → Option β}, x = none → (x.map (·.2)).bind f = none := by
    intro α β x f e; rw [e]; rfl
  have step : ∀ {α β : Type} {x : Option (α × List Nat)} {f : List Nat → Option β} {a : α} {m : List Nat}, x = some (a, m) → (x.map (·.2)).bind f = f m := by
    intro α β x f a m e; rw [e]; rfl
  unfold rvP
  have e1 : r1 = rd l := h1
  cases c1 : rd l with
  | none =>
    rw [c1] at e1
    have q2 := h2.trans (key e1); have q3 := h3.trans (key q2); have q4 := h4.trans (key q3); have q5 := h5.trans (key q4); have q6 := h6.trans (key q5); have q7 := h7.trans (key q6); have q8 := h8.trans (key q7)
    exact .inl ⟨by rw [q8]; rfl, rfl⟩
  | some x1 =>
  obtain ⟨v1, l1⟩ := x1
  rw [c1] at e1
  have e2 := h2.trans (step e1)
  simp only [Option.bind_some]
  cases c2 : rd l1 with
  | none =>
    rw [c2] at e2
    have q3 := h3.trans (key e2); have q4 := h4.trans (key q3); have q5 := h5.trans (key q4); have q6 := h6.trans (key q5); have q7 := h7.trans (key q6); have q8 := h8.trans (key q7)
    exact .inl ⟨by rw [q8]; rfl, rfl⟩
  | some x2 =>
  obtain ⟨v2, l2⟩ := x2
  rw [c2] at e2
  have e3 := h3.trans (step e2)
  simp only [Option.bind_some]
  cases c3 : rd l2 with
  | none =>
    rw [c3] at e3
    have q4 := h4.trans (key e3); have q5 := h5.trans (key q4); have q6 := h6.trans (key q5); have q7 := h7.trans (key q6); have q8 := h8.trans (key q7)
    exact .inl ⟨by rw [q8]; rfl, rfl⟩
  | some x3 =>
  obtain ⟨v3, l3⟩ := x3
  rw [c3] at e3
  have e4 := h4.trans (step e3)
  simp only [Option.bind_some]
  cases c4 : rd l3 with
  | none =>
    rw [c4] at e4
    have q5 := h5.trans (key e4); have q6 := h6.trans (key q5); have q7 := h7.trans (key q6); have q8 := h8.trans (key q7)
    exact .inl ⟨by rw [q8]; rfl, rfl⟩
  | some x4 =>
  obtain ⟨v4, l4⟩ := x4
  rw [c4] at e4
  have e5 := h5.trans (step e4)
  simp only [Option.bind_some]
  cases c5 : rfg l4 with
  | none =>
    rw [c5] at e5
    have q6 := h6.trans (key e5); have q7 := h7.trans (key q6); have q8 := h8.trans (key q7)
    exact .inl ⟨by rw [q8]; rfl, rfl⟩
  | some x5 =>
  obtain ⟨v5, l5⟩ := x5
  rw [c5] at e5
  have e6 := h6.trans (step e5)
  simp only [Option.bind_some]
  cases c6 : ratP l5 with
  | none =>
    rw [c6] at e6
    have q7 := h7.trans (key e6); have q8 := h8.trans (key q7)
    exact .inl ⟨by rw [q8]; rfl, rfl⟩
  | some x6 =>
  obtain ⟨v6, l6⟩ := x6
  rw [c6] at e6
  have e7 := h7.trans (step e6)
  simp only [Option.bind_some]
  cases c7 : rt l6 with
  | none =>
    rw [c7] at e7
    have q8 := h8.trans (key e7)
    exact .inl ⟨by rw [q8]; rfl, rfl⟩
  | some x7 =>
  obtain ⟨v7, l7⟩ := x7
  rw [c7] at e7
  have e8 := h8.trans (step e7)
  simp only [Option.bind_some]
  cases c8 : rt l7 with
  | none =>
    rw [c8] at e8
    exact .inl ⟨by rw [e8]; rfl, rfl⟩
  | some x8 =>
  obtain ⟨v8, l8⟩ := x8
  rw [c8] at e8
  exact .inr ⟨⟨v1, v2, v3, v4, v5, v6, v7, v8⟩, l8, l1, l2, l3, l4, l5, l6, l7, by rw [e8]; rfl, rfl, e1, e2, e3, e4, e5, e6, e7, e8⟩

/-- What fields are these parts. -/
def Parts (u : Vn) (al : List (Int × Int)) (V : Vp) : Prop := u.it = (V.i : Int) ∧ u.L = (V.l : Int) ∧ u.R = (V.r : Int) ∧ u.N = (V.n : Int) ∧ b2n u.dead = V.d ∧ al = castA V.a ∧ bl u.tag = V.t ∧ bl u.body = V.b

theorem Parts.vp {u : Vn} {al : List (Int × Int)} {V : Vp} (h : Parts u al V) : vp u al = V := by
  obtain ⟨h1, h2, h3, h4, h5, h6, h7, h8⟩ := h
  obtain ⟨i, l, r, n, d, a, t, b⟩ := V
  unfold Go.Proofs.YtopkeembbopbmaaDoor.vp
  simp only at h1 h2 h3 h4 h5 h6 h7 h8
  rw [h1, h2, h3, h4, h5, h6, h7, h8]
  simp only [Int.toNat_natCast, Vp.mk.injEq, true_and, and_true]
  unfold castA
  rw [List.map_map]
  conv => rhs; rw [← List.map_id a]
  apply List.map_congr_left
  intro p hp
  rfl

theorem Parts.may {u : Vn} {al : List (Int × Int)} {V : Vp} (h : Parts u al V) : mayI u al = mayN V := by
  obtain ⟨h1, h2, h3, h4, h5, h6, h7, h8⟩ := h
  obtain ⟨i, l, r, n, d, a, t, b⟩ := V
  obtain ⟨it, L, R, N, dead, ao, len, cap, tag, body⟩ := u
  simp only at h1 h2 h3 h4 h5 h6 h7 h8
  subst h1 h2 h3 h4 h5 h6 h7 h8
  rw [mayN_mk]
  unfold mayI tagOk bodyOk castA
  simp only [bl_len]
  have e1 : decide ((1 : Int) ≤ (i : Int)) = decide (1 ≤ i) := by rw [decide_eq_decide]; omega
  have e2 : decide ((i : Int) ≤ (6 : Int)) = decide (i ≤ 6) := by rw [decide_eq_decide]; omega
  rw [e1, e2]
  congr 4
  cases dead <;> simp [b2n]

theorem ver_tell {l : List Nat} {r1 r2 r3 r4 r5 : Option (Nat × List Nat)} {r6 : Option (List (Nat × Nat) × List Nat)} {r7 r8 : Option (List Nat × List Nat)}
    (h1 : r1 = (some l).bind rd) (h2 : r2 = (r1.map (·.2)).bind rd) (h3 : r3 = (r2.map (·.2)).bind rd) (h4 : r4 = (r3.map (·.2)).bind rd) (h5 : r5 = (r4.map (·.2)).bind rfg) (h6 : r6 = (r5.map (·.2)).bind ratP) (h7 : r7 = (r6.map (·.2)).bind rt) (h8 : r8 = (r7.map (·.2)).bind rt)
    {v1 v2 v3 v4 : Nat} {d5 : Bool} {ao6 : Option Addr} {n6 cap6 : Nat} {al6 : List (Int × Int)} {t7 t8 : ByteArray}
    (f1 : ∀ x l, r1 = some (x, l) → v1 = x) (f2 : ∀ x l, r2 = some (x, l) → v2 = x) (f3 : ∀ x l, r3 = some (x, l) → v3 = x) (f4 : ∀ x l, r4 = some (x, l) → v4 = x) (f5 : ∀ x l, r5 = some (x, l) → x = b2n d5) (f6 : ∀ x l, r6 = some (x, l) → al6 = castA x) (f7 : ∀ x l, r7 = some (x, l) → t7 = strs x ∧ bl t7 = x) (f8 : ∀ x l, r8 = some (x, l) → t8 = strs x ∧ bl t8 = x) :
    (r8.map (·.2) = none ∧ rvP l = none) ∨ ∃ V c, r8.map (·.2) = some c ∧ rvP l = some (V, c) ∧ Parts ⟨v1, v2, v3, v4, d5, ao6, n6, cap6, t7, t8⟩ al6 V := by
  rcases chain l h1 h2 h3 h4 h5 h6 h7 h8 with h | ⟨V, c, l1, l2, l3, l4, l5, l6, l7, e, ev, e1, e2, e3, e4, e5, e6, e7, e8⟩
  · exact .inl h
  · refine .inr ⟨V, c, e, ev, ?_⟩
    have g1 := f1 _ _ e1
    have g2 := f2 _ _ e2
    have g3 := f3 _ _ e3
    have g4 := f4 _ _ e4
    refine ⟨by show (v1 : Int) = _; rw [g1], by show (v2 : Int) = _; rw [g2], by show (v3 : Int) = _; rw [g3], by show (v4 : Int) = _; rw [g4], (f5 _ _ e5).symm, f6 _ _ e6, (f7 _ _ e7).2, (f8 _ _ e8).2⟩

theorem tvP_of_none {may : Vp → Bool} {l : List Nat} (h : rvP l = none) : tvP may l = none := by unfold tvP; rw [h]
theorem tvP_of_not {may : Vp → Bool} {l c : List Nat} {V : Vp} (h : rvP l = some (V, c)) (hm : may V = false) : tvP may l = none := by unfold tvP; rw [h]; simp only; rw [hm]; rfl
theorem tvP_of_may {may : Vp → Bool} {l c : List Nat} {V : Vp} (h : rvP l = some (V, c)) (hm : may V = true) : tvP may l = some (V, l.length - c.length) := by unfold tvP; rw [h]; simp only; rw [hm]; rfl

end Go.Proofs.YtopkeembbopbmaaDoor
