/- What stands while the document reads a version; the reading as a chain. No walk. -/
import Derived.Test.YtopkeembbopbmaaDoorRrd
import Derived.Test.YtopkeembbopbmaaDoorPuw
import Derived.Test.YtopkeembbopbmaaDoorTke
namespace Go.Proofs.YtopkeembbopbmaaDoor
open Go.RowKit
set_option maxRecDepth 100000
set_option linter.unusedVariables false

/-- The zero version's cells. -/
def zf : Nat → Value := fun j => if j = 4 then .bool false else if j = 5 then .slice none 0 0 else if j = 6 then .string ⟨#[]⟩ else if j = 7 then .string ⟨#[]⟩ else .int .i64 0

/-- The reader at block rb, the version at block tb, the result at the block ahead of the reader. -/
structure Rdd (w0 w : World) (rb tb : Nat) (o : Option (List Nat)) (u : Vn) (al : List (Int × Int)) : Prop where
  r : RsD w rb o
  c : ∀ j, j < 8 → w.cell? ⟨tb, j, none⟩ = (vcells u)[j]? ∧ w.frozen? ⟨tb, j, none⟩ = false
  own : w.ownsRow (tb + 1) 42 2 (.slice u.ao u.len u.cap) u.len (cellsA al)
  ln : u.len = al.length
  k : Below w0.heap.size w0 w
  e : rb = w0.heap.size + 1
  s : tb < w.heap.size
  n : rb < tb
  t : u.tag.size ≤ 1000
  d : u.body.size ≤ 1000
  z : Cs w w0.heap.size zf

theorem own_kept2 {P : Nat → Prop} {w w' : World} {base : Nat} {e : TypeId} {size : Nat} {v : Value} {n : Nat} {xs : List Value} (h : w.ownsRow base e size v n xs) (hk : Kept P w w') (hp : ∀ k, base ≤ k → k < w.heap.size → P k) : w'.ownsRow base e size v n xs := by
  obtain ⟨h1, h2⟩ := h
  refine ⟨h1, ?_⟩
  rcases h2 with h2 | ⟨g, cap, cur, hv, hg, hh, r⟩
  · exact Or.inl h2
  · have hlt : g < w.heap.size := by
      by_cases hlt : g < w.heap.size
      · exact hlt
      · rw [Array.getElem?_eq_none (by omega)] at hh; cases hh
    exact Or.inr ⟨g, cap, cur, hv, hg, by rw [hk.block g hlt (hp g hg hlt)]; exact hh, r⟩

theorem Rdd.call {w0 w w' : World} {rb tb : Nat} {o o' : Option (List Nat)} {u : Vn} {al : List (Int × Int)} (h : Rdd w0 w rb tb o u al) (hr : RsD w' rb o') (hk : Kept (But rb) w w') : Rdd w0 w' rb tb o' u al := by
  have h1 := h.e
  have h2 := h.n
  have h3 := h.s
  refine ⟨hr, fun j hj => ⟨(hk.cell h3 (by unfold But; omega)).trans (h.c j hj).1, (hk.frozen h3 (by unfold But; omega)).trans (h.c j hj).2⟩, own_kept2 h.own hk (fun k hk _ => by unfold But; omega), h.ln, ?_, h.e, Nat.lt_of_lt_of_le h.s hk.size, h.n, h.t, h.d, h.z.kept hk (by unfold But; omega)⟩
  exact h.k.trans (hk.below (by omega) (fun k hk => by unfold But; omega))

theorem Rdd.set {w0 w : World} {rb tb : Nat} {o : Option (List Nat)} {u u' : Vn} {al : List (Int × Int)} (h : Rdd w0 w rb tb o u al) (i : Nat) (x : Value) (hi : i < 8) (hc : ∀ j, j < 8 → (vcells u')[j]? = if j = i then some x else (vcells u)[j]?) (e1 : u'.ao = u.ao) (e2 : u'.len = u.len) (e3 : u'.cap = u.cap) (ht : u'.tag.size ≤ 1000) (hd : u'.body.size ≤ 1000) :
    Rdd w0 (w.setCell ⟨tb, i, none⟩ x) rb tb o u' al := by
  have h1 := h.e
  have h2 := h.n
  have h3 := h.s
  have hk : Kept (But tb) w (w.setCell ⟨tb, i, none⟩ x) := (Kept.refl (But tb) w).setCell (p := ⟨tb, i, none⟩) (fun k _ hk => hk) _
  refine ⟨h.r.kept hk (by unfold But; omega) (fun k hk => by unfold But; omega), fun j hj => ⟨?_, ?_⟩, ?_, by rw [e2]; exact h.ln, ?_, h.e, by simpa [World.setCell] using h.s, h.n, ht, hd, h.z.kept hk (by unfold But; omega)⟩
  · rw [hc j hj]
    by_cases e : j = i
    · subst e
      rw [if_pos rfl]
      obtain ⟨old, ho⟩ : ∃ old, (vcells u)[j]? = some old := ⟨(vcells u)[j]'(by simp [vcells]; omega), Array.getElem?_eq_getElem _⟩
      exact World.cell?_setCell_same _ _ _ ((h.c j hj).1.trans ho)
    · rw [if_neg e, World.cell?_setCell_other _ _ _ _ (by intro q; have := congrArg Addr.off q; simp at this; omega)]
      exact (h.c j hj).1
  · rw [World.frozen?_setCell]; exact (h.c j hj).2
  · rw [e1, e2, e3]; exact own_kept2 h.own hk (fun k hk _ => by unfold But; omega)
  · exact h.k.trans ((Below.refl _ w).setCell (p := ⟨tb, i, none⟩) (by show w0.heap.size ≤ tb; omega) _)

/-- One attribute more. -/
theorem Rdd.app {w0 w w' : World} {rb tb : Nat} {o : Option (List Nat)} {it L R N : Int} {dead : Bool} {ao ao' : Option Addr} {len cap cap' : Nat} {tag body : ByteArray} {al : List (Int × Int)} {p : Int × Int} (h : Rdd w0 w rb tb o ⟨it, L, R, N, dead, ao, len, cap, tag, body⟩ al) (hown : w'.ownsRow (tb + 1) 42 2 (.slice ao' (len + 1) cap') (len + 1) (cellsA (al ++ [p]))) (hb : Below (tb + 1) w w') :
    Rdd w0 (w'.setCell ⟨tb, 5, none⟩ (.slice ao' (len + 1) cap')) rb tb o ⟨it, L, R, N, dead, ao', len + 1, cap', tag, body⟩ (al ++ [p]) := by
  have h1 := h.e
  have h2 := h.n
  have h3 := h.s
  have hsz := hb.size
  have hk0 : Kept (fun k => k < tb + 1) w w' := ⟨hb.os, hb.tape, hb.output, hb.size, fun k hk hp => hb.block k hp⟩
  have hk : Kept (But tb) w' (w'.setCell ⟨tb, 5, none⟩ (.slice ao' (len + 1) cap')) := (Kept.refl (But tb) w').setCell (p := ⟨tb, 5, none⟩) (fun k _ hk => hk) _
  refine ⟨(h.r.kept hk0 (by omega) (fun k hk => by omega)).kept hk (by unfold But; omega) (fun k hk => by unfold But; omega), fun j hj => ⟨?_, ?_⟩, own_kept2 hown hk (fun k hk _ => by unfold But; omega), by show len + 1 = _; rw [List.length_append]; have := h.ln; simp only at this; simp; omega, ?_, h.e, by simpa [World.setCell] using Nat.lt_of_lt_of_le h.s hsz, h.n, h.t, h.d, (h.z.kept hk0 (by omega)).kept hk (by unfold But; omega)⟩
  · by_cases e : j = 5
    · subst e
      exact World.cell?_setCell_same _ _ _ ((hb.cell (p := ⟨tb, 5, none⟩) (by show tb < tb + 1; omega)).trans (h.c 5 (by omega)).1)
    · rw [World.cell?_setCell_other _ _ _ _ (by intro q; have := congrArg Addr.off q; simp at this; omega)]
      refine ((hb.cell (p := ⟨tb, j, none⟩) (by show tb < tb + 1; omega)).trans (h.c j hj).1).trans ?_
      match j, hj, e with
      | 0, _, _ => rfl
      | 1, _, _ => rfl
      | 2, _, _ => rfl
      | 3, _, _ => rfl
      | 4, _, _ => rfl
      | 6, _, _ => rfl
      | 7, _, _ => rfl
  · rw [World.frozen?_setCell]; exact (hb.frozen (p := ⟨tb, j, none⟩) (by show tb < tb + 1; omega)).trans (h.c j hj).2
  · have q1 : Below w0.heap.size w w' := hb.mono (by omega)
    exact h.k.trans (q1.trans ((Below.refl _ w').setCell (p := ⟨tb, 5, none⟩) (by show w0.heap.size ≤ tb; omega) _))

theorem Rdd.at_ {w0 w : World} {rb tb : Nat} {o : Option (List Nat)} {u : Vn} {al : List (Int × Int)} (h : Rdd w0 w rb tb o u al) (h1 : u.len ≤ 1000) : Has w u al ∧ ∀ b off, u.ao = some ⟨b, off, none⟩ → tb + 1 ≤ b := by
  obtain ⟨q1, q2⟩ := At.of_own h.own h.ln h1
  exact ⟨q1, fun b off e => (q2 b off e).1⟩

theorem chainD (l : List Nat) {r1 r2 r3 r4 r5 r6 : Option (Nat × List Nat)} {R : Option (List (Nat × Nat) × List Nat)} {r7 r8 : Option (List Nat × List Nat)}
    (h1 : r1 = (some l).bind rd) (h2 : r2 = (r1.map (·.2)).bind rd) (h3 : r3 = (r2.map (·.2)).bind rd) (h4 : r4 = (r3.map (·.2)).bind rd) (h5 : r5 = (r4.map (·.2)).bind rd) (h6 : r6 = (r5.map (·.2)).bind rd) (hR : R = r6.bind fun x => rat x.1 x.2) (h7 : r7 = (R.map (·.2)).bind rt) (h8 : r8 = (r7.map (·.2)).bind rt) :
    (r8.map (·.2) = none ∧ rv l = none) ∨ ∃ V c d l1 l2 l3 l4 l5 l7, r8.map (·.2) = some c ∧ rv l = some (V, c) ∧ r1 = some (V.i, l1) ∧ r2 = some (V.l, l2) ∧ r3 = some (V.r, l3) ∧ r4 = some (V.n, l4) ∧ (∃ m, r5 = some (d, m)) ∧ V.d = (if d = 0 then 0 else 1) ∧ R = some (V.a, l5) ∧ r7 = some (V.t, l7) ∧ r8 = some (V.b, c) := by
  have key : ∀ {α β : Type} {x : Option (α × List Nat)} {f : List Nat → Option β}, x = none → (x.map (·.2)).bind f = none := by
    intro α β x f e; rw [e]; rfl
  have step : ∀ {α β : Type} {x : Option (α × List Nat)} {f : List Nat → Option β} {a : α} {m : List Nat}, x = some (a, m) → (x.map (·.2)).bind f = f m := by
    intro α β x f a m e; rw [e]; rfl
  have keyR : r6 = none → R = none := fun e => by rw [hR, e]; rfl
  unfold rv
  have e1 : r1 = rd l := h1
  cases c1 : rd l with
  | none =>
    rw [c1] at e1
    have q2 := h2.trans (key e1); have q3 := h3.trans (key q2); have q4 := h4.trans (key q3); have q5 := h5.trans (key q4); have q6 := h6.trans (key q5); have q7 := h7.trans (key (keyR q6)); have q8 := h8.trans (key q7)
    exact .inl ⟨by rw [q8]; rfl, rfl⟩
  | some x1 =>
  obtain ⟨v1, l1⟩ := x1
  rw [c1] at e1
  have e2 := h2.trans (step e1)
  simp only [Option.bind_some]
  cases c2 : rd l1 with
  | none =>
    rw [c2] at e2
    have q3 := h3.trans (key e2); have q4 := h4.trans (key q3); have q5 := h5.trans (key q4); have q6 := h6.trans (key q5); have q7 := h7.trans (key (keyR q6)); have q8 := h8.trans (key q7)
    exact .inl ⟨by rw [q8]; rfl, rfl⟩
  | some x2 =>
  obtain ⟨v2, l2⟩ := x2
  rw [c2] at e2
  have e3 := h3.trans (step e2)
  simp only [Option.bind_some]
  cases c3 : rd l2 with
  | none =>
    rw [c3] at e3
    have q4 := h4.trans (key e3); have q5 := h5.trans (key q4); have q6 := h6.trans (key q5); have q7 := h7.trans (key (keyR q6)); have q8 := h8.trans (key q7)
    exact .inl ⟨by rw [q8]; rfl, rfl⟩
  | some x3 =>
  obtain ⟨v3, l3⟩ := x3
  rw [c3] at e3
  have e4 := h4.trans (step e3)
  simp only [Option.bind_some]
  cases c4 : rd l3 with
  | none =>
    rw [c4] at e4
    have q5 := h5.trans (key e4); have q6 := h6.trans (key q5); have q7 := h7.trans (key (keyR q6)); have q8 := h8.trans (key q7)
    exact .inl ⟨by rw [q8]; rfl, rfl⟩
  | some x4 =>
  obtain ⟨v4, l4⟩ := x4
  rw [c4] at e4
  have e5 := h5.trans (step e4)
  simp only [Option.bind_some]
  cases c5 : rd l4 with
  | none =>
    rw [c5] at e5
    have q6 := h6.trans (key e5); have q7 := h7.trans (key (keyR q6)); have q8 := h8.trans (key q7)
    exact .inl ⟨by rw [q8]; rfl, rfl⟩
  | some x5 =>
  obtain ⟨v5, l5⟩ := x5
  rw [c5] at e5
  have e6 := h6.trans (step e5)
  simp only [Option.bind_some]
  cases c6 : rd l5 with
  | none =>
    rw [c6] at e6
    have q7 := h7.trans (key (keyR e6)); have q8 := h8.trans (key q7)
    exact .inl ⟨by rw [q8]; rfl, rfl⟩
  | some x6 =>
  obtain ⟨v6, l6⟩ := x6
  rw [c6] at e6
  have eR : R = rat v6 l6 := by rw [hR, e6]; rfl
  simp only [Option.bind_some]
  cases cR : rat v6 l6 with
  | none =>
    rw [cR] at eR
    have q7 := h7.trans (key eR); have q8 := h8.trans (key q7)
    exact .inl ⟨by rw [q8]; rfl, rfl⟩
  | some x7 =>
  obtain ⟨va, la⟩ := x7
  rw [cR] at eR
  have e7 := h7.trans (step eR)
  simp only [Option.bind_some]
  cases c7 : rt la with
  | none =>
    rw [c7] at e7
    have q8 := h8.trans (key e7)
    exact .inl ⟨by rw [q8]; rfl, rfl⟩
  | some x8 =>
  obtain ⟨v7, l7⟩ := x8
  rw [c7] at e7
  have e8 := h8.trans (step e7)
  simp only [Option.bind_some]
  cases c8 : rt l7 with
  | none =>
    rw [c8] at e8
    exact .inl ⟨by rw [e8]; rfl, rfl⟩
  | some x9 =>
  obtain ⟨v8, l8⟩ := x9
  rw [c8] at e8
  exact .inr ⟨⟨v1, v2, v3, v4, (if v5 = 0 then 0 else 1), va, v7, v8⟩, l8, v5, l1, l2, l3, l4, la, l7, by rw [e8]; rfl, rfl, e1, e2, e3, e4, ⟨l5, e5⟩, rfl, eR, e7, e8⟩

theorem ver_tellD {l : List Nat} {r1 r2 r3 r4 r5 r6 : Option (Nat × List Nat)} {R : Option (List (Nat × Nat) × List Nat)} {r7 r8 : Option (List Nat × List Nat)}
    (h1 : r1 = (some l).bind rd) (h2 : r2 = (r1.map (·.2)).bind rd) (h3 : r3 = (r2.map (·.2)).bind rd) (h4 : r4 = (r3.map (·.2)).bind rd) (h5 : r5 = (r4.map (·.2)).bind rd) (h6 : r6 = (r5.map (·.2)).bind rd) (hR : R = r6.bind fun x => rat x.1 x.2) (h7 : r7 = (R.map (·.2)).bind rt) (h8 : r8 = (r7.map (·.2)).bind rt)
    {v1 v2 v3 v4 v5 : Nat} {d5 : Bool} {ao6 : Option Addr} {n6 cap6 : Nat} {al6 : List (Int × Int)} {t7 t8 : ByteArray}
    (f1 : ∀ x l, r1 = some (x, l) → v1 = x) (f2 : ∀ x l, r2 = some (x, l) → v2 = x) (f3 : ∀ x l, r3 = some (x, l) → v3 = x) (f4 : ∀ x l, r4 = some (x, l) → v4 = x) (f5 : ∀ x l, r5 = some (x, l) → v5 = x) (fd : d5 = ((v5 : Int) != 0)) (f6 : ∀ x l, R = some (x, l) → al6 = castA x) (f7 : ∀ x l, r7 = some (x, l) → t7 = strs x ∧ bl t7 = x) (f8 : ∀ x l, r8 = some (x, l) → t8 = strs x ∧ bl t8 = x) :
    (r8.map (·.2) = none ∧ rv l = none) ∨ ∃ V c, r8.map (·.2) = some c ∧ rv l = some (V, c) ∧ Parts ⟨v1, v2, v3, v4, d5, ao6, n6, cap6, t7, t8⟩ al6 V := by
  rcases chainD l h1 h2 h3 h4 h5 h6 hR h7 h8 with h | ⟨V, c, d, l1, l2, l3, l4, l5, l7, e, ev, e1, e2, e3, e4, ⟨m, e5⟩, ed, e6, e7, e8⟩
  · exact .inl h
  · refine .inr ⟨V, c, e, ev, ?_⟩
    have g1 := f1 _ _ e1
    have g2 := f2 _ _ e2
    have g3 := f3 _ _ e3
    have g4 := f4 _ _ e4
    have g5 := f5 _ _ e5
    refine ⟨by show (v1 : Int) = _; rw [g1], by show (v2 : Int) = _; rw [g2], by show (v3 : Int) = _; rw [g3], by show (v4 : Int) = _; rw [g4], ?_, f6 _ _ e6, (f7 _ _ e7).2, (f8 _ _ e8).2⟩
    show b2n d5 = V.d
    rw [ed, fd, g5]
    unfold b2n
    by_cases hd : d = 0
    · subst hd; rfl
    · have : ((d : Int) != 0) = true := by simpa using hd
      rw [this, if_pos rfl, if_neg hd]

end Go.Proofs.YtopkeembbopbmaaDoor
