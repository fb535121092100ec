/- vput.version: the version that bytes begin with. -/
import Derived.Test.YtopkeembbopbmaaDoorVch
namespace Go.Proofs.YtopkeembbopbmaaDoor
open Go.RowKit
set_option maxRecDepth 100000
set_option linter.unusedVariables false

/-- What stands while a version is read: the reader at block vb + 1, the version at block vb. -/
structure Rdn (w0 w : World) (a b : Addr) (vb : Nat) (o : Option (List Nat)) (u : Vn) (al : List (Int × Int)) : Prop where
  v : Vars w a b
  r : RsP w (vb + 1) o
  c : ∀ j, j < 8 → w.cell? ⟨vb, j, none⟩ = (vcells u)[j]? ∧ w.frozen? ⟨vb, j, none⟩ = false
  at_ : At w u.ao u.len al
  ab : ∀ b off, u.ao = some ⟨b, off, none⟩ → vb + 1 < b
  k : Below vb w0 w
  s : vb + 1 < w.heap.size
  n : 2 < vb
  t : u.tag.size ≤ 1000
  d : u.body.size ≤ 1000

theorem Rdn.call {w0 w w' : World} {a b : Addr} {vb : Nat} {o o' : Option (List Nat)} {u : Vn} {al : List (Int × Int)} (h : Rdn w0 w a b vb o u al) (hr : RsP w' (vb + 1) o') (hk : Kept (But (vb + 1)) w w') : Rdn w0 w' a b vb o' u al := by
  have h2 := h.n
  have h3 := h.s
  refine ⟨h.v.kept hk (by unfold But; omega) (by unfold But; omega) (by unfold But; omega), hr, fun j hj => ⟨(hk.cell (by omega) (by unfold But; omega)).trans (h.c j hj).1, (hk.frozen (by omega) (by unfold But; omega)).trans (h.c j hj).2⟩, h.at_.of hk (fun b off _ e => by have := h.ab b off e; unfold But; omega), h.ab, ?_, Nat.lt_of_lt_of_le h.s hk.size, h.n, h.t, h.d⟩
  exact h.k.trans (hk.below (by omega) (fun k hk => by unfold But; omega))

theorem Rdn.set {w0 w : World} {a b : Addr} {vb : Nat} {o : Option (List Nat)} {u u' : Vn} {al al' : List (Int × Int)} (h : Rdn w0 w a b vb o u al) (i : Nat) (x : Value) (hi : i < 8) (hc : ∀ j, j < 8 → (vcells u')[j]? = if j = i then some x else (vcells u)[j]?) (hat : At w u'.ao u'.len al') (hab : ∀ b off, u'.ao = some ⟨b, off, none⟩ → vb + 1 < b) (ht : u'.tag.size ≤ 1000) (hd : u'.body.size ≤ 1000) :
    Rdn w0 (w.setCell ⟨vb, i, none⟩ x) a b vb o u' al' := by
  have h2 := h.n
  have h3 := h.s
  have hk : Kept (But vb) w (w.setCell ⟨vb, i, none⟩ x) := (Kept.refl (But vb) w).setCell (p := ⟨vb, i, none⟩) (fun k _ hk => hk) _
  refine ⟨h.v.kept hk (by unfold But; omega) (by unfold But; omega) (by unfold But; omega), h.r.kept hk (by unfold But; omega) (fun k hk => by unfold But; omega), fun j hj => ⟨?_, ?_⟩, hat.of hk (fun b off _ e => by have := hab b off e; unfold But; omega), hab, ?_, ?_, h.n, ht, hd⟩
  · rw [hc j hj]
    by_cases e : j = i
    · subst e
      rw [if_pos rfl]
      obtain ⟨old, ho⟩ : ∃ old, (vcells u)[j]? = some old := ⟨(vcells u)[j]'(by simp [vcells]; omega), Array.getElem?_eq_getElem _⟩
      exact World.cell?_setCell_same _ _ _ ((h.c j hj).1.trans ho)
    · rw [if_neg e, World.cell?_setCell_other _ _ _ _ (by intro q; have := congrArg Addr.off q; simp at this; omega)]
      exact (h.c j hj).1
  · rw [World.frozen?_setCell]; exact (h.c j hj).2
  · exact h.k.trans ((Below.refl vb w).setCell (p := ⟨vb, i, none⟩) (Nat.le_refl _) _)
  · simpa [World.setCell] using h.s

/-- The eight cells. -/
theorem Rdn.cells {w0 w : World} {a b : Addr} {vb : Nat} {o : Option (List Nat)} {u : Vn} {al : List (Int × Int)} (h : Rdn w0 w a b vb o u al) :
    (w.cell? ⟨vb, 0, none⟩ = some (.int .i64 u.it) ∧ w.cell? ⟨vb, 1, none⟩ = some (.int .i64 u.L) ∧ w.cell? ⟨vb, 2, none⟩ = some (.int .i64 u.R) ∧ w.cell? ⟨vb, 3, none⟩ = some (.int .i64 u.N) ∧ w.cell? ⟨vb, 4, none⟩ = some (.bool u.dead) ∧ w.cell? ⟨vb, 5, none⟩ = some (.slice u.ao u.len u.cap) ∧ w.cell? ⟨vb, 6, none⟩ = some (.string u.tag) ∧ w.cell? ⟨vb, 7, none⟩ = some (.string u.body)) ∧
    (w.frozen? ⟨vb, 0, none⟩ = false ∧ w.frozen? ⟨vb, 1, none⟩ = false ∧ w.frozen? ⟨vb, 2, none⟩ = false ∧ w.frozen? ⟨vb, 3, none⟩ = false ∧ w.frozen? ⟨vb, 4, none⟩ = false ∧ w.frozen? ⟨vb, 5, none⟩ = false ∧ w.frozen? ⟨vb, 6, none⟩ = false ∧ w.frozen? ⟨vb, 7, none⟩ = false) :=
  ⟨⟨(h.c 0 (by omega)).1, (h.c 1 (by omega)).1, (h.c 2 (by omega)).1, (h.c 3 (by omega)).1, (h.c 4 (by omega)).1, (h.c 5 (by omega)).1, (h.c 6 (by omega)).1, (h.c 7 (by omega)).1⟩, (h.c 0 (by omega)).2, (h.c 1 (by omega)).2, (h.c 2 (by omega)).2, (h.c 3 (by omega)).2, (h.c 4 (by omega)).2, (h.c 5 (by omega)).2, (h.c 6 (by omega)).2, (h.c 7 (by omega)).2⟩

theorem eight {P : Nat → Prop} (h0 : P 0) (h1 : P 1) (h2 : P 2) (h3 : P 3) (h4 : P 4) (h5 : P 5) (h6 : P 6) (h7 : P 7) : ∀ j, j < 8 → P j := fun j hj => by
  match j, hj with
  | 0, _ => exact h0
  | 1, _ => exact h1
  | 2, _ => exact h2
  | 3, _ => exact h3
  | 4, _ => exact h4
  | 5, _ => exact h5
  | 6, _ => exact h6
  | 7, _ => exact h7

/-- What version tells. -/
def VerPost (w w' : World) (l : List Nat) (r : Ending) : Prop := ∃ (u : Vn) (al : List (Int × Int)) (m : Nat) (ev : Value), r = .returned (.tuple #[u.val, .int .i64 m, ev]) ∧ Has w' u al ∧ u.tag.size ≤ 1000 ∧ u.body.size ≤ 1000 ∧ Below w.heap.size w w' ∧ (∀ b off, u.ao = some ⟨b, off, none⟩ → w.heap.size ≤ b) ∧
  match tvP mayN l with
  | some (V, n) => ev = .nilIface ∧ m = n ∧ Parts u al V ∧ mayI u al = true
  | none => ∃ k, FauP k ev

theorem kept8 (vb : Nat) (w : World) (x0 x1 x2 x3 x4 x5 x6 x7 : Value) : Kept (But vb) w ((((((((w.setCell ⟨vb, 0, none⟩ x0).setCell ⟨vb, 1, none⟩ x1).setCell ⟨vb, 2, none⟩ x2).setCell ⟨vb, 3, none⟩ x3).setCell ⟨vb, 4, none⟩ x4).setCell ⟨vb, 5, none⟩ x5).setCell ⟨vb, 6, none⟩ x6).setCell ⟨vb, 7, none⟩ x7) := by
  have h : ∀ (W : World) (j : Nat) (x : Value), Kept (But vb) W (W.setCell ⟨vb, j, none⟩ x) := fun W j x => (Kept.refl (But vb) W).setCell (p := ⟨vb, j, none⟩) (fun k _ hk => hk) x
  exact ((((((((h _ 0 x0).trans (h _ 1 x1)).trans (h _ 2 x2)).trans (h _ 3 x3)).trans (h _ 4 x4)).trans (h _ 5 x5)).trans (h _ 6 x6)).trans (h _ 7 x7))

theorem ver_end {w w1 w' : World} {a b : Addr} {vb : Nat} {o : Option (List Nat)} {u : Vn} {al : List (Int × Int)} {l : List Nat} {m : Nat} {ev : Value} (J : Rdn w w1 a b vb o u al) (hk : Kept (But vb) w1 w') (hvb : vb = w.heap.size)
    (hT : match tvP mayN l with
      | some (V, n) => ev = .nilIface ∧ m = n ∧ Parts u al V ∧ mayI u al = true
      | none => ∃ k, FauP k ev) : VerPost w w' l (.returned (.tuple #[u.val, .int .i64 (m : Int), ev])) := by
  have hs := J.s
  refine ⟨u, al, m, ev, rfl, J.at_.of hk (fun b off _ e => by have := J.ab b off e; unfold But; omega), J.t, J.d, ?_, (fun b off e => by have := J.ab b off e; omega), hT⟩
  have hq := J.k.trans (hk.below (B := vb) (by omega) (fun k hk => by unfold But; omega))
  rw [← hvb]
  exact hq

set_option maxHeartbeats 8000000 in
theorem version20 (a b : Addr) (ao : Option Addr) (n cap : Nat) (l : List Nat) (w : World) (hV : Vars w a b) (hr : Rb w ao n cap l) (hn : n ≤ 1000) :
    Calls Tryd.prog 20 #[.slice ao n cap] w fun r w' => VerPost w w' l r := by
  obtain ⟨vb, hvb⟩ : ∃ vb, vb = w.heap.size := ⟨_, rfl⟩
  obtain ⟨W, hW⟩ : ∃ W, W = (w.alloc (.cells #[.int .i64 0, .int .i64 0, .int .i64 0, .int .i64 0, .bool false, .slice none 0 0, .string ⟨#[]⟩, .string ⟨#[]⟩] 26)).alloc (.cells #[.slice ao n cap, .nilIface] 68) := ⟨_, rfl⟩
  have hBW : Below w.heap.size w W := by rw [hW]; exact ((Below.refl _ w).alloc (Nat.le_refl _) _).alloc (by simp) _
  have H0 : Hid (Rdn w W a b vb (some l) ⟨0, 0, 0, 0, false, none, 0, 0, ⟨#[]⟩, ⟨#[]⟩⟩ []) := by
    have hlt := hV.lt
    refine ⟨hV.below hBW, ⟨?_, ?_, ao, n, cap, .nilIface, ?_, ?_, hn, ?_, hr.kept hBW, rfl⟩, eight ?_ ?_ ?_ ?_ ?_ ?_ ?_ ?_, At.none _ _, (fun _ _ e => by cases e), by rw [hvb]; exact hBW, ?_, by omega, (by show 0 ≤ 1000; omega), (by show 0 ≤ 1000; omega)⟩
    · subst hvb; rw [hW]; simp
    · subst hvb; rw [hW]; simp
    · subst hvb; rw [hW]; simp
    · subst hvb; rw [hW]; simp
    · intro b' off h0 e
      obtain ⟨b2, off2, e2, hc⟩ := hr.at_ h0
      rw [e] at e2; cases e2
      have := World.block_lt_of_cell? w ⟨b', off + 0, none⟩ (hc 0 h0)
      simp only at this
      omega
    all_goals first | (subst hvb; rw [hW]; simp; done) | (subst hvb; rw [hW]; exact ⟨by rw [World.cell?_alloc_past _ _ _ (hn := by simp)]; simp [vcells], by simp⟩)
  have HX : Hid (W = _ ∧ vb = w.heap.size ∧ n = l.length ∧ ∀ x ∈ l, x < 256) := ⟨hW, hvb, hr.len.symm, hr.lt⟩
  have hs0 : vb + 1 < W.heap.size := H0.out.s
  clear hV hr hW hBW hvb
  go_enter Tryd.func20, Tryd.ntmps20
  go_wp2_with fail
  rw [← HX.out.1, ← HX.out.2.1]
  obtain ⟨r1, hr1⟩ : ∃ r1, r1 = (some l).bind rd := ⟨_, rfl⟩
  have c := fun p => num30 a b (vb + 1) (some l) p W H0.out.v H0.out.r
  rw [← hr1] at c
  have HR1 : Hid (r1 = (some l).bind rd) := hr1
  clear hr1
  refine (c _).mono ?_
  rintro r w1 ⟨v1, rfl, hv1, hx, _, hs, hk⟩
  have HF1 : Hid (∀ x l, r1 = some (x, l) → v1 = x) := hx
  have K1 : Hid (Rdn w w1 a b vb (r1.map (·.2)) ⟨0, 0, 0, 0, false, none, 0, 0, ⟨#[]⟩, ⟨#[]⟩⟩ []) := H0.out.call hs hk
  clear c hx hs hk
  obtain ⟨⟨g0, g1, g2, g3, g4, g5, g6, g7⟩, f0, f1, f2, f3, f4, f5, f6, f7⟩ := K1.out.cells
  clear g1 g2 g3 g4 g5 g6 g7 f1 f2 f3 f4 f5 f6 f7
  simp only at g0
  go_wp2_with fail
  have Q0 : Rdn w (w1.setCell ⟨vb, 0, none⟩ (.int .i64 (v1 : Int))) a b vb (r1.map (·.2)) ⟨(v1 : Int), 0, 0, 0, false, none, 0, 0, ⟨#[]⟩, ⟨#[]⟩⟩ [] := Rdn.set (u' := ⟨(v1 : Int), 0, 0, 0, false, none, 0, 0, ⟨#[]⟩, ⟨#[]⟩⟩) (al' := []) K1.out 0 _ (by omega) (eight rfl rfl rfl rfl rfl rfl rfl rfl) K1.out.at_ K1.out.ab K1.out.t K1.out.d
  obtain ⟨X1, hX1⟩ : ∃ X, X = (w1.setCell ⟨vb, 0, none⟩ (.int .i64 (v1 : Int))) := ⟨_, rfl⟩
  have JX1 : Hid (Rdn w X1 a b vb (r1.map (·.2)) ⟨(v1 : Int), 0, 0, 0, false, none, 0, 0, ⟨#[]⟩, ⟨#[]⟩⟩ []) := by rw [hX1]; exact Q0
  clear g0 f0 Q0
  rw [← hX1]
  clear hX1
  obtain ⟨r2, hr2⟩ : ∃ r2, r2 = (r1.map (·.2)).bind rd := ⟨_, rfl⟩
  have c := fun p => num30 a b (vb + 1) (r1.map (·.2)) p X1 JX1.out.v JX1.out.r
  rw [← hr2] at c
  have HR2 : Hid (r2 = (r1.map (·.2)).bind rd) := hr2
  clear hr2
  refine (c _).mono ?_
  rintro r w2 ⟨v2, rfl, hv2, hx, _, hs, hk⟩
  have HF2 : Hid (∀ x l, r2 = some (x, l) → v2 = x) := hx
  have K2 : Hid (Rdn w w2 a b vb (r2.map (·.2)) ⟨(v1 : Int), 0, 0, 0, false, none, 0, 0, ⟨#[]⟩, ⟨#[]⟩⟩ []) := JX1.out.call hs hk
  clear c hx hs hk
  go_wp2_with fail
  obtain ⟨r3, hr3⟩ : ∃ r3, r3 = (r2.map (·.2)).bind rd := ⟨_, rfl⟩
  have c := fun p => num30 a b (vb + 1) (r2.map (·.2)) p w2 K2.out.v K2.out.r
  rw [← hr3] at c
  have HR3 : Hid (r3 = (r2.map (·.2)).bind rd) := hr3
  clear hr3
  refine (c _).mono ?_
  rintro r w3 ⟨v3, rfl, hv3, hx, _, hs, hk⟩
  have HF3 : Hid (∀ x l, r3 = some (x, l) → v3 = x) := hx
  have K3 : Hid (Rdn w w3 a b vb (r3.map (·.2)) ⟨(v1 : Int), 0, 0, 0, false, none, 0, 0, ⟨#[]⟩, ⟨#[]⟩⟩ []) := K2.out.call hs hk
  clear c hx hs hk
  go_wp2_with fail
  obtain ⟨r4, hr4⟩ : ∃ r4, r4 = (r3.map (·.2)).bind rd := ⟨_, rfl⟩
  have c := fun p => num30 a b (vb + 1) (r3.map (·.2)) p w3 K3.out.v K3.out.r
  rw [← hr4] at c
  have HR4 : Hid (r4 = (r3.map (·.2)).bind rd) := hr4
  clear hr4
  refine (c _).mono ?_
  rintro r w4 ⟨v4, rfl, hv4, hx, _, hs, hk⟩
  have HF4 : Hid (∀ x l, r4 = some (x, l) → v4 = x) := hx
  have K4 : Hid (Rdn w w4 a b vb (r4.map (·.2)) ⟨(v1 : Int), 0, 0, 0, false, none, 0, 0, ⟨#[]⟩, ⟨#[]⟩⟩ []) := K3.out.call hs hk
  clear c hx hs hk
  obtain ⟨⟨g0, g1, g2, g3, g4, g5, g6, g7⟩, f0, f1, f2, f3, f4, f5, f6, f7⟩ := K4.out.cells
  clear g0 g4 g5 g6 g7 f0 f4 f5 f6 f7
  simp only at g1 g2 g3
  go_wp2_with fail
  have Q1 : Rdn w (w4.setCell ⟨vb, 1, none⟩ (.int .i64 (v2 : Int))) a b vb (r4.map (·.2)) ⟨(v1 : Int), (v2 : Int), 0, 0, false, none, 0, 0, ⟨#[]⟩, ⟨#[]⟩⟩ [] := Rdn.set (u' := ⟨(v1 : Int), (v2 : Int), 0, 0, false, none, 0, 0, ⟨#[]⟩, ⟨#[]⟩⟩) (al' := []) K4.out 1 _ (by omega) (eight rfl rfl rfl rfl rfl rfl rfl rfl) K4.out.at_ K4.out.ab K4.out.t K4.out.d
  have Q2 : Rdn w ((w4.setCell ⟨vb, 1, none⟩ (.int .i64 (v2 : Int))).setCell ⟨vb, 2, none⟩ (.int .i64 (v3 : Int))) a b vb (r4.map (·.2)) ⟨(v1 : Int), (v2 : Int), (v3 : Int), 0, false, none, 0, 0, ⟨#[]⟩, ⟨#[]⟩⟩ [] := Rdn.set (u' := ⟨(v1 : Int), (v2 : Int), (v3 : Int), 0, false, none, 0, 0, ⟨#[]⟩, ⟨#[]⟩⟩) (al' := []) Q1 2 _ (by omega) (eight rfl rfl rfl rfl rfl rfl rfl rfl) Q1.at_ Q1.ab Q1.t Q1.d
  have Q3 : Rdn w (((w4.setCell ⟨vb, 1, none⟩ (.int .i64 (v2 : Int))).setCell ⟨vb, 2, none⟩ (.int .i64 (v3 : Int))).setCell ⟨vb, 3, none⟩ (.int .i64 (v4 : Int))) a b vb (r4.map (·.2)) ⟨(v1 : Int), (v2 : Int), (v3 : Int), (v4 : Int), false, none, 0, 0, ⟨#[]⟩, ⟨#[]⟩⟩ [] := Rdn.set (u' := ⟨(v1 : Int), (v2 : Int), (v3 : Int), (v4 : Int), false, none, 0, 0, ⟨#[]⟩, ⟨#[]⟩⟩) (al' := []) Q2 3 _ (by omega) (eight rfl rfl rfl rfl rfl rfl rfl rfl) Q2.at_ Q2.ab Q2.t Q2.d
  obtain ⟨X4, hX4⟩ : ∃ X, X = (((w4.setCell ⟨vb, 1, none⟩ (.int .i64 (v2 : Int))).setCell ⟨vb, 2, none⟩ (.int .i64 (v3 : Int))).setCell ⟨vb, 3, none⟩ (.int .i64 (v4 : Int))) := ⟨_, rfl⟩
  have JX4 : Hid (Rdn w X4 a b vb (r4.map (·.2)) ⟨(v1 : Int), (v2 : Int), (v3 : Int), (v4 : Int), false, none, 0, 0, ⟨#[]⟩, ⟨#[]⟩⟩ []) := by rw [hX4]; exact Q3
  clear g1 g2 g3 f1 f2 f3 Q1 Q2 Q3
  rw [← hX4]
  clear hX4
  obtain ⟨r5, hr5⟩ : ∃ r5, r5 = (r4.map (·.2)).bind rfg := ⟨_, rfl⟩
  have c := fun p => flag31 a b (vb + 1) (r4.map (·.2)) p X4 JX4.out.v (by have := JX4.out.n; omega) JX4.out.r
  rw [← hr5] at c
  have HR5 : Hid (r5 = (r4.map (·.2)).bind rfg) := hr5
  clear hr5
  refine (c _).mono ?_
  rintro r w5 ⟨d5, rfl, hx, hs, hk⟩
  have HF5 : Hid (∀ x l, r5 = some (x, l) → x = b2n d5) := hx
  have K5 : Hid (Rdn w w5 a b vb (r5.map (·.2)) ⟨(v1 : Int), (v2 : Int), (v3 : Int), (v4 : Int), false, none, 0, 0, ⟨#[]⟩, ⟨#[]⟩⟩ []) := JX4.out.call hs hk
  clear c hx hs hk
  obtain ⟨⟨g0, g1, g2, g3, g4, g5, g6, g7⟩, f0, f1, f2, f3, f4, f5, f6, f7⟩ := K5.out.cells
  clear g0 g1 g2 g3 g5 g6 g7 f0 f1 f2 f3 f5 f6 f7
  simp only at g4
  go_wp2_with fail
  have Q4 : Rdn w (w5.setCell ⟨vb, 4, none⟩ (.bool d5)) a b vb (r5.map (·.2)) ⟨(v1 : Int), (v2 : Int), (v3 : Int), (v4 : Int), d5, none, 0, 0, ⟨#[]⟩, ⟨#[]⟩⟩ [] := Rdn.set (u' := ⟨(v1 : Int), (v2 : Int), (v3 : Int), (v4 : Int), d5, none, 0, 0, ⟨#[]⟩, ⟨#[]⟩⟩) (al' := []) K5.out 4 _ (by omega) (eight rfl rfl rfl rfl rfl rfl rfl rfl) K5.out.at_ K5.out.ab K5.out.t K5.out.d
  obtain ⟨X5, hX5⟩ : ∃ X, X = (w5.setCell ⟨vb, 4, none⟩ (.bool d5)) := ⟨_, rfl⟩
  have JX5 : Hid (Rdn w X5 a b vb (r5.map (·.2)) ⟨(v1 : Int), (v2 : Int), (v3 : Int), (v4 : Int), d5, none, 0, 0, ⟨#[]⟩, ⟨#[]⟩⟩ []) := by rw [hX5]; exact Q4
  clear g4 f4 Q4
  rw [← hX5]
  clear hX5
  obtain ⟨r6, hr6⟩ : ∃ r6, r6 = (r5.map (·.2)).bind ratP := ⟨_, rfl⟩
  have c := fun p => attrs32 a b (vb + 1) (r5.map (·.2)) p X5 JX5.out.v (by have := JX5.out.n; omega) JX5.out.r
  rw [← hr6] at c
  have HR6 : Hid (r6 = (r5.map (·.2)).bind ratP) := hr6
  clear hr6
  refine (c _).mono ?_
  rintro r w6 ⟨ao6, n6, cap6, al6, rfl, hat, hn3, hab, hx, hs, hk⟩
  have HF6 : Hid ((∀ x l, r6 = some (x, l) → al6 = castA x) ∧ At w6 ao6 n6 al6 ∧ ∀ b off, ao6 = some ⟨b, off, none⟩ → vb + 1 < b) := ⟨hx, hat, fun b off e => by have := hab b off e; have := JX5.out.s; omega⟩
  clear hat hab
  have K6 : Hid (Rdn w w6 a b vb (r6.map (·.2)) ⟨(v1 : Int), (v2 : Int), (v3 : Int), (v4 : Int), d5, none, 0, 0, ⟨#[]⟩, ⟨#[]⟩⟩ []) := JX5.out.call hs hk
  clear c hx hs hk
  obtain ⟨⟨g0, g1, g2, g3, g4, g5, g6, g7⟩, f0, f1, f2, f3, f4, f5, f6, f7⟩ := K6.out.cells
  clear g0 g1 g2 g3 g4 g6 g7 f0 f1 f2 f3 f4 f6 f7
  simp only at g5
  go_wp2_with fail
  have Q5 : Rdn w (w6.setCell ⟨vb, 5, none⟩ (.slice ao6 n6 cap6)) a b vb (r6.map (·.2)) ⟨(v1 : Int), (v2 : Int), (v3 : Int), (v4 : Int), d5, ao6, n6, cap6, ⟨#[]⟩, ⟨#[]⟩⟩ al6 := Rdn.set (u' := ⟨(v1 : Int), (v2 : Int), (v3 : Int), (v4 : Int), d5, ao6, n6, cap6, ⟨#[]⟩, ⟨#[]⟩⟩) (al' := al6) K6.out 5 _ (by omega) (eight rfl rfl rfl rfl rfl rfl rfl rfl) HF6.out.2.1 HF6.out.2.2 K6.out.t K6.out.d
  obtain ⟨X6, hX6⟩ : ∃ X, X = (w6.setCell ⟨vb, 5, none⟩ (.slice ao6 n6 cap6)) := ⟨_, rfl⟩
  have JX6 : Hid (Rdn w X6 a b vb (r6.map (·.2)) ⟨(v1 : Int), (v2 : Int), (v3 : Int), (v4 : Int), d5, ao6, n6, cap6, ⟨#[]⟩, ⟨#[]⟩⟩ al6) := by rw [hX6]; exact Q5
  clear g5 f5 Q5
  rw [← hX6]
  clear hX6
  obtain ⟨r7, hr7⟩ : ∃ r7, r7 = (r6.map (·.2)).bind rt := ⟨_, rfl⟩
  have c := fun p => text33 a b (vb + 1) (r6.map (·.2)) p X6 JX6.out.v JX6.out.r
  rw [← hr7] at c
  have HR7 : Hid (r7 = (r6.map (·.2)).bind rt) := hr7
  clear hr7
  refine (c _).mono ?_
  rintro r w7 ⟨t7, rfl, ht, hx, hs, hk⟩
  have HF7 : Hid ((∀ x l, r7 = some (x, l) → t7 = strs x ∧ bl t7 = x) ∧ t7.size ≤ 1000) := ⟨hx, ht⟩
  clear ht
  have K7 : Hid (Rdn w w7 a b vb (r7.map (·.2)) ⟨(v1 : Int), (v2 : Int), (v3 : Int), (v4 : Int), d5, ao6, n6, cap6, ⟨#[]⟩, ⟨#[]⟩⟩ al6) := JX6.out.call hs hk
  clear c hx hs hk
  obtain ⟨⟨g0, g1, g2, g3, g4, g5, g6, g7⟩, f0, f1, f2, f3, f4, f5, f6, f7⟩ := K7.out.cells
  clear g0 g1 g2 g3 g4 g5 g7 f0 f1 f2 f3 f4 f5 f7
  simp only at g6
  go_wp2_with fail
  have Q6 : Rdn w (w7.setCell ⟨vb, 6, none⟩ (.string t7)) a b vb (r7.map (·.2)) ⟨(v1 : Int), (v2 : Int), (v3 : Int), (v4 : Int), d5, ao6, n6, cap6, t7, ⟨#[]⟩⟩ al6 := Rdn.set (u' := ⟨(v1 : Int), (v2 : Int), (v3 : Int), (v4 : Int), d5, ao6, n6, cap6, t7, ⟨#[]⟩⟩) (al' := al6) K7.out 6 _ (by omega) (eight rfl rfl rfl rfl rfl rfl rfl rfl) K7.out.at_ K7.out.ab HF7.out.2 K7.out.d
  obtain ⟨X7, hX7⟩ : ∃ X, X = (w7.setCell ⟨vb, 6, none⟩ (.string t7)) := ⟨_, rfl⟩
  have JX7 : Hid (Rdn w X7 a b vb (r7.map (·.2)) ⟨(v1 : Int), (v2 : Int), (v3 : Int), (v4 : Int), d5, ao6, n6, cap6, t7, ⟨#[]⟩⟩ al6) := by rw [hX7]; exact Q6
  clear g6 f6 Q6
  rw [← hX7]
  clear hX7
  obtain ⟨r8, hr8⟩ : ∃ r8, r8 = (r7.map (·.2)).bind rt := ⟨_, rfl⟩
  have c := fun p => text33 a b (vb + 1) (r7.map (·.2)) p X7 JX7.out.v JX7.out.r
  rw [← hr8] at c
  have HR8 : Hid (r8 = (r7.map (·.2)).bind rt) := hr8
  clear hr8
  refine (c _).mono ?_
  rintro r w8 ⟨t8, rfl, ht, hx, hs, hk⟩
  have HF8 : Hid ((∀ x l, r8 = some (x, l) → t8 = strs x ∧ bl t8 = x) ∧ t8.size ≤ 1000) := ⟨hx, ht⟩
  clear ht
  have K8 : Hid (Rdn w w8 a b vb (r8.map (·.2)) ⟨(v1 : Int), (v2 : Int), (v3 : Int), (v4 : Int), d5, ao6, n6, cap6, t7, ⟨#[]⟩⟩ al6) := JX7.out.call hs hk
  clear c hx hs hk
  obtain ⟨⟨g0, g1, g2, g3, g4, g5, g6, g7⟩, f0, f1, f2, f3, f4, f5, f6, f7⟩ := K8.out.cells
  clear f0 f1 f2 f3 f4 f5 f6
  simp only at g0 g1 g2 g3 g4 g5 g6 g7
  go_wp2_with fail
  have Q7 : Rdn w (w8.setCell ⟨vb, 7, none⟩ (.string t8)) a b vb (r8.map (·.2)) ⟨(v1 : Int), (v2 : Int), (v3 : Int), (v4 : Int), d5, ao6, n6, cap6, t7, t8⟩ al6 := Rdn.set (u' := ⟨(v1 : Int), (v2 : Int), (v3 : Int), (v4 : Int), d5, ao6, n6, cap6, t7, t8⟩) (al' := al6) K8.out 7 _ (by omega) (eight rfl rfl rfl rfl rfl rfl rfl rfl) K8.out.at_ K8.out.ab K8.out.t HF8.out.2
  obtain ⟨X8, hX8⟩ : ∃ X, X = (w8.setCell ⟨vb, 7, none⟩ (.string t8)) := ⟨_, rfl⟩
  have JX8 : Hid (Rdn w X8 a b vb (r8.map (·.2)) ⟨(v1 : Int), (v2 : Int), (v3 : Int), (v4 : Int), d5, ao6, n6, cap6, t7, t8⟩ al6) := by rw [hX8]; exact Q7
  clear g0 g1 g2 g3 g4 g5 g6 g7 f7 Q7
  rw [← hX8]
  clear hX8
  have c := may25 a b ⟨(v1 : Int), (v2 : Int), (v3 : Int), (v4 : Int), d5, ao6, n6, cap6, t7, t8⟩ al6 X8 JX8.out.v JX8.out.at_ (Nat.le_trans JX8.out.t (by decide)) (Nat.le_trans JX8.out.d (by decide))
  unfold Vn.val at c
  simp only at c
  obtain ⟨M, hM⟩ : ∃ M, M = mayI ⟨(v1 : Int), (v2 : Int), (v3 : Int), (v4 : Int), d5, ao6, n6, cap6, t7, t8⟩ al6 := ⟨_, rfl⟩
  rw [← hM] at c
  have HM : Hid (M = mayI ⟨(v1 : Int), (v2 : Int), (v3 : Int), (v4 : Int), d5, ao6, n6, cap6, t7, t8⟩ al6) := hM
  clear hM
  refine c.mono ?_
  rintro r w9 ⟨rfl, hb9⟩
  have J9 : Hid (Rdn w w9 a b vb (r8.map (·.2)) ⟨(v1 : Int), (v2 : Int), (v3 : Int), (v4 : Int), d5, ao6, n6, cap6, t7, t8⟩ al6) := JX8.out.call (JX8.out.r.below hb9 JX8.out.s) (Kept.of_below hb9)
  clear c hb9
  have HP : Hid ((r8.map (·.2) = none ∧ rvP l = none) ∨ ∃ V c, r8.map (·.2) = some c ∧ rvP l = some (V, c) ∧ Parts ⟨(v1 : Int), (v2 : Int), (v3 : Int), (v4 : Int), d5, ao6, n6, cap6, t7, t8⟩ al6 V) := ver_tell HR1.out HR2.out HR3.out HR4.out HR5.out HR6.out HR7.out HR8.out HF1.out HF2.out HF3.out HF4.out HF5.out HF6.out.1 HF7.out.1 HF8.out.1
  clear hs0
  cases M with
  | false =>
    have c2 := fun ev k (hk : FauP k ev) => fail34 (vb + 1) _ k ev w9 J9.out.r hk
    go_wp2_with fail
    refine (c2 _ 0 ⟨_, rfl⟩).mono ?_
    rintro r w10 ⟨rfl, h3, h4⟩
    have J10 : Hid (Rdn w w10 a b vb none ⟨(v1 : Int), (v2 : Int), (v3 : Int), (v4 : Int), d5, ao6, n6, cap6, t7, t8⟩ al6) := J9.out.call h3 h4
    clear c2 h3 h4
    obtain ⟨⟨g0, g1, g2, g3, g4, g5, g6, g7⟩, f0, f1, f2, f3, f4, f5, f6, f7⟩ := J10.out.cells
    simp only at g0 g1 g2 g3 g4 g5 g6 g7
    obtain ⟨_, _, lo, ln, lc, ev, e0, e1, e2, _, e4⟩ := J10.out.r
    obtain ⟨rfl, rfl, rfl, kk, hkk⟩ := e4
    obtain ⟨T, x, rfl⟩ := hkk.iface
    have HE : Hid (FauP kk (.iface T x)) := hkk
    clear hkk
    go_wp2_with fail
    go_region
    go_wp2_with fail
    have HT : match tvP mayN l with
      | some (V, n') => Value.iface T x = .nilIface ∧ n = n' ∧ Parts ⟨(v1 : Int), (v2 : Int), (v3 : Int), (v4 : Int), d5, ao6, n6, cap6, t7, t8⟩ al6 V ∧ mayI ⟨(v1 : Int), (v2 : Int), (v3 : Int), (v4 : Int), d5, ao6, n6, cap6, t7, t8⟩ al6 = true
      | none => ∃ k, FauP k (.iface T x) := by
      have e : tvP mayN l = none := by
        rcases HP.out with ⟨_, h⟩ | ⟨V, c, _, h, hp⟩
        · exact tvP_of_none h
        · exact tvP_of_not h (by rw [← hp.may, ← HM.out])
      rw [e]
      exact ⟨kk, HE.out⟩
    refine bodyPost_ret (v := .tuple #[Vn.val ⟨(v1 : Int), (v2 : Int), (v3 : Int), (v4 : Int), d5, ao6, n6, cap6, t7, t8⟩, .int .i64 ((n : Nat) : Int), .iface T x]) (by simp [results, Tryd.results20, go_sem, *, Vn.val]) rfl ?_
    refine ver_end J10.out (kept8 _ _ _ _ _ _ _ _ _ _).drew HX.out.2.1 HT
  | true =>
    cases ho8 : r8.map (·.2) with
    | none =>
      rw [ho8] at J9
      have HO8 : Hid (r8.map (·.2) = none) := ho8
      clear ho8
      obtain ⟨⟨g0, g1, g2, g3, g4, g5, g6, g7⟩, f0, f1, f2, f3, f4, f5, f6, f7⟩ := J9.out.cells
      simp only at g0 g1 g2 g3 g4 g5 g6 g7
      obtain ⟨_, _, lo, ln, lc, ev, e0, e1, e2, _, e4⟩ := J9.out.r
      obtain ⟨rfl, rfl, rfl, kk, hkk⟩ := e4
      obtain ⟨T, x, rfl⟩ := hkk.iface
      have HE : Hid (FauP kk (.iface T x)) := hkk
      clear hkk
      go_wp2_with fail
      go_region
      go_wp2_with fail
      have HT : match tvP mayN l with
        | some (V, n') => Value.iface T x = .nilIface ∧ n = n' ∧ Parts ⟨(v1 : Int), (v2 : Int), (v3 : Int), (v4 : Int), d5, ao6, n6, cap6, t7, t8⟩ al6 V ∧ mayI ⟨(v1 : Int), (v2 : Int), (v3 : Int), (v4 : Int), d5, ao6, n6, cap6, t7, t8⟩ al6 = true
        | none => ∃ k, FauP k (.iface T x) := by
        have e : tvP mayN l = none := by
          rcases HP.out with ⟨_, h⟩ | ⟨V, c, h1, h, hp⟩
          · exact tvP_of_none h
          · rw [HO8.out] at h1; cases h1
        rw [e]
        exact ⟨kk, HE.out⟩
      refine bodyPost_ret (v := .tuple #[Vn.val ⟨(v1 : Int), (v2 : Int), (v3 : Int), (v4 : Int), d5, ao6, n6, cap6, t7, t8⟩, .int .i64 ((n : Nat) : Int), .iface T x]) (by simp [results, Tryd.results20, go_sem, *, Vn.val]) rfl ?_
      refine ver_end J9.out (kept8 _ _ _ _ _ _ _ _ _ _).drew HX.out.2.1 HT
    | some cc =>
      rw [ho8] at J9
      have HO8 : Hid (r8.map (·.2) = some cc) := ho8
      have HL : Hid (cc.length ≤ l.length) := by
        rcases HP.out with ⟨h, _⟩ | ⟨V, c, h1, h, hp⟩
        · rw [ho8] at h; cases h
        · rw [ho8] at h1; cases h1
          have := (rvP_some HX.out.2.2.2 h).2.1
          show _ ≤ _
          rw [this, List.length_append]; omega
      clear ho8
      obtain ⟨⟨g0, g1, g2, g3, g4, g5, g6, g7⟩, f0, f1, f2, f3, f4, f5, f6, f7⟩ := J9.out.cells
      simp only at g0 g1 g2 g3 g4 g5 g6 g7
      obtain ⟨_, _, lo, ln, lc, ev, e0, e1, e2, _, e4⟩ := J9.out.r
      obtain ⟨hrl, rfl⟩ := e4
      have hln := hrl.len
      have HE : Hid (ln = cc.length) := hln.symm
      have hle : ln ≤ n := by have := HL.out; have := HX.out.2.2.1; omega
      clear hrl hln
      go_wp2_with fail
      go_region
      go_wp2_with fail
      have hsub : ((n - ln : Nat) : Int) = (n : Int) - (ln : Int) := by omega
      have HT : match tvP mayN l with
        | some (V, n') => Value.nilIface = .nilIface ∧ n - ln = n' ∧ Parts ⟨(v1 : Int), (v2 : Int), (v3 : Int), (v4 : Int), d5, ao6, n6, cap6, t7, t8⟩ al6 V ∧ mayI ⟨(v1 : Int), (v2 : Int), (v3 : Int), (v4 : Int), d5, ao6, n6, cap6, t7, t8⟩ al6 = true
        | none => ∃ k, FauP k .nilIface := by
        rcases HP.out with ⟨h, _⟩ | ⟨V, c, h1, h, hp⟩
        · rw [HO8.out] at h; cases h
        · rw [HO8.out] at h1; cases h1
          have e := tvP_of_may (may := mayN) h (by rw [← hp.may, ← HM.out])
          rw [e]
          exact ⟨rfl, by rw [HX.out.2.2.1, HE.out], hp, HM.out.symm⟩
      refine bodyPost_ret (v := .tuple #[Vn.val ⟨(v1 : Int), (v2 : Int), (v3 : Int), (v4 : Int), d5, ao6, n6, cap6, t7, t8⟩, .int .i64 ((n - ln : Nat) : Int), .nilIface]) (by simp [results, Tryd.results20, go_sem, *, Vn.val]) rfl ?_
      refine ver_end J9.out (kept8 _ _ _ _ _ _ _ _ _ _).drew HX.out.2.1 HT

end Go.Proofs.YtopkeembbopbmaaDoor
