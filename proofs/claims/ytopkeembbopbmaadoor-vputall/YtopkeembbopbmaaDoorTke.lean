/- vput.Take. -/
import Derived.Test.YtopkeembbopbmaaDoorVer
namespace Go.Proofs.YtopkeembbopbmaaDoor
open Go.RowKit
set_option maxRecDepth 100000
set_option linter.unusedVariables false

/-- What is taken: a version and how many bytes it has, or the zero version. -/
def TakePost (w w' : World) (l : List Nat) (r : Ending) : Prop := ∃ (u : Vn) (al : List (Int × Int)) (m : Nat) (ok : Bool), r = .returned (.tuple #[u.val, .int .i64 m, .bool ok]) ∧ Has w' u al ∧ u.tag.size ≤ 1000 ∧ u.body.size ≤ 1000 ∧ Below w.heap.size w w' ∧
  match tvP mayN l with
  | some (V, n) => ok = true ∧ m = n ∧ Parts u al V ∧ mayI u al = true
  | none => ok = false ∧ m = 0 ∧ u = ⟨0, 0, 0, 0, false, none, 0, 0, ⟨#[]⟩, ⟨#[]⟩⟩ ∧ al = []

/-- Eight cells that may be stored into. -/
def Cs (w : World) (tb : Nat) (f : Nat → Value) : Prop := ∀ j, j < 8 → w.cell? ⟨tb, j, none⟩ = some (f j) ∧ w.frozen? ⟨tb, j, none⟩ = false

theorem Cs.set {w : World} {tb : Nat} {f : Nat → Value} (h : Cs w tb f) (i : Nat) (x : Value) (hi : i < 8) : Cs (w.setCell ⟨tb, i, none⟩ x) tb (fun j => if j = i then x else f j) := by
  intro j hj
  refine ⟨?_, by rw [World.frozen?_setCell]; exact (h j hj).2⟩
  by_cases e : j = i
  · subst e
    simp only [if_true]
    exact World.cell?_setCell_same _ _ _ (h j hj).1
  · simp only [if_neg e]
    rw [World.cell?_setCell_other _ _ _ _ (by intro q; have := congrArg Addr.off q; simp at this; omega)]
    exact (h j hj).1

theorem Cs.kept {P : Nat → Prop} {w w' : World} {tb : Nat} {f : Nat → Value} (h : Cs w tb f) (hk : Kept P w w') (hp : P tb) : Cs w' tb f := by
  intro j hj
  have hlt := World.block_lt_of_cell? w ⟨tb, j, none⟩ (h j hj).1
  exact ⟨(hk.cell hlt hp).trans (h j hj).1, (hk.frozen hlt hp).trans (h j hj).2⟩

/-- Eight stores. -/
def set8 (w : World) (tb : Nat) (x0 x1 x2 x3 x4 x5 x6 x7 : Value) : World := (((((((w.setCell ⟨tb, 0, none⟩ x0).setCell ⟨tb, 1, none⟩ x1).setCell ⟨tb, 2, none⟩ x2).setCell ⟨tb, 3, none⟩ x3).setCell ⟨tb, 4, none⟩ x4).setCell ⟨tb, 5, none⟩ x5).setCell ⟨tb, 6, none⟩ x6).setCell ⟨tb, 7, none⟩ x7

theorem set8_cs {w : World} {tb : Nat} {f : Nat → Value} (h : Cs w tb f) (x0 x1 x2 x3 x4 x5 x6 x7 : Value) : ∃ g : Nat → Value, (g 0 = x0 ∧ g 1 = x1 ∧ g 2 = x2 ∧ g 3 = x3 ∧ g 4 = x4 ∧ g 5 = x5 ∧ g 6 = x6 ∧ g 7 = x7) ∧ Cs (set8 w tb x0 x1 x2 x3 x4 x5 x6 x7) tb g :=
  ⟨_, ⟨rfl, rfl, rfl, rfl, rfl, rfl, rfl, rfl⟩, (((((((h.set 0 x0 (by omega)).set 1 x1 (by omega)).set 2 x2 (by omega)).set 3 x3 (by omega)).set 4 x4 (by omega)).set 5 x5 (by omega)).set 6 x6 (by omega)).set 7 x7 (by omega)⟩

theorem Cs.eight {w : World} {tb : Nat} {f : Nat → Value} (h : Cs w tb f) :
    (w.cell? ⟨tb, 0, none⟩ = some (f 0) ∧ w.cell? ⟨tb, 1, none⟩ = some (f 1) ∧ w.cell? ⟨tb, 2, none⟩ = some (f 2) ∧ w.cell? ⟨tb, 3, none⟩ = some (f 3) ∧ w.cell? ⟨tb, 4, none⟩ = some (f 4) ∧ w.cell? ⟨tb, 5, none⟩ = some (f 5) ∧ w.cell? ⟨tb, 6, none⟩ = some (f 6) ∧ w.cell? ⟨tb, 7, none⟩ = some (f 7)) ∧
    (w.frozen? ⟨tb, 0, none⟩ = false ∧ w.frozen? ⟨tb, 1, none⟩ = false ∧ w.frozen? ⟨tb, 2, none⟩ = false ∧ w.frozen? ⟨tb, 3, none⟩ = false ∧ w.frozen? ⟨tb, 4, none⟩ = false ∧ w.frozen? ⟨tb, 5, none⟩ = false ∧ w.frozen? ⟨tb, 6, none⟩ = false ∧ w.frozen? ⟨tb, 7, none⟩ = false) :=
  ⟨⟨(h 0 (by omega)).1, (h 1 (by omega)).1, (h 2 (by omega)).1, (h 3 (by omega)).1, (h 4 (by omega)).1, (h 5 (by omega)).1, (h 6 (by omega)).1, (h 7 (by omega)).1⟩, (h 0 (by omega)).2, (h 1 (by omega)).2, (h 2 (by omega)).2, (h 3 (by omega)).2, (h 4 (by omega)).2, (h 5 (by omega)).2, (h 6 (by omega)).2, (h 7 (by omega)).2⟩

theorem take_ok {w w1 w' : World} {u : Vn} {al : List (Int × Int)} {l : List Nat} {V : Vp} {m tb : Nat} (hq : tvP mayN l = some (V, m)) (hA : Has w1 u al) (ht : u.tag.size ≤ 1000) (hd : u.body.size ≤ 1000) (hb : Below w.heap.size w w1) (hk : Kept (But tb) w1 w') (htb : tb = w.heap.size) (hn : ∀ b off, 0 < u.len → u.ao = some ⟨b, off, none⟩ → b ≠ tb) (hT : Parts u al V ∧ mayI u al = true) : TakePost w w' l (.returned (.tuple #[u.val, .int .i64 (m : Int), .bool true])) := by
  refine ⟨u, al, m, true, rfl, At.of hA hk (fun b off h0 e => hn b off h0 e), ht, hd, ?_, ?_⟩
  · exact hb.trans (hk.below hb.size (fun k hk' => by unfold But; omega))
  · rw [hq]; exact ⟨rfl, rfl, hT.1, hT.2⟩

theorem take_no {w w' : World} {l : List Nat} (hq : tvP mayN l = none) (hb : Below w.heap.size w w') : TakePost w w' l (.returned (.tuple #[Vn.val ⟨0, 0, 0, 0, false, none, 0, 0, ⟨#[]⟩, ⟨#[]⟩⟩, .int .i64 ((0 : Nat) : Int), .bool false])) := by
  refine ⟨_, [], 0, false, rfl, At.none _ _, by show 0 ≤ 1000; omega, by show 0 ≤ 1000; omega, hb, ?_⟩
  rw [hq]; exact ⟨rfl, rfl, rfl, rfl⟩

set_option maxHeartbeats 4000000 in
/-- vput.Take. -/
theorem take11 (a b : Addr) (ao : Option Addr) (n cap : Nat) (l : List Nat) (w : World) (hV : Vars w a b) (hr : Rb w ao n cap l) (hn : n ≤ 1000) :
    Calls Tryd.prog 11 #[.slice ao n cap] w fun r w' => TakePost w w' l r := by
  obtain ⟨tb, htb⟩ : ∃ tb, tb = w.heap.size := ⟨_, rfl⟩
  obtain ⟨W, hW⟩ : ∃ W, W = w.alloc (.cells #[.int .i64 0, .int .i64 0, .int .i64 0, .int .i64 0, .bool false, .slice none 0 0, .string ⟨#[]⟩, .string ⟨#[]⟩] 26) := ⟨_, rfl⟩
  have hBW : Below w.heap.size w W := by rw [hW]; exact (Below.refl _ w).alloc (Nat.le_refl _) _
  have HV : Hid (Vars W a b) := hV.below hBW
  have c := version20 a b ao n cap l W HV.out (hr.kept hBW) hn
  have g : ∀ j, j < 8 → W.cell? ⟨tb, j, none⟩ = (#[Value.int .i64 0, .int .i64 0, .int .i64 0, .int .i64 0, .bool false, .slice none 0 0, .string ⟨#[]⟩, .string ⟨#[]⟩])[j]? ∧ W.frozen? ⟨tb, j, none⟩ = false := by
    subst htb
    intro j hj
    rw [hW]
    refine ⟨?_, by simp⟩
    rw [World.cell?_alloc_at _ _ _ _ rfl]
  have hsW : tb < W.heap.size := by subst htb; rw [hW]; simp
  have HX : Hid (W = _ ∧ tb = w.heap.size ∧ Below w.heap.size w W) := ⟨hW, htb, hBW⟩
  have HZ : Hid (2 < tb) := by have := hV.lt; show _ < _; omega
  clear hV hr hW hBW htb
  go_enter Tryd.func11, Tryd.ntmps11
  go_wp2_with fail
  rw [← HX.out.1, ← HX.out.2.1]
  refine c.mono ?_
  rintro r w1 ⟨⟨it, L, R, N, dead, ao1, n1, cap1, tag, body⟩, al, m, ev, rfl, hat, ht, hd, hb, hab, hT⟩
  have hs1 : W.heap.size ≤ w1.heap.size := hb.size
  have q : ∀ j, j < 8 → w1.cell? ⟨tb, j, none⟩ = (#[Value.int .i64 0, .int .i64 0, .int .i64 0, .int .i64 0, .bool false, .slice none 0 0, .string ⟨#[]⟩, .string ⟨#[]⟩])[j]? ∧ w1.frozen? ⟨tb, j, none⟩ = false := fun j hj => ⟨(hb.cell (p := ⟨tb, j, none⟩) hsW).trans (g j hj).1, (hb.frozen (p := ⟨tb, j, none⟩) hsW).trans (g j hj).2⟩
  obtain ⟨g0, f0⟩ := q 0 (by omega)
  obtain ⟨g1, f1⟩ := q 1 (by omega)
  obtain ⟨g2, f2⟩ := q 2 (by omega)
  obtain ⟨g3, f3⟩ := q 3 (by omega)
  obtain ⟨g4, f4⟩ := q 4 (by omega)
  obtain ⟨g5, f5⟩ := q 5 (by omega)
  obtain ⟨g6, f6⟩ := q 6 (by omega)
  obtain ⟨g7, f7⟩ := q 7 (by omega)
  replace g0 : w1.cell? ⟨tb, 0, none⟩ = some (.int .i64 0) := g0
  replace g1 : w1.cell? ⟨tb, 1, none⟩ = some (.int .i64 0) := g1
  replace g2 : w1.cell? ⟨tb, 2, none⟩ = some (.int .i64 0) := g2
  replace g3 : w1.cell? ⟨tb, 3, none⟩ = some (.int .i64 0) := g3
  replace g4 : w1.cell? ⟨tb, 4, none⟩ = some (.bool false) := g4
  replace g5 : w1.cell? ⟨tb, 5, none⟩ = some (.slice none 0 0) := g5
  replace g6 : w1.cell? ⟨tb, 6, none⟩ = some (.string ⟨#[]⟩) := g6
  replace g7 : w1.cell? ⟨tb, 7, none⟩ = some (.string ⟨#[]⟩) := g7
  have HA : Hid (Has w1 ⟨it, L, R, N, dead, ao1, n1, cap1, tag, body⟩ al ∧ tag.size ≤ 1000 ∧ body.size ≤ 1000 ∧ Below W.heap.size W w1) := ⟨hat, ht, hd, hb⟩
  have HAB : Hid (∀ b off, ao1 = some ⟨b, off, none⟩ → W.heap.size ≤ b) := hab
  clear c g q hat ht hd hb hab
  unfold Vn.val
  simp only
  cases hq : tvP mayN l with
  | none =>
    rw [hq] at hT
    obtain ⟨k, hk⟩ := hT
    obtain ⟨T, x, rfl⟩ := hk.iface
    have HK : Hid (FauP k (.iface T x)) := hk
    clear hk
    go_wp2_with fail
    have hcs : Cs w1 tb (fun j => if j = 4 then .bool false else if j = 5 then .slice none 0 0 else if j = 6 then .string ⟨#[]⟩ else if j = 7 then .string ⟨#[]⟩ else .int .i64 0) := eight ⟨g0, f0⟩ ⟨g1, f1⟩ ⟨g2, f2⟩ ⟨g3, f3⟩ ⟨g4, f4⟩ ⟨g5, f5⟩ ⟨g6, f6⟩ ⟨g7, f7⟩
    obtain ⟨gg, ⟨e0, e1, e2, e3, e4, e5, e6, e7⟩, hcs8⟩ := set8_cs hcs (.int .i64 it) (.int .i64 L) (.int .i64 R) (.int .i64 N) (.bool dead) (.slice ao1 n1 cap1) (.string tag) (.string body)
    obtain ⟨Y, hY⟩ : ∃ Y, Y = set8 w1 tb (.int .i64 it) (.int .i64 L) (.int .i64 R) (.int .i64 N) (.bool dead) (.slice ao1 n1 cap1) (.string tag) (.string body) := ⟨_, rfl⟩
    have hkY : Kept (But tb) w1 Y := by rw [hY]; exact kept8 _ _ _ _ _ _ _ _ _ _
    have hsY : Y.heap.size = w1.heap.size := by rw [hY]; simp [set8, World.setCell]
    rw [← hY] at hcs8
    have HY : Hid (Y = set8 w1 tb (.int .i64 it) (.int .i64 L) (.int .i64 R) (.int .i64 N) (.bool dead) (.slice ao1 n1 cap1) (.string tag) (.string body)) := hY
    clear hY g0 g1 g2 g3 g4 g5 g6 g7 f0 f1 f2 f3 f4 f5 f6 f7 hcs
    unfold set8 at HY
    rw [← HY.out, ← hsY]
    have hVY : Vars Y a b := (HV.out.below HA.out.2.2.2).kept hkY (by unfold But; have := HZ.out; omega) (by unfold But; have := HZ.out; omega) (by unfold But; have := HZ.out; omega)
    have hbA : Below Y.heap.size Y (Y.alloc (.cells #[.string ⟨#[]⟩] 54)) := (Below.refl _ Y).alloc (Nat.le_refl _) _
    have c2 := as21P k (.iface T x) Y.heap.size (.string ⟨#[]⟩) (Y.alloc (.cells #[.string ⟨#[]⟩] 54)) ((hVY.below hbA).e) HK.out (by simp) (by simp)
    refine c2.mono ?_
    rintro r w2 ⟨rfl, _, hk2⟩
    have htY : tb < Y.heap.size := by omega
    have hcs2 : Cs w2 tb gg := (hcs8.kept (P := Any) (Kept.of_below hbA) trivial).kept hk2 (by unfold But; omega)
    have HB2 : Hid (Below w.heap.size w w2) := by
      have q1 : Below tb w1 Y := hkY.below (by omega) (fun k hk => by unfold But; omega)
      have q2 : Below tb Y w2 := (hbA.mono (by omega)).trans (hk2.below (by simp; omega) (fun k hk => by unfold But; omega))
      have q3 : Below tb W w1 := HA.out.2.2.2.mono (by omega)
      have q4 := HX.out.2.2
      rw [← HX.out.2.1] at q4 ⊢
      exact q4.trans (q3.trans (q1.trans q2))
    obtain ⟨⟨g0, g1, g2, g3, g4, g5, g6, g7⟩, f0, f1, f2, f3, f4, f5, f6, f7⟩ := hcs2.eight
    rw [e0] at g0
    rw [e1] at g1
    rw [e2] at g2
    rw [e3] at g3
    rw [e4] at g4
    rw [e5] at g5
    rw [e6] at g6
    rw [e7] at g7
    have HQ : Hid (tvP mayN l = none) := hq
    clear c2 hk2 hcs2 hcs8 hbA hVY hkY e0 e1 e2 e3 e4 e5 e6 e7 hq
    go_wp2
    refine bodyPost_ret (v := .tuple #[Vn.val ⟨0, 0, 0, 0, false, none, 0, 0, ⟨#[]⟩, ⟨#[]⟩⟩, .int .i64 ((0 : Nat) : Int), .bool false]) (by simp [results, Tryd.results11, go_sem, *, Vn.val]) rfl ?_
    refine take_no HQ.out (HB2.out.trans ?_)
    have hw : Kept (But tb) w2 _ := kept8 tb w2 (.int .i64 0) (.int .i64 0) (.int .i64 0) (.int .i64 0) (.bool false) (.slice none 0 0) (.string ⟨#[]⟩) (.string ⟨#[]⟩)
    have hbw := hw.below (B := w.heap.size) HB2.out.size (fun k hk => by unfold But; have := HX.out.2.1; omega)
    exact hbw
  | some p =>
    obtain ⟨V, n'⟩ := p
    rw [hq] at hT
    obtain ⟨rfl, rfl, hP, hM⟩ := hT
    have HT : Hid (Parts ⟨it, L, R, N, dead, ao1, n1, cap1, tag, body⟩ al V ∧ mayI ⟨it, L, R, N, dead, ao1, n1, cap1, tag, body⟩ al = true) := ⟨hP, hM⟩
    have HQ : Hid (tvP mayN l = some (V, m)) := hq
    clear hP hM hq
    go_wp2_with fail
    have hcs : Cs w1 tb (fun j => if j = 4 then .bool false else if j = 5 then .slice none 0 0 else if j = 6 then .string ⟨#[]⟩ else if j = 7 then .string ⟨#[]⟩ else .int .i64 0) := eight ⟨g0, f0⟩ ⟨g1, f1⟩ ⟨g2, f2⟩ ⟨g3, f3⟩ ⟨g4, f4⟩ ⟨g5, f5⟩ ⟨g6, f6⟩ ⟨g7, f7⟩
    obtain ⟨gg, ⟨e0, e1, e2, e3, e4, e5, e6, e7⟩, hcs8⟩ := set8_cs hcs (.int .i64 it) (.int .i64 L) (.int .i64 R) (.int .i64 N) (.bool dead) (.slice ao1 n1 cap1) (.string tag) (.string body)
    obtain ⟨Y, hY⟩ : ∃ Y, Y = set8 w1 tb (.int .i64 it) (.int .i64 L) (.int .i64 R) (.int .i64 N) (.bool dead) (.slice ao1 n1 cap1) (.string tag) (.string body) := ⟨_, rfl⟩
    have hkY : Kept (But tb) w1 Y := by rw [hY]; exact kept8 _ _ _ _ _ _ _ _ _ _
    have hsY : Y.heap.size = w1.heap.size := by rw [hY]; simp [set8, World.setCell]
    rw [← hY] at hcs8
    have HY : Hid (Y = set8 w1 tb (.int .i64 it) (.int .i64 L) (.int .i64 R) (.int .i64 N) (.bool dead) (.slice ao1 n1 cap1) (.string tag) (.string body)) := hY
    clear hY g0 g1 g2 g3 g4 g5 g6 g7 f0 f1 f2 f3 f4 f5 f6 f7 hcs
    unfold set8 at HY
    rw [← HY.out, ← hsY]
    have hbA : Below Y.heap.size Y (Y.alloc (.cells #[.string ⟨#[]⟩] 54)) := (Below.refl _ Y).alloc (Nat.le_refl _) _
    obtain ⟨X, hX⟩ : ∃ X, X = Y.alloc (.cells #[.string ⟨#[]⟩] 54) := ⟨_, rfl⟩
    rw [← hX] at hbA ⊢
    clear hX
    refine (as21_nil 56 _ _).mono ?_
    rintro r w2 ⟨rfl, rfl⟩
    have hcs2 : Cs w2 tb gg := hcs8.kept (P := Any) (Kept.of_below hbA) trivial
    have HB2 : Hid (Kept (But tb) w1 w2) := hkY.trans (Kept.of_below hbA)
    obtain ⟨⟨g0, g1, g2, g3, g4, g5, g6, g7⟩, f0, f1, f2, f3, f4, f5, f6, f7⟩ := hcs2.eight
    rw [e0] at g0
    rw [e1] at g1
    rw [e2] at g2
    rw [e3] at g3
    rw [e4] at g4
    rw [e5] at g5
    rw [e6] at g6
    rw [e7] at g7
    clear hcs2 hcs8 hbA hkY e0 e1 e2 e3 e4 e5 e6 e7
    go_wp2
    refine bodyPost_ret (v := .tuple #[Vn.val ⟨it, L, R, N, dead, ao1, n1, cap1, tag, body⟩, .int .i64 (m : Int), .bool true]) (by simp [results, Tryd.results11, go_sem, *, Vn.val]) rfl ?_
    exact take_ok HQ.out HA.out.1 HA.out.2.1 HA.out.2.2.1 (HX.out.2.2.trans (HA.out.2.2.2.mono (by have := HX.out.2.2.size; exact this))) (HB2.out.trans (kept8 tb _ _ _ _ _ _ _ _ _)) HX.out.2.1 (fun b off _ e => by have := HAB.out b off e; omega) HT.out

end Go.Proofs.YtopkeembbopbmaaDoor
