/- Rows of views as they are handed about. -/
/- Three rows in whichever order: plain mathematics; and three rows side by side in memory. -/
/- view.Epochs: of each replica the greatest that a view tells. -/
/- cardamomref11.Epochs: of each replica the greatest that a view tells. -/
/- cardamomref11.Merge of two rows of the same replicas. -/
import Derived.Test.YtdeojcodbojmoaaGreatDoorJat
import Derived.Test.YtdeojcodbojmoaaGreatDoorJam
import Derived.Test.YtdeojcodbojmoaaGreatDoorJad
import Derived.Laws.MakeOwn
namespace Go.Proofs.YtdeojcodbojmoaaGreatDoor
open Go.RowKit
set_option maxRecDepth 100000
set_option linter.unusedVariables false

/-- A slice that reads as a row of views. -/
def RVw (w : World) (o : Option Addr) (n oc : Nat) (l : List Vw) : Prop := ∃ ps, ps.map (·.2) = l ∧ RowV w.heap.size w o n oc ps

theorem RVw.below {w w' : World} {o : Option Addr} {n oc : Nat} {l : List Vw} (h : RVw w o n oc l) (hb : Below w.heap.size w w') : RVw w' o n oc l := by
  obtain ⟨ps, e, hr⟩ := h
  have h1 := hr.below (Nat.le_refl _) hb
  exact ⟨ps, e, h1.len, h1.le, h1.lid, h1.row.mono (fun b hb' _ => hb'), h1.lv.mono (fun b hb' _ => hb')⟩

theorem RVw.nil (w : World) : RVw w none 0 0 [] := ⟨[], rfl, rfl, by decide, by decide, ⟨rfl, by decide, fun h => absurd h (by decide)⟩, fun p hp => (List.not_mem_nil hp).elim⟩

theorem RVw.len {w : World} {o : Option Addr} {n oc : Nat} {l : List Vw} (h : RVw w o n oc l) : n = l.length := by
  obtain ⟨ps, e, hr⟩ := h
  rw [← e, List.length_map]; exact hr.len

theorem RVw.le {w : World} {o : Option Addr} {n oc : Nat} {l : List Vw} (h : RVw w o n oc l) : n ≤ oc := by
  obtain ⟨ps, e, hr⟩ := h
  exact hr.le

/-- Out of a row of one's own. -/
theorem RVw.of_own {P : Nat → Prop} {w : World} {base : Nat} {o : Option Addr} {n oc : Nat} {ps : List (Vc × Vw)} (h : w.ownsRow base 25 5 (.slice o n oc) n (pcells ps)) (hn : n = ps.length) (h1 : 1 ≤ n) (h2 : n ≤ 1000) (lv : Lvs P w ps) : RVw w o n oc (ps.map (·.2)) := by
  have hr := Rds.of_own h h2 (.inl h1)
  refine ⟨ps, rfl, hn, ?_, ?_, hr.z.mono (fun b hb _ => hb), lv.mono (fun b hb _ => hb)⟩
  · rcases h.2 with ⟨e, _⟩ | ⟨g, c, cur, e, _, _, hc, _⟩
    · cases e; exact Nat.le_refl _
    · cases e; exact hc
  · rcases h.2 with ⟨e, _⟩ | ⟨g, c, cur, e, _, _, _, hc, _⟩
    · cases e; exact Nat.zero_le _
    · cases e; exact hc

/-- view.Merge. -/
theorem rmerge (w : World) (a b : Option Addr) (na ca nb cb : Nat) (la lb : List Vw) (ra : RVw w a na ca la) (rb : RVw w b nb cb lb) (h1 : 1 ≤ (mg la lb).length) (h2 : (mg la lb).length ≤ 1000) :
    Calls Tryz.prog 17 #[.slice a na ca, .slice b nb cb] w fun e w' => ∃ o oc, e = .returned (.slice o (mg la lb).length oc) ∧ RVw w' o (mg la lb).length oc (mg la lb) ∧ Below w.heap.size w w' := by
  obtain ⟨pa, ea, ha⟩ := ra
  obtain ⟨pb, eb, hb⟩ := rb
  refine (merge17 w a b na ca nb cb pa pb ha hb).mono ?_
  rintro e w' ⟨o, oc, ps, rfl, hm, hown, hlv, hbl⟩
  rw [ea, eb] at hm
  have hl : ps.length = (mg la lb).length := by rw [← hm, List.length_map]
  rw [hl] at hown hlv
  have hr := RVw.of_own hown hl.symm h1 h2 hlv
  rw [hm] at hr
  exact ⟨o, oc, by rw [hl], hr, hbl⟩

/-- cardamomref11.SameViews of what is alike. -/
theorem rsame (w : World) (a b : Option Addr) (na ca nb cb : Nat) (l : List Vw) (ra : RVw w a na ca l) (rb : RVw w b nb cb l) :
    Calls Tryz.prog 16 #[.slice a na ca, .slice b nb cb] w fun e w' => e = .returned (.bool true) ∧ Below w.heap.size w w' := by
  obtain ⟨pa, ea, ha⟩ := ra
  obtain ⟨pb, eb, hb⟩ := rb
  exact sameviews16 w _ _ a b na ca nb cb pa pb ha.len hb.len (ea.trans eb.symm) ha.row hb.row ha.lv hb.lv

/-- The cells of one of them. -/
theorem RVw.at {w : World} {o : Option Addr} {n oc : Nat} {l : List Vw} (h : RVw w o n oc l) (i : Nat) (hi : i < l.length) : ∃ (b off : Nat) (c : Vc), o = some ⟨b, off, none⟩ ∧ b < w.heap.size ∧ Lv (fun k => k < w.heap.size) w c l[i] ∧
    w.cell? ⟨b, off + i * 5, none⟩ = some (.int .i64 c.R) ∧ w.cell? ⟨b, off + i * 5 + 1, none⟩ = some (.int .i64 c.Rev) ∧ w.cell? ⟨b, off + i * 5 + 2, none⟩ = some (.string c.f) ∧ w.cell? ⟨b, off + i * 5 + 3, none⟩ = some (.slice c.sa c.sn c.sc) ∧ w.cell? ⟨b, off + i * 5 + 4, none⟩ = some (.slice c.ea c.en c.ec) := by
  obtain ⟨ps, rfl, hr⟩ := h
  have hi' : i < ps.length := by simpa using hi
  obtain ⟨b, off, e, _, hb, hc⟩ := hr.row.2.2 (by have := hr.len; omega)
  obtain ⟨f0, f1, f2, f3, f4⟩ := view_at (P := Any) hc i hi'
  refine ⟨b, off, (ps[i]).1, e, hb, ?_, f0, f1, f2, f3, f4⟩
  have := hr.lv _ (List.getElem_mem hi')
  simpa using this

/-- Two rows out of numbers. -/
theorem rviews (pb n : Nat) (w : World) (hp : Pick w pb) (hn1 : 1 ≤ n) (hn5 : n ≤ 5) :
    Calls Tryz.prog 11 #[.pointer (some ⟨pb, 0, none⟩), .int .i64 n] w fun e w' => ∃ o oc l, e = .returned (.slice o n oc) ∧ List.length l = n ∧ (∀ i (h : i < l.length), Gd n i l[i]) ∧ (∀ w'', Kept (But pb) w' w'' → RVw w'' o n oc l) ∧ Went pb w w' := by
  have hlt := hp.lt
  refine (views11 pb n w hp hn1 hn5).mono ?_
  rintro e w' ⟨o, oc, ps, rfl, h1, h2, h3, h4, h5, h6⟩
  refine ⟨o, oc, ps.map (·.2), rfl, by simpa using h1, fun i h => by simpa using h4 i (by simpa using h), fun w'' hk => ?_, h6⟩
  refine RVw.of_own (own_kept h2 hk (fun g _ hg => by unfold But; omega)) h1.symm hn1 (by omega) (P := fun k => w.heap.size ≤ k) ?_
  exact (h3.mono (fun b _ h => h.1)).kept (hk.mono (fun b _ h => by unfold But; omega))

theorem gd_R {n : Nat} {l : List Vw} (hl : l.length = n) (h : ∀ i (h : i < l.length), Gd n i l[i]) : l.map (·.R) = (List.range n).map (fun i => ((i : Nat) : Int) + 1) := by
  apply List.ext_getElem
  · simp [hl]
  · intro i h1 h2
    have := (h i (by simpa using h1)).R
    simpa using this

end Go.Proofs.YtdeojcodbojmoaaGreatDoor
namespace Go.Proofs.YtdeojcodbojmoaaGreatDoor
open Go.RowKit
set_option maxRecDepth 100000
set_option linter.unusedVariables false

/-- Of one number, one view. -/
structure Q3 (x y z : Vw) : Prop where
  xy : x.Rev = y.Rev → x = y
  xz : x.Rev = z.Rev → x = z
  yz : y.Rev = z.Rev → y = z

theorem pick_stay {x y : Vw} (h : y.Rev ≤ x.Rev) : pick x y = x := by unfold pick; rw [if_pos h]
theorem pick_go {x y : Vw} (h : ¬ y.Rev ≤ x.Rev) : pick x y = y := by unfold pick; rw [if_neg h]

theorem pick_flip {x z : Vw} (h : x.Rev = z.Rev → x = z) : pick x z = pick z x := by
  by_cases c : z.Rev ≤ x.Rev
  · rw [pick_stay c]
    by_cases d : x.Rev ≤ z.Rev
    · rw [pick_stay d]; exact h (by omega)
    · rw [pick_go d]
  · rw [pick_go c, pick_stay (by omega)]

theorem pick_order {x y z : Vw} (q : Q3 x y z) : pick (pick x y) z = pick z (pick y x) := by
  obtain ⟨h1, h2, h3⟩ := q
  rw [pick_flip h1]
  apply pick_flip
  by_cases a : x.Rev ≤ y.Rev
  · rw [pick_stay a]; exact h3
  · rw [pick_go a]; exact h2

theorem pick_Rev (x y : Vw) : (pick x y).Rev = max x.Rev y.Rev := by
  unfold pick
  split <;> omega

theorem zip3 (A B C : List Vw) (hB : B.length = A.length) (hC : C.length = A.length) (q : ∀ i (h : i < A.length), Q3 A[i] (B[i]'(by omega)) (C[i]'(by omega))) :
    List.zipWith pick (List.zipWith pick A B) C = List.zipWith pick C (List.zipWith pick B A) := by
  apply List.ext_getElem
  · simp [hB, hC]
  · intro i h1 h2
    simp only [List.getElem_zipWith]
    exact pick_order (q i (by simp at h1; omega))

theorem zip_mid (A B C : List Vw) (hB : B.length = A.length) (hC : C.length = A.length) :
    List.zipWith pick (List.zipWith pick (List.zipWith pick A B) C) B = List.zipWith pick (List.zipWith pick A B) C := by
  apply List.ext_getElem
  · simp [hB, hC]
  · intro i h1 h2
    simp only [List.getElem_zipWith]
    exact pick_stay (by rw [pick_Rev, pick_Rev]; omega)

/-- A row of views in block g, which may be written. -/
structure Rr (w : World) (g : Nat) (ps : List (Vc × Vw)) : Prop where
  lt : g < w.heap.size
  cells : ∀ j u, (pcells ps)[j]? = some u → w.cell? ⟨g, j, none⟩ = some u
  free : ∀ j, w.frozen? ⟨g, j, none⟩ = false

theorem Rr.kept {P : Nat → Prop} {w w' : World} {g : Nat} {ps : List (Vc × Vw)} (h : Rr w g ps) (hk : Kept P w w') (hp : P g) : Rr w' g ps :=
  ⟨Nat.lt_of_lt_of_le h.lt hk.size, fun j u hu => (hk.cell h.lt hp).trans (h.cells j u hu), fun j => (hk.frozen h.lt hp).trans (h.free j)⟩

/-- Three rows; none of their views' lists lies in one of their blocks. -/
structure St (w : World) (g0 g1 g2 n : Nat) (A B C : List (Vc × Vw)) : Prop where
  a : Rr w g0 A
  b : Rr w g1 B
  c : Rr w g2 C
  la : A.length = n
  lb : B.length = n
  lc : C.length = n
  va : Lvs (fun k => k ≠ g0 ∧ k ≠ g1 ∧ k ≠ g2) w A
  vb : Lvs (fun k => k ≠ g0 ∧ k ≠ g1 ∧ k ≠ g2) w B
  vc : Lvs (fun k => k ≠ g0 ∧ k ≠ g1 ∧ k ≠ g2) w C
  ab : g0 ≠ g1
  ac : g0 ≠ g2
  bc : g1 ≠ g2

theorem St.below {w w' : World} {g0 g1 g2 n : Nat} {A B C : List (Vc × Vw)} (h : St w g0 g1 g2 n A B C) (hb : Below w.heap.size w w') : St w' g0 g1 g2 n A B C :=
  have hk : Kept Any w w' := Kept.of_below hb
  ⟨h.a.kept hk trivial, h.b.kept hk trivial, h.c.kept hk trivial, h.la, h.lb, h.lc, h.va.below hb, h.vb.below hb, h.vc.below hb, h.ab, h.ac, h.bc⟩

/-- Five cells of one view put in another one's place. -/
def put5 (w : World) (g j : Nat) (c : Vc) : World :=
  ((((w.setCell ⟨g, j, none⟩ (.int .i64 c.R)).setCell ⟨g, j + 1, none⟩ (.int .i64 c.Rev)).setCell ⟨g, j + 2, none⟩ (.string c.f)).setCell ⟨g, j + 3, none⟩ (.slice c.sa c.sn c.sc)).setCell ⟨g, j + 4, none⟩ (.slice c.ea c.en c.ec)

theorem put5_kept (w : World) (g j : Nat) (c : Vc) : Kept (fun k => k ≠ g) w (put5 w g j c) :=
  (((((Kept.refl _ w).setCell (p := ⟨g, j, none⟩) (fun k _ h => h) _).setCell (p := ⟨g, j + 1, none⟩) (fun k _ h => h) _).setCell (p := ⟨g, j + 2, none⟩) (fun k _ h => h) _).setCell (p := ⟨g, j + 3, none⟩) (fun k _ h => h) _).setCell (p := ⟨g, j + 4, none⟩) (fun k _ h => h) _

theorem pcells_set (ps : List (Vc × Vw)) (r : Nat) (p : Vc × Vw) (h : r < ps.length) (j : Nat) : (pcells (ps.set r p))[j]? = if r * 5 ≤ j ∧ j < r * 5 + 5 then p.1.vals[j - r * 5]? else (pcells ps)[j]? := by
  induction ps generalizing r j with
  | nil => simp at h
  | cons q ps ih =>
    cases r with
    | zero =>
      simp only [List.set_cons_zero, pcells, Nat.zero_mul, Nat.zero_le, true_and, Nat.zero_add, Nat.sub_zero]
      by_cases hj : j < 5
      · rw [if_pos hj, List.getElem?_append_left (by simp [Vc.vals]; omega)]
      · rw [if_neg hj, List.getElem?_append_right (by simp [Vc.vals]; omega), List.getElem?_append_right (by simp [Vc.vals]; omega)]
        simp [Vc.vals]
    | succ r =>
      simp only [List.set_cons_succ, pcells]
      by_cases hj : j < 5
      · rw [if_neg (by omega), List.getElem?_append_left (by simp [Vc.vals]; omega), List.getElem?_append_left (by simp [Vc.vals]; omega)]
      · rw [List.getElem?_append_right (by simp [Vc.vals]; omega), List.getElem?_append_right (by simp [Vc.vals]; omega)]
        have e : (q.1.vals).length = 5 := by simp [Vc.vals]
        rw [e, ih r (by simpa using h) (j - 5)]
        by_cases hr : r * 5 ≤ j - 5 ∧ j - 5 < r * 5 + 5
        · rw [if_pos hr, if_pos (by omega)]
          congr 1; omega
        · rw [if_neg hr, if_neg (by omega)]

theorem put5_rr {w : World} {g : Nat} {ps : List (Vc × Vw)} (h : Rr w g ps) (r : Nat) (hr : r < ps.length) (p : Vc × Vw) : Rr (put5 w g (r * 5) p.1) g (ps.set r p) := by
  have hold := view_at (P := Any) (w := w) (b := g) (off := 0) (ps := ps) (fun j u hu => by rw [Nat.zero_add]; exact h.cells j u hu) r hr
  simp only [Nat.zero_add] at hold
  obtain ⟨o0, o1, o2, o3, o4⟩ := hold
  refine ⟨by simpa [put5] using h.lt, fun j u hu => ?_, fun j => by simpa [put5] using h.free j⟩
  rw [pcells_set ps r p hr j] at hu
  unfold put5
  by_cases hj : r * 5 ≤ j ∧ j < r * 5 + 5
  · rw [if_pos hj] at hu
    obtain ⟨q, rfl⟩ : ∃ q, j = r * 5 + q := ⟨j - r * 5, by omega⟩
    have e : r * 5 + q - r * 5 = q := by omega
    rw [e] at hu
    match q, hu with
    | 0, hu =>
      simp [Vc.vals] at hu; subst hu
      rw [World.cell?_setCell_other _ _ _ _ (by simp), World.cell?_setCell_other _ _ _ _ (by simp), World.cell?_setCell_other _ _ _ _ (by simp), World.cell?_setCell_other _ _ _ _ (by simp)]
      exact World.cell?_setCell_same _ _ _ o0
    | 1, hu =>
      simp [Vc.vals] at hu; subst hu
      rw [World.cell?_setCell_other _ _ _ _ (by simp), World.cell?_setCell_other _ _ _ _ (by simp), World.cell?_setCell_other _ _ _ _ (by simp)]
      exact World.cell?_setCell_same _ _ _ (by rw [World.cell?_setCell_other _ _ _ _ (by simp)]; exact o1)
    | 2, hu =>
      simp [Vc.vals] at hu; subst hu
      rw [World.cell?_setCell_other _ _ _ _ (by simp), World.cell?_setCell_other _ _ _ _ (by simp)]
      exact World.cell?_setCell_same _ _ _ (by rw [World.cell?_setCell_other _ _ _ _ (by simp), World.cell?_setCell_other _ _ _ _ (by simp)]; exact o2)
    | 3, hu =>
      simp [Vc.vals] at hu; subst hu
      rw [World.cell?_setCell_other _ _ _ _ (by simp)]
      exact World.cell?_setCell_same _ _ _ (by rw [World.cell?_setCell_other _ _ _ _ (by simp), World.cell?_setCell_other _ _ _ _ (by simp), World.cell?_setCell_other _ _ _ _ (by simp)]; exact o3)
    | 4, hu =>
      simp [Vc.vals] at hu; subst hu
      exact World.cell?_setCell_same _ _ _ (by rw [World.cell?_setCell_other _ _ _ _ (by simp), World.cell?_setCell_other _ _ _ _ (by simp), World.cell?_setCell_other _ _ _ _ (by simp), World.cell?_setCell_other _ _ _ _ (by simp)]; exact o4)
    | m + 5, hu => simp [Vc.vals] at hu
  · rw [if_neg hj] at hu
    rw [World.cell?_setCell_other _ _ _ _ (by simp <;> omega), World.cell?_setCell_other _ _ _ _ (by simp <;> omega), World.cell?_setCell_other _ _ _ _ (by simp <;> omega), World.cell?_setCell_other _ _ _ _ (by simp <;> omega), World.cell?_setCell_other _ _ _ _ (by simp <;> omega)]
    exact h.cells j u hu

theorem lvs_set {P : Nat → Prop} {w : World} {ps : List (Vc × Vw)} (h : Lvs P w ps) (r : Nat) (p : Vc × Vw) (hp : Lv P w p.1 p.2) : Lvs P w (ps.set r p) := by
  intro q hq
  rcases List.mem_or_eq_of_mem_set hq with hq | rfl
  · exact h q hq
  · exact hp

/-- A view of the first row put into the second; into the third. -/
theorem St.putB {w : World} {g0 g1 g2 n : Nat} {A B C : List (Vc × Vw)} (h : St w g0 g1 g2 n A B C) (r : Nat) (hr : r < n) (p : Vc × Vw) (hp : Lv (fun k => k ≠ g0 ∧ k ≠ g1 ∧ k ≠ g2) w p.1 p.2) : St (put5 w g1 (r * 5) p.1) g0 g1 g2 n A (B.set r p) C := by
  have hk := put5_kept w g1 (r * 5) p.1
  have hk' : Kept (fun k => k ≠ g0 ∧ k ≠ g1 ∧ k ≠ g2) w (put5 w g1 (r * 5) p.1) := hk.mono (fun k _ h => h.2.1)
  exact ⟨h.a.kept hk h.ab, put5_rr h.b r (by rw [h.lb]; exact hr) p, h.c.kept hk (Ne.symm h.bc), h.la, by simp [h.lb], h.lc, h.va.kept hk', (lvs_set h.vb r p hp).kept hk', h.vc.kept hk', h.ab, h.ac, h.bc⟩

theorem St.putC {w : World} {g0 g1 g2 n : Nat} {A B C : List (Vc × Vw)} (h : St w g0 g1 g2 n A B C) (r : Nat) (hr : r < n) (p : Vc × Vw) (hp : Lv (fun k => k ≠ g0 ∧ k ≠ g1 ∧ k ≠ g2) w p.1 p.2) : St (put5 w g2 (r * 5) p.1) g0 g1 g2 n A B (C.set r p) := by
  have hk := put5_kept w g2 (r * 5) p.1
  have hk' : Kept (fun k => k ≠ g0 ∧ k ≠ g1 ∧ k ≠ g2) w (put5 w g2 (r * 5) p.1) := hk.mono (fun k _ h => h.2.2)
  exact ⟨h.a.kept hk h.ac, h.b.kept hk h.bc, put5_rr h.c r (by rw [h.lc]; exact hr) p, h.la, h.lb, by simp [h.lc], h.va.kept hk', h.vb.kept hk', (lvs_set h.vc r p hp).kept hk', h.ab, h.ac, h.bc⟩

/-- The cells of one view of such a row. -/
theorem Rr.at {w : World} {g : Nat} {ps : List (Vc × Vw)} (h : Rr w g ps) (i : Nat) (hi : i < ps.length) :
    w.cell? ⟨g, i * 5, none⟩ = some (.int .i64 (ps[i]).1.R) ∧ w.cell? ⟨g, i * 5 + 1, none⟩ = some (.int .i64 (ps[i]).1.Rev) ∧ w.cell? ⟨g, i * 5 + 2, none⟩ = some (.string (ps[i]).1.f) ∧ w.cell? ⟨g, i * 5 + 3, none⟩ = some (.slice (ps[i]).1.sa (ps[i]).1.sn (ps[i]).1.sc) ∧ w.cell? ⟨g, i * 5 + 4, none⟩ = some (.slice (ps[i]).1.ea (ps[i]).1.en (ps[i]).1.ec) := by
  have hold := view_at (P := Any) (w := w) (b := g) (off := 0) (ps := ps) (fun j u hu => by rw [Nat.zero_add]; exact h.cells j u hu) i hi
  simpa only [Nat.zero_add] using hold

end Go.Proofs.YtdeojcodbojmoaaGreatDoor
namespace Go.Proofs.YtdeojcodbojmoaaGreatDoor
open Go.RowKit
set_option maxRecDepth 100000
set_option linter.unusedVariables false

/-- What one view tells of a replica. -/
def tell (v : Vw) (i : Nat) : Int := (v.ep[i]?).getD 0

/-- The greatest that one of them tells. -/
def most : List Vw → Nat → Int
  | [], _ => 0
  | v :: r, i => max (most r i) (tell v i)

theorem most_snoc (l : List Vw) (v : Vw) (i : Nat) : most (l ++ [v]) i = max (most l i) (tell v i) := by
  induction l with
  | nil => simp [most]
  | cons x l ih => simp only [List.cons_append, most, ih]; omega

theorem most_nonneg (l : List Vw) (i : Nat) : 0 ≤ most l i := by
  induction l with
  | nil => exact Int.le_refl _
  | cons x l ih => simp only [most]; omega

theorem makeN (W : World) (n : Nat) (h1 : 1 ≤ n) (h5 : n ≤ 5) : ∃ M : Array Value, M.size = n ∧ (∀ i, i < n → M[i]? = some (.int .i64 0)) ∧ (Instr.makeSlice 23 (.int .i64 n) (.int .i64 n)).run Tryz.prog W = .ok (.slice (some ⟨W.heap.size, 0, none⟩) n n) (W.alloc (.cells M 3)) := by
  obtain ⟨i0, hi, hz0, hz1, hz2⟩ := info_parts Tryz.info3
  have h := run_make (P := Tryz.prog) W 23 3 i0 (.int .i64 0) Tryz.underlying23 hi hz0 .i64 .i64 (n : Int) (n : Int) (by omega) (by omega) (by rw [hz2]; omega) (by omega)
  rw [hz1, Nat.mul_one] at h
  refine ⟨madeCells (Value.int .i64 0).cells n, ?_, ?_, by simpa using h⟩
  · rw [size_madeCells]
  · have hn : n = 1 ∨ n = 2 ∨ n = 3 ∨ n = 4 ∨ n = 5 := by omega
    rcases hn with rfl | rfl | rfl | rfl | rfl
    · have e : madeCells (Value.int .i64 0).cells 1 = #[.int .i64 0] := by kernel_rfl
      rw [e]; intro i hi; match i, hi with
      | 0, _ => rfl
    · have e : madeCells (Value.int .i64 0).cells 2 = #[.int .i64 0, .int .i64 0] := by kernel_rfl
      rw [e]; intro i hi; match i, hi with
      | 0, _ => rfl
      | 1, _ => rfl
    · have e : madeCells (Value.int .i64 0).cells 3 = #[.int .i64 0, .int .i64 0, .int .i64 0] := by kernel_rfl
      rw [e]; intro i hi; match i, hi with
      | 0, _ => rfl
      | 1, _ => rfl
      | 2, _ => rfl
    · have e : madeCells (Value.int .i64 0).cells 4 = #[.int .i64 0, .int .i64 0, .int .i64 0, .int .i64 0] := by kernel_rfl
      rw [e]; intro i hi; match i, hi with
      | 0, _ => rfl
      | 1, _ => rfl
      | 2, _ => rfl
      | 3, _ => rfl
    · have e : madeCells (Value.int .i64 0).cells 5 = #[.int .i64 0, .int .i64 0, .int .i64 0, .int .i64 0, .int .i64 0] := by kernel_rfl
      rw [e]; intro i hi; match i, hi with
      | 0, _ => rfl
      | 1, _ => rfl
      | 2, _ => rfl
      | 3, _ => rfl
      | 4, _ => rfl

/-- A view tells of none, or of n, from 0 on. -/
def Tells (n : Nat) (v : Vw) : Prop := (v.ep = [] ∨ v.ep.length = n) ∧ ∀ e ∈ v.ep, 0 ≤ e

/-- Block g holds the numbers f 0 .. f (n - 1), and may be written. -/
def Nums (w : World) (g n : Nat) (f : Nat → Int) : Prop := (∀ i, i < n → w.cell? ⟨g, i, none⟩ = some (.int .i64 (f i))) ∧ ∀ i, w.frozen? ⟨g, i, none⟩ = false

theorem Nums.below {w w' : World} {g n : Nat} {f : Nat → Int} (h : Nums w g n f) (hg : g < w.heap.size) (hb : Below w.heap.size w w') : Nums w' g n f :=
  ⟨fun i hi => (hb.cell (p := ⟨g, i, none⟩) hg).trans (h.1 i hi), fun i => (hb.frozen (p := ⟨g, i, none⟩) hg).trans (h.2 i)⟩

theorem Nums.set {w : World} {g n : Nat} {f f' : Nat → Int} (h : Nums w g n f) (j : Nat) (hj : j < n) (v : Int) (hv : f' j = v) (ho : ∀ i, i ≠ j → f' i = f i) : Nums (w.setCell ⟨g, j, none⟩ (.int .i64 v)) g n f' := by
  refine ⟨fun i hi => ?_, fun i => by simpa using h.2 i⟩
  by_cases e : i = j
  · subst e
    rw [hv]
    exact World.cell?_setCell_same _ _ _ (h.1 i hi)
  · rw [World.cell?_setCell_other _ _ _ _ (by simp <;> omega), ho i e]
    exact h.1 i hi

theorem Nums.eq {w : World} {g n : Nat} {f f' : Nat → Int} (h : Nums w g n f) (ho : ∀ i, i < n → f' i = f i) : Nums w g n f' := ⟨fun i hi => by rw [ho i hi]; exact h.1 i hi, h.2⟩

/-- Numbers below j are the greater ones already. -/
def upto (F : Nat → Int) (v : Vw) (j : Nat) : Nat → Int := fun i => if i < j then max (F i) (tell v i) else F i

set_option maxHeartbeats 4000000 in
theorem epochs20 (w : World) (o : Option Addr) (n oc : Nat) (l : List Vw) (h1 : 1 ≤ n) (h5 : n ≤ 5) (hr : RVw w o n oc l) (ht : ∀ v ∈ l, Tells n v) :
    Calls Tryz.prog 20 #[.slice o n oc, .int .i64 n] w fun r w' => r = .returned (.slice (some ⟨w.heap.size, 0, none⟩) n n) ∧ (∀ i, i < n → w'.cell? ⟨w.heap.size, i, none⟩ = some (.int .i64 (most l i))) ∧ Below w.heap.size w w' := by
  obtain ⟨M, hMs, hM0, hmk⟩ := makeN w n h1 h5
  have hll : l.length = n := hr.len.symm
  go_enter Tryz.func20, Tryz.ntmps20
  go_wp2_with fail
  obtain ⟨V, hV⟩ : ∃ V, V = w.alloc (.cells M 3) := ⟨_, rfl⟩
  rw [← hV]
  have hbV : Below w.heap.size w V := by rw [hV]; exact (Below.refl _ _).alloc (Nat.le_refl _) _
  have hsV : w.heap.size < V.heap.size := by rw [hV]; simp
  have hN : Nums V w.heap.size n (fun _ => 0) := ⟨fun i hi => by rw [hV]; simp [hM0 i hi], fun i => by rw [hV]; simp⟩
  clear hV hmk hM0 hMs
  go_loopw [6, 22] (fun t i wr => ∃ (k told : Nat), k ≤ n ∧ told ≤ n ∧ i = .int .i64 k ∧ t = .int .i64 told ∧ Hid (Nums wr w.heap.size n (most (l.take k)) ∧ (∀ i, told ≤ i → most (l.take k) i = 0) ∧ Below w.heap.size w wr) ∧ w.heap.size < wr.heap.size) (fun _ i _ => n - (intOf i).toNat)
  case atStart => exact ⟨0, 0, Nat.zero_le _, Nat.zero_le _, rfl, rfl, ⟨hN, fun i _ => rfl, hbV⟩, hsV⟩
  case round =>
    obtain ⟨k, told, hk, htn, rfl, rfl, HI, hsz⟩ := hrel
    by_cases hlt : k < n
    · obtain ⟨b, off, c, rfl, hb, lc, f0, f1, f2, f3, f4⟩ := hr.at k (by omega)
      have hmem : l[k]'(by omega) ∈ l := List.getElem_mem _
      have htk : l.take (k + 1) = l.take k ++ [l[k]'(by omega)] := by rw [List.take_add_one, List.getElem?_eq_getElem (by omega)]; rfl
      have hte := ht _ hmem
      have hF : ∀ i, most (l.take (k + 1)) i = max (most (l.take k) i) (tell (l[k]'(by omega)) i) := fun i => by rw [htk, most_snoc]
      have hlcW := lc
      have HF : Hid ((∀ i, most (l.take (k + 1)) i = max (most (l.take k) i) (tell (l[k]'(by omega)) i)) ∧ (∀ i, 0 ≤ most (l.take k) i)) := ⟨hF, most_nonneg _⟩
      have g0 : wr.cell? ⟨b, off + k * 5, none⟩ = some (.int .i64 c.R) := (HI.out.2.2.cell (p := ⟨b, off + k * 5, none⟩) hb).trans f0
      have g1 : wr.cell? ⟨b, off + k * 5 + 1, none⟩ = some (.int .i64 c.Rev) := (HI.out.2.2.cell (p := ⟨b, off + k * 5 + 1, none⟩) hb).trans f1
      have g2 : wr.cell? ⟨b, off + k * 5 + 2, none⟩ = some (.string c.f) := (HI.out.2.2.cell (p := ⟨b, off + k * 5 + 2, none⟩) hb).trans f2
      have g3 : wr.cell? ⟨b, off + k * 5 + 3, none⟩ = some (.slice c.sa c.sn c.sc) := (HI.out.2.2.cell (p := ⟨b, off + k * 5 + 3, none⟩) hb).trans f3
      have g4 : wr.cell? ⟨b, off + k * 5 + 4, none⟩ = some (.slice c.ea c.en c.ec) := (HI.out.2.2.cell (p := ⟨b, off + k * 5 + 4, none⟩) hb).trans f4
      have hbr : b < wr.heap.size := by omega
      clear f0 f1 f2 f3 f4 hF htk lc
      generalize l[k]'(by omega) = v at *
      obtain ⟨F', hF'⟩ : ∃ F', F' = most (l.take (k + 1)) := ⟨_, rfl⟩
      have HFE : Hid (F' = most (l.take (k + 1))) := hF'
      rw [← hF'] at HF
      clear hF'
      generalize most (l.take k) = F at *
      obtain ⟨cR, cV, cf, csa, csn, csc, cea, cen, cec⟩ := c
      have hen : cen = v.ep.length := hlcW.en
      have hints := hlcW.ints
      simp only at g0 g1 g2 g3 g4 hints
      rcases hints with ⟨e1, e2, e3, e4⟩ | ⟨e1, e2, e3, e4, eb, eo, e5, _, heb, hec⟩
      · subst e1 e2 e3
        have hnil : v.ep = [] := List.eq_nil_of_length_eq_zero hen.symm
        have hsame : ∀ i, F' i = F i := fun i => by
          rw [HF.out.1 i]
          have : tell v i = 0 := by simp [tell, hnil]
          have := HF.out.2 i
          omega
        have HI2 : Hid (Nums wr w.heap.size n F' ∧ (∀ i, told ≤ i → F' i = 0) ∧ Below w.heap.size w wr) := ⟨HI.out.1.eq (fun i _ => hsame i), fun i hi => by rw [hsame i]; exact HI.out.2.1 i hi, HI.out.2.2⟩
        clear HI HF hte hen e4 hnil hsame hlcW
        go_wp2_with fail
        refine wp_loop_rounds 1 ?_
        rw [rounds_succ]
        have ee : max (told : Int) (max (min 0 (n : Int)) 0) = (told : Int) := by omega
        go_wp2
        go_roundw
        case rel =>
          rw [HFE.out] at HI2
          exact ⟨k + 1, told, by omega, htn, by go_num, by first | rfl | rw [ee], ⟨HI2.out.1.below hsz ((Below.refl _ _).alloc (Nat.le_refl _) _), HI2.out.2.1, HI2.out.2.2.alloc (by omega) _⟩, by simp; omega⟩
        case measure => simp [intOf]; omega
      · subst e5
        have hlen : v.ep.length = n := by
          rcases hte.1 with h | h
          · rw [h] at hen; simp at hen; omega
          · exact h
        have hcn : cen = n := hen.trans hlen
        subst hcn
        have hE : ∀ j, j < cen → ∃ u : Int, 0 ≤ u ∧ tell v j = u ∧ w.cell? ⟨eb, eo + j, none⟩ = some (.int .i64 u) := fun j hj => by
          have hj' : j < v.ep.length := by omega
          refine ⟨v.ep[j], hte.2 _ (List.getElem_mem hj'), by simp [tell, hj'], ?_⟩
          exact hec j _ (by simp [icells, hj'])
        have HE : Hid (∀ j, j < cen → ∃ u : Int, 0 ≤ u ∧ tell v j = u ∧ w.cell? ⟨eb, eo + j, none⟩ = some (.int .i64 u)) := hE
        have hvl : Hid (v.ep.length = cen) := hlen
        clear hec hE hte hen hlen hlcW e4
        go_wp2_with fail
        go_loopw [36] (fun i wr => ∃ j : Nat, j ≤ cen ∧ i = .int .i64 j ∧ Hid (Nums wr w.heap.size cen (upto F v j) ∧ Below w.heap.size w wr) ∧ w.heap.size < wr.heap.size) (fun i _ => cen - (intOf i).toNat)
        case atStart => exact ⟨0, Nat.zero_le _, rfl, ⟨(HI.out.1.below hsz ((Below.refl _ _).alloc (Nat.le_refl _) _)).eq (fun i _ => by simp [upto]), HI.out.2.2.alloc (by omega) _⟩, by simp; omega⟩
        case round =>
          obtain ⟨j, hj, rfl, HJ, hsj⟩ := hrel
          by_cases hjl : j < cen
          · obtain ⟨u, hu0, hut, huc⟩ := HE.out j hjl
            have q0 : wr.cell? ⟨eb, eo + j, none⟩ = some (.int .i64 u) := (HJ.out.2.cell (p := ⟨eb, eo + j, none⟩) heb).trans huc
            have q1 : wr.cell? ⟨w.heap.size, j, none⟩ = some (.int .i64 (F j)) := by
              have h := HJ.out.1.1 j hjl
              simpa [upto] using h
            have q2 : wr.frozen? ⟨w.heap.size, j, none⟩ = false := HJ.out.1.2 j
            have hebr : eb < wr.heap.size := by omega
            have hstep : ∀ i, upto F v (j + 1) i = if i = j then max (F j) u else upto F v j i := fun i => by
              unfold upto
              by_cases e : i = j
              · subst e; rw [if_pos (by omega), if_pos rfl, hut]
              · rw [if_neg e]
                by_cases h2 : i < j
                · rw [if_pos (by omega), if_pos h2]
                · rw [if_neg (by omega), if_neg h2]
            have HX : Hid ((∀ i, upto F v (j + 1) i = if i = j then max (F j) u else upto F v j i) ∧ (told ≤ j → F j = 0) ∧ 0 ≤ u) := ⟨hstep, fun h => HI.out.2.1 j h, hu0⟩
            have HST : Hid ((told ≤ j ∨ F j < u) → Nums (wr.setCell ⟨w.heap.size, j, none⟩ (.int .i64 u)) w.heap.size cen (upto F v (j + 1)) ∧ Below w.heap.size w (wr.setCell ⟨w.heap.size, j, none⟩ (.int .i64 u))) := fun h => by
              refine ⟨HJ.out.1.set j hjl u ?_ (fun i hi => by rw [hstep i, if_neg hi]), HJ.out.2.setCell (Nat.le_refl _) _⟩
              rw [hstep j, if_pos rfl]
              rcases h with h | h
              · have := HI.out.2.1 j h; omega
              · omega
            clear hstep hut huc
            by_cases hto : told ≤ j
            · have hd : decide ((told : Int) ≤ (j : Int)) = true := decide_eq_true (by omega)
              go_wp2_with fail
              go_roundw
              case rel => exact ⟨j + 1, by omega, by go_num, HST.out (.inl hto), by simpa using hsj⟩
              case measure => simp [intOf]; omega
            · have hd : decide ((told : Int) ≤ (j : Int)) = false := decide_eq_false (by omega)
              by_cases hfu : F j < u
              · have hd2 : decide (F j < u) = true := decide_eq_true hfu
                go_wp2_with fail
                go_roundw
                case rel => exact ⟨j + 1, by omega, by go_num, HST.out (.inr hfu), by simpa using hsj⟩
                case measure => simp [intOf]; omega
              · have hd2 : decide (F j < u) = false := decide_eq_false hfu
                have HN : Hid (Nums wr w.heap.size cen (upto F v (j + 1)) ∧ Below w.heap.size w wr) := ⟨HJ.out.1.eq (fun i _ => by
                  rw [HX.out.1 i]
                  by_cases e : i = j
                  · subst e; rw [if_pos rfl]; simp [upto]; omega
                  · rw [if_neg e]), HJ.out.2⟩
                go_wp2_with fail
                go_roundw
                case rel => exact ⟨j + 1, by omega, by go_num, HN.out, hsj⟩
                case measure => simp [intOf]; omega
          · have HN : Hid (Nums wr w.heap.size cen F' ∧ (∀ i, cen ≤ i → F' i = 0) ∧ Below w.heap.size w wr) := by
              have ej : j = cen := by omega
              refine ⟨HJ.out.1.eq (fun i hi => by rw [HF.out.1 i]; unfold upto; rw [if_pos (by omega)]), fun i hi => ?_, HJ.out.2⟩
              rw [HF.out.1 i, HI.out.2.1 i (by omega)]
              have hno : tell v i = 0 := by
                unfold tell
                rw [List.getElem?_eq_none (by rw [hvl.out]; exact hi)]; rfl
              rw [hno]; rfl
            have ee : max (told : Int) (cen : Int) = (cen : Int) := by omega
            go_wp2_with fail
            go_roundw
            case rel =>
              rw [HFE.out] at HN
              exact ⟨k + 1, cen, by omega, Nat.le_refl _, by go_num, by first | rw [ee] | rfl, HN.out, hsj⟩
            case measure => simp [intOf]; omega
    · have ek : k = n := by omega
      have HN : Hid (Nums wr w.heap.size n (most l) ∧ Below w.heap.size w wr) := by
        have := HI.out
        rw [ek, ← hll, List.take_length] at this
        rw [hll] at this
        exact ⟨this.1, this.2.2⟩
      go_wp2
      go_ret
      exact ⟨rfl, HN.out.1.1, HN.out.2⟩

end Go.Proofs.YtdeojcodbojmoaaGreatDoor
namespace Go.Proofs.YtdeojcodbojmoaaGreatDoor
open Go.RowKit
set_option maxRecDepth 100000
set_option linter.unusedVariables false

set_option maxHeartbeats 4000000 in
/-- cardamomref11.Epochs. -/
theorem repochs21 (w : World) (o : Option Addr) (n oc : Nat) (l : List Vw) (h1 : 1 ≤ n) (h5 : n ≤ 5) (hr : RVw w o n oc l) (ht : ∀ v ∈ l, Tells n v) :
    Calls Tryz.prog 21 #[.slice o n oc, .int .i64 n] w fun r w' => r = .returned (.slice (some ⟨w.heap.size, 0, none⟩) n n) ∧ (∀ i, i < n → w'.cell? ⟨w.heap.size, i, none⟩ = some (.int .i64 (most l i))) ∧ Below w.heap.size w w' := by
  obtain ⟨M, hMs, hM0, hmk⟩ := makeN w n h1 h5
  have hll : l.length = n := hr.len.symm
  go_enter Tryz.func21, Tryz.ntmps21
  go_wp2_with fail
  obtain ⟨V, hV⟩ : ∃ V, V = w.alloc (.cells M 3) := ⟨_, rfl⟩
  rw [← hV]
  have hbV : Below w.heap.size w V := by rw [hV]; exact (Below.refl _ _).alloc (Nat.le_refl _) _
  have hsV : w.heap.size < V.heap.size := by rw [hV]; simp
  have hN : Nums V w.heap.size n (fun _ => 0) := ⟨fun i hi => by rw [hV]; simp [hM0 i hi], fun i => by rw [hV]; simp⟩
  clear hV hmk hM0 hMs
  go_loopw [6] (fun i wr => ∃ (k : Nat), k ≤ n ∧ i = .int .i64 k ∧ Hid (Nums wr w.heap.size n (most (l.take k)) ∧ Below w.heap.size w wr) ∧ w.heap.size < wr.heap.size) (fun i _ => n - (intOf i).toNat)
  case atStart => exact ⟨0, Nat.zero_le _, rfl, ⟨hN, hbV⟩, hsV⟩
  case round =>
    obtain ⟨k, hk, rfl, HI, hsz⟩ := hrel
    by_cases hlt : k < n
    · obtain ⟨b, off, c, rfl, hb, lc, f0, f1, f2, f3, f4⟩ := hr.at k (by omega)
      have hmem : l[k]'(by omega) ∈ l := List.getElem_mem _
      have htk : l.take (k + 1) = l.take k ++ [l[k]'(by omega)] := by rw [List.take_add_one, List.getElem?_eq_getElem (by omega)]; rfl
      have hte := ht _ hmem
      have hF : ∀ i, most (l.take (k + 1)) i = max (most (l.take k) i) (tell (l[k]'(by omega)) i) := fun i => by rw [htk, most_snoc]
      have hlcW := lc
      have HF : Hid ((∀ i, most (l.take (k + 1)) i = max (most (l.take k) i) (tell (l[k]'(by omega)) i)) ∧ (∀ i, 0 ≤ most (l.take k) i)) := ⟨hF, most_nonneg _⟩
      have g4 : wr.cell? ⟨b, off + k * 5 + 4, none⟩ = some (.slice c.ea c.en c.ec) := (HI.out.2.cell (p := ⟨b, off + k * 5 + 4, none⟩) hb).trans f4
      have hbr : b < wr.heap.size := by omega
      have HBW : Hid (b < w.heap.size) := hb
      clear hF htk lc
      generalize l[k]'(by omega) = v at *
      obtain ⟨F', hF'⟩ : ∃ F', F' = most (l.take (k + 1)) := ⟨_, rfl⟩
      have HFE : Hid (F' = most (l.take (k + 1))) := hF'
      rw [← hF'] at HF
      clear hF'
      generalize most (l.take k) = F at *
      obtain ⟨cR, cV, cf, csa, csn, csc, cea, cen, cec⟩ := c
      have hen : cen = v.ep.length := hlcW.en
      have hints := hlcW.ints
      simp only at f4 g4 hints
      have HF4 : Hid (w.cell? ⟨b, off + k * 5 + 4, none⟩ = some (.slice cea cen cec)) := f4
      clear f0 f1 f2 f3 f4
      rcases hints with ⟨e1, e2, e3, e4⟩ | ⟨e1, e2, e3, e4, eb, eo, e5, _, heb, hec⟩
      · subst e1 e2 e3
        have hnil : v.ep = [] := List.eq_nil_of_length_eq_zero hen.symm
        have hsame : ∀ i, F' i = F i := fun i => by
          rw [HF.out.1 i]
          have : tell v i = 0 := by simp [tell, hnil]
          have := HF.out.2 i
          omega
        have HI2 : Hid (Nums wr w.heap.size n F' ∧ Below w.heap.size w wr) := ⟨HI.out.1.eq (fun i _ => hsame i), HI.out.2⟩
        clear HI HF hte hen e4 hnil hsame hlcW HF4
        go_wp2_with fail
        refine wp_loop_rounds 1 ?_
        rw [rounds_succ]
        go_wp2
        go_roundw
        case rel =>
          rw [HFE.out] at HI2
          exact ⟨k + 1, by omega, by go_num, HI2, hsz⟩
        case measure => simp [intOf]; omega
      · subst e5
        have hlen : v.ep.length = n := by
          rcases hte.1 with h | h
          · rw [h] at hen; simp at hen; omega
          · exact h
        have hcn : cen = n := hen.trans hlen
        subst hcn
        have hE : ∀ j, j < cen → ∃ u : Int, 0 ≤ u ∧ tell v j = u ∧ w.cell? ⟨eb, eo + j, none⟩ = some (.int .i64 u) := fun j hj => by
          have hj' : j < v.ep.length := by omega
          refine ⟨v.ep[j], hte.2 _ (List.getElem_mem hj'), by simp [tell, hj'], ?_⟩
          exact hec j _ (by simp [icells, hj'])
        have HE : Hid (∀ j, j < cen → ∃ u : Int, 0 ≤ u ∧ tell v j = u ∧ w.cell? ⟨eb, eo + j, none⟩ = some (.int .i64 u)) := hE
        have hvl : Hid (v.ep.length = cen) := hlen
        clear hec hE hte hen hlen hlcW e4 g4
        go_wp2_with fail
        go_loopw [7] (fun i wr => ∃ j : Nat, j ≤ cen ∧ i = .int .i64 j ∧ Hid (Nums wr w.heap.size cen (upto F v j) ∧ Below w.heap.size w wr) ∧ w.heap.size < wr.heap.size) (fun i _ => cen - (intOf i).toNat)
        case atStart => exact ⟨0, Nat.zero_le _, rfl, ⟨HI.out.1.eq (fun i _ => by simp [upto]), HI.out.2⟩, hsz⟩
        case round =>
          obtain ⟨j, hj, rfl, HJ, hsj⟩ := hrel
          have g4 : wr.cell? ⟨b, off + k * 5 + 4, none⟩ = some (.slice (some ⟨eb, eo, none⟩) cen cec) := (HJ.out.2.cell (p := ⟨b, off + k * 5 + 4, none⟩) HBW.out).trans HF4.out
          by_cases hjl : j < cen
          · obtain ⟨u, hu0, hut, huc⟩ := HE.out j hjl
            have q0 : wr.cell? ⟨eb, eo + j, none⟩ = some (.int .i64 u) := (HJ.out.2.cell (p := ⟨eb, eo + j, none⟩) heb).trans huc
            have q1 : wr.cell? ⟨w.heap.size, j, none⟩ = some (.int .i64 (F j)) := by
              have h := HJ.out.1.1 j hjl
              simpa [upto] using h
            have q2 : wr.frozen? ⟨w.heap.size, j, none⟩ = false := HJ.out.1.2 j
            have hebr : eb < wr.heap.size := by omega
            have hbr2 : b < wr.heap.size := by have := HBW.out; omega
            have hstep : ∀ i, upto F v (j + 1) i = if i = j then max (F j) u else upto F v j i := fun i => by
              unfold upto
              by_cases e : i = j
              · subst e; rw [if_pos (by omega), if_pos rfl, hut]
              · rw [if_neg e]
                by_cases h2 : i < j
                · rw [if_pos (by omega), if_pos h2]
                · rw [if_neg (by omega), if_neg h2]
            have HST : Hid (Nums (wr.setCell ⟨w.heap.size, j, none⟩ (.int .i64 (max (F j) u))).drew w.heap.size cen (upto F v (j + 1)) ∧ Below w.heap.size w (wr.setCell ⟨w.heap.size, j, none⟩ (.int .i64 (max (F j) u))).drew) := by
              refine ⟨HJ.out.1.set j hjl (max (F j) u) ?_ (fun i hi => by rw [hstep i, if_neg hi]), (HJ.out.2.setCell (p := ⟨w.heap.size, j, none⟩) (Nat.le_refl _) _).drew⟩
              rw [hstep j, if_pos rfl]
            have dj : decide ((j : Int) < (cen : Int)) = true := decide_eq_true (by omega)
            clear hstep hut huc HJ
            generalize F j = fj at *
            go_wp2_with fail
            go_region
            have HN2 : Hid _ := HST.out
            have hsX : w.heap.size < (wr.setCell ⟨w.heap.size, j, none⟩ (.int .i64 (max fj u))).drew.heap.size := by simpa using hsj
            generalize (wr.setCell ⟨w.heap.size, j, none⟩ (.int .i64 (max fj u))).drew = X at HN2 hsX ⊢
            clear q0 q1 q2 g4 HST
            go_wp2_with fail
            go_roundw
            case rel => exact ⟨j + 1, by omega, by go_num, HN2, hsX⟩
            case measure => simp [intOf]; omega
          · have HN : Hid (Nums wr w.heap.size cen F' ∧ Below w.heap.size w wr) := by
              have ej : j = cen := by omega
              exact ⟨HJ.out.1.eq (fun i hi => by rw [HF.out.1 i]; unfold upto; rw [if_pos (by omega)]), HJ.out.2⟩
            have dj : decide ((j : Int) < (cen : Int)) = false := decide_eq_false (by omega)
            have hbr2 : b < wr.heap.size := by have := HBW.out; omega
            go_wp2_with fail
            go_roundw
            case rel =>
              rw [HFE.out] at HN
              exact ⟨k + 1, by omega, by go_num, HN, hsj⟩
            case measure => simp [intOf]; omega
    · have ek : k = n := by omega
      have HN : Hid (Nums wr w.heap.size n (most l) ∧ Below w.heap.size w wr) := by
        have := HI.out
        rw [ek, ← hll, List.take_length] at this
        rw [hll] at this
        exact this
      clear HI
      go_wp2
      go_ret
      exact ⟨rfl, HN.out.1.1, HN.out.2⟩

end Go.Proofs.YtdeojcodbojmoaaGreatDoor
namespace Go.Proofs.YtdeojcodbojmoaaGreatDoor
open Go.RowKit
set_option maxRecDepth 100000
set_option linter.unusedVariables false

/-- Place k of a row. -/
def nth (l : List (Vc × Vw)) (k : Nat) : Vc × Vw := (l[k]?).getD (⟨0, 0, ⟨#[]⟩, none, 0, 0, none, 0, 0⟩, ⟨0, 0, ⟨#[]⟩, [], []⟩)
theorem nth_get (l : List (Vc × Vw)) (k : Nat) (h : k < l.length) : nth l k = l[k] := by simp [nth, h]

/-- Places below t are the greater ones already. -/
def mx (pa pb : List (Vc × Vw)) (t k : Nat) : Vc × Vw := if k < t then (if (nth pa k).2.Rev < (nth pb k).2.Rev then nth pb k else nth pa k) else nth pa k

theorem mx_other (pa pb : List (Vc × Vw)) (i k : Nat) (h : k ≠ i) : mx pa pb (i + 1) k = mx pa pb i k := by
  unfold mx
  by_cases h1 : k < i
  · rw [if_pos h1, if_pos (by omega)]
  · rw [if_neg h1, if_neg (by omega)]
theorem mx_here (pa pb : List (Vc × Vw)) (i : Nat) : mx pa pb i i = nth pa i := by unfold mx; rw [if_neg (by omega)]
theorem mx_next (pa pb : List (Vc × Vw)) (i : Nat) : mx pa pb (i + 1) i = if (nth pa i).2.Rev < (nth pb i).2.Rev then nth pb i else nth pa i := by unfold mx; rw [if_pos (by omega)]

theorem mx_zip (pa pb : List (Vc × Vw)) (n : Nat) (ha : pa.length = n) (hb : pb.length = n) : ((List.range n).map (mx pa pb n)).map (·.2) = List.zipWith pick (pa.map (·.2)) (pb.map (·.2)) := by
  apply List.ext_getElem
  · simp [ha, hb]
  · intro i h1 h2
    have hi : i < n := by simpa using h1
    simp only [List.getElem_map, List.getElem_range, List.getElem_zipWith]
    unfold mx
    rw [if_pos hi, nth_get pa i (by omega), nth_get pb i (by omega)]
    unfold pick
    by_cases h : (pa[i]).2.Rev < (pb[i]).2.Rev
    · rw [if_pos h, if_neg (by omega)]
    · rw [if_neg h, if_pos (by omega)]

theorem set_at (W : World) (g o : Nat) (u v : Value) (h : W.cell? ⟨g, o, none⟩ = some v) (i : Nat) : (W.setCell ⟨g, o, none⟩ u).cell? ⟨g, i, none⟩ = if i = o then some u else W.cell? ⟨g, i, none⟩ := by
  by_cases e : i = o
  · subst e; rw [if_pos rfl]; exact World.cell?_setCell_same _ _ _ h
  · rw [if_neg e, World.cell?_setCell_other _ _ _ _ (by simp <;> omega)]

/-- A view is put into a row. -/
theorem put_view {W X : World} {g o : Nat} {c d : Vc} (h : ∀ q, q < 5 → W.cell? ⟨g, o + q, none⟩ = c.vals[q]?)
    (hX : X = ((((W.setCell ⟨g, o, none⟩ (.int .i64 d.R)).setCell ⟨g, o + 1, none⟩ (.int .i64 d.Rev)).setCell ⟨g, o + 2, none⟩ (.string d.f)).setCell ⟨g, o + 3, none⟩ (.slice d.sa d.sn d.sc)).setCell ⟨g, o + 4, none⟩ (.slice d.ea d.en d.ec)) :
    (∀ q, q < 5 → X.cell? ⟨g, o + q, none⟩ = d.vals[q]?) ∧ (∀ i, (i < o ∨ o + 5 ≤ i) → X.cell? ⟨g, i, none⟩ = W.cell? ⟨g, i, none⟩) := by
  have e0 : W.cell? ⟨g, o, none⟩ = some (.int .i64 c.R) := h 0 (by omega)
  have e1 : W.cell? ⟨g, o + 1, none⟩ = some (.int .i64 c.Rev) := h 1 (by omega)
  have e2 : W.cell? ⟨g, o + 2, none⟩ = some (.string c.f) := h 2 (by omega)
  have e3 : W.cell? ⟨g, o + 3, none⟩ = some (.slice c.sa c.sn c.sc) := h 3 (by omega)
  have e4 : W.cell? ⟨g, o + 4, none⟩ = some (.slice c.ea c.en c.ec) := h 4 (by omega)
  have s0 := set_at W g o (.int .i64 d.R) _ e0
  have s1 := set_at (W.setCell ⟨g, o, none⟩ (.int .i64 d.R)) g (o + 1) (.int .i64 d.Rev) (.int .i64 c.Rev) (by rw [s0, if_neg (by omega)]; exact e1)
  have s2 := set_at ((W.setCell ⟨g, o, none⟩ (.int .i64 d.R)).setCell ⟨g, o + 1, none⟩ (.int .i64 d.Rev)) g (o + 2) (.string d.f) (.string c.f) (by rw [s1, if_neg (by omega), s0, if_neg (by omega)]; exact e2)
  have s3 := set_at (((W.setCell ⟨g, o, none⟩ (.int .i64 d.R)).setCell ⟨g, o + 1, none⟩ (.int .i64 d.Rev)).setCell ⟨g, o + 2, none⟩ (.string d.f)) g (o + 3) (.slice d.sa d.sn d.sc) (.slice c.sa c.sn c.sc) (by rw [s2, if_neg (by omega), s1, if_neg (by omega), s0, if_neg (by omega)]; exact e3)
  have s4 := set_at ((((W.setCell ⟨g, o, none⟩ (.int .i64 d.R)).setCell ⟨g, o + 1, none⟩ (.int .i64 d.Rev)).setCell ⟨g, o + 2, none⟩ (.string d.f)).setCell ⟨g, o + 3, none⟩ (.slice d.sa d.sn d.sc)) g (o + 4) (.slice d.ea d.en d.ec) (.slice c.ea c.en c.ec) (by rw [s3, if_neg (by omega), s2, if_neg (by omega), s1, if_neg (by omega), s0, if_neg (by omega)]; exact e4)
  subst hX
  refine ⟨fun q hq => ?_, fun i hi => ?_⟩
  · rw [s4, s3, s2, s1, s0]
    match q, hq with
    | 0, _ => rw [if_neg (by omega), if_neg (by omega), if_neg (by omega), if_neg (by omega), if_pos (by omega)]; rfl
    | 1, _ => rw [if_neg (by omega), if_neg (by omega), if_neg (by omega), if_pos (by omega)]; rfl
    | 2, _ => rw [if_neg (by omega), if_neg (by omega), if_pos (by omega)]; rfl
    | 3, _ => rw [if_neg (by omega), if_pos (by omega)]; rfl
    | 4, _ => rw [if_pos (by omega)]; rfl
  · rw [s4, s3, s2, s1, s0, if_neg (by omega), if_neg (by omega), if_neg (by omega), if_neg (by omega), if_neg (by omega)]

/-- Block g holds these views. -/
structure Mid (w wr : World) (g n : Nat) (F : Nat → Vc × Vw) : Prop where
  cells : ∀ k, k < n → ∀ q, q < 5 → wr.cell? ⟨g, k * 5 + q, none⟩ = (F k).1.vals[q]?
  froz : ∀ i, wr.frozen? ⟨g, i, none⟩ = false
  bel : Below w.heap.size w wr
  lo : w.heap.size ≤ g
  hi : g < wr.heap.size

theorem Mid.eq {w wr : World} {g n : Nat} {F F' : Nat → Vc × Vw} (h : Mid w wr g n F) (e : ∀ k, k < n → F' k = F k) : Mid w wr g n F' := ⟨fun k hk => by rw [e k hk]; exact h.cells k hk, h.froz, h.bel, h.lo, h.hi⟩
theorem Mid.drewN {w wr : World} {g n : Nat} {F : Nat → Vc × Vw} (h : Mid w wr g n F) (q : Nat) : Mid w (wr.drewN q) g n F := ⟨h.cells, h.froz, bel_dN h.bel q, h.lo, h.hi⟩
theorem Mid.put {w wr X : World} {g n j : Nat} {F F' : Nat → Vc × Vw} {d : Vc} (h : Mid w wr g n F) (hj : j < n)
    (hX : X = ((((wr.setCell ⟨g, j * 5, none⟩ (.int .i64 d.R)).setCell ⟨g, j * 5 + 1, none⟩ (.int .i64 d.Rev)).setCell ⟨g, j * 5 + 2, none⟩ (.string d.f)).setCell ⟨g, j * 5 + 3, none⟩ (.slice d.sa d.sn d.sc)).setCell ⟨g, j * 5 + 4, none⟩ (.slice d.ea d.en d.ec))
    (h1 : (F' j).1 = d) (h2 : ∀ k, k < n → k ≠ j → F' k = F k) : Mid w X g n F' := by
  obtain ⟨p1, p2⟩ := put_view (h.cells j hj) hX
  refine ⟨fun k hk q hq => ?_, fun i => ?_, ?_, h.lo, ?_⟩
  · by_cases e : k = j
    · subst e; rw [h1]; exact p1 q hq
    · rw [p2 _ (by omega), h2 k hk e]; exact h.cells k hk q hq
  · rw [hX]; simpa using h.froz i
  · rw [hX]
    exact ((((h.bel.setCell (p := ⟨g, j * 5, none⟩) h.lo _).setCell (p := ⟨g, j * 5 + 1, none⟩) h.lo _).setCell (p := ⟨g, j * 5 + 2, none⟩) h.lo _).setCell (p := ⟨g, j * 5 + 3, none⟩) h.lo _).setCell (p := ⟨g, j * 5 + 4, none⟩) h.lo _
  · rw [hX]; simpa using h.hi

set_option maxHeartbeats 8000000 in
/-- cardamomref11.Merge. -/
theorem rmerge18 (w : World) (oa ob : Option Addr) (n ca cb : Nat) (la lb : List Vw) (ra : RVw w oa n ca la) (rb : RVw w ob n cb lb) (h1 : 1 ≤ n) (h2 : n ≤ 1000)
    (ga : ∀ i (h : i < la.length), (la[i]).R = (i : Int) + 1) (gb : ∀ i (h : i < lb.length), (lb[i]).R = (i : Int) + 1) :
    Calls Tryz.prog 18 #[.slice oa n ca, .slice ob n cb] w fun e w' => ∃ o oc, e = .returned (.slice o n oc) ∧ RVw w' o n oc (List.zipWith pick la lb) ∧ Below w.heap.size w w' := by
  obtain ⟨pa, rfl, hra⟩ := ra
  obtain ⟨pb, rfl, hrb⟩ := rb
  have hla : n = pa.length := hra.len
  have hlb : n = pb.length := hrb.len
  obtain ⟨ba, fa, rfl, _, hba, hca⟩ := hra.row.2.2 (by omega)
  obtain ⟨bb, fb, rfl, _, hbb, hcb⟩ := hrb.row.2.2 (by omega)
  obtain ⟨i25, k1, k2, k3, k4⟩ := info_parts Tryz.info25
  have HL : Hid (n = pa.length ∧ n = pb.length ∧ (pcells pa).length = n * 5) := ⟨hla, hlb, by rw [pcells_length, hla]⟩
  have HG : Hid (∀ k, k < n → ((nth pa k).1.R = (k : Int) + 1 ∧ Lv (fun x => x < w.heap.size) w (nth pa k).1 (nth pa k).2) ∧ ((nth pb k).1.R = (k : Int) + 1 ∧ Lv (fun x => x < w.heap.size) w (nth pb k).1 (nth pb k).2)) := fun k hk => by
    have ka : k < pa.length := by omega
    have kb : k < pb.length := by omega
    have l1 := hra.lv _ (List.getElem_mem ka)
    have l2 := hrb.lv _ (List.getElem_mem kb)
    have e1 := ga k (by simpa using ka)
    have e2 := gb k (by simpa using kb)
    simp only [List.getElem_map] at e1 e2
    rw [nth_get pa k ka, nth_get pb k kb]
    exact ⟨⟨l1.R.trans e1, l1⟩, ⟨l2.R.trans e2, l2⟩⟩
  have HCB : Hid (∀ k, k < n → ∀ W, Below w.heap.size w W → W.cell? ⟨bb, fb + k * 5, none⟩ = some (.int .i64 (nth pb k).1.R) ∧ W.cell? ⟨bb, fb + k * 5 + 1, none⟩ = some (.int .i64 (nth pb k).1.Rev) ∧ W.cell? ⟨bb, fb + k * 5 + 2, none⟩ = some (.string (nth pb k).1.f) ∧ W.cell? ⟨bb, fb + k * 5 + 3, none⟩ = some (.slice (nth pb k).1.sa (nth pb k).1.sn (nth pb k).1.sc) ∧ W.cell? ⟨bb, fb + k * 5 + 4, none⟩ = some (.slice (nth pb k).1.ea (nth pb k).1.en (nth pb k).1.ec)) := fun k hk W hW => by
    have kb : k < pb.length := by omega
    rw [nth_get pb k kb]
    exact view_at (P := Any) (w := W) (fun j u hu => (hW.cell (p := ⟨bb, fb + j, none⟩) hbb).trans (hcb j u hu)) k kb
  have HBB : Hid (bb < w.heap.size) := hbb
  clear hla hlb ga gb hrb hcb
  go_enter Tryz.func18, Tryz.ntmps18
  go_wp2_with (at_builtin; refine wpList_append_grows _ rfl _ _ 31 rfl 25 i25 _ 5 80 Tryz.underlying31 k1 k2 k3 k4 rfl (by decide) (some ⟨w.heap.size, 0, none⟩) 0 0 [] rfl (fun h => by cases h) rfl (fun b hb j u hu => by simp at hu) ⟨ba, fa, none⟩ n ca (pcells pa) rfl HL.out.2.2 ?_ (pcells_one _) (by omega) (by unfold maxLen; omega) (by omega) ?_)
  · intro j u hu
    rw [← hca j u hu]
    show (w.alloc (.cells #[] 25)).cell? (Addr.add ⟨ba, fa, none⟩ j) = _
    have e : Addr.add ⟨ba, fa, none⟩ j = ⟨ba, fa + j, none⟩ := by unfold Addr.add; by_cases h : j = 0 <;> simp [h]
    rw [e, World.cell?_alloc_past _ _ _ (hn := hba)]
  intro v' w2 hown hgr
  obtain ⟨g, cap, rfl, hg1, hg2⟩ := hown.form (by omega)
  have hb2 : Below w.heap.size w w2 := ((Below.refl _ w).alloc (Nat.le_refl _) _).trans (Below.mono (Kept.below (P := Any) (Kept.grown hgr (fun _ _ h => by cases h)) (B := (w.alloc (.cells #[] 25)).heap.size) (Nat.le_refl _) (fun _ _ => trivial)) (by simp))
  have hgw : w.heap.size ≤ g := by omega
  have hd : ∀ k, k < n → nth pa k ∈ pa := fun k hk => by rw [nth_get pa k (by have := HL.out.1; omega)]; exact List.getElem_mem _
  have hM0 : Mid w w2 g n (mx pa pb 0) := by
    rcases hown.2 with ⟨e, _⟩ | ⟨g', c', cur, e, hg', hh, c1, c2, c3, c4⟩
    · cases e
    · cases e
      have hz := (Rds.of_own hown h2 (.inl (by omega))).z
      obtain ⟨b, off, e, _, _, hc⟩ := hz.2.2 (by omega)
      cases e
      refine ⟨fun k hk q hq => ?_, fun i => by simp [World.frozen?, hh], hb2, hgw, hg2⟩
      have hm : mx pa pb 0 k = nth pa k := by unfold mx; rw [if_neg (by omega)]
      rw [hm, nth_get pa k (by have := HL.out.1; omega)]
      have hk' : k < pa.length := by have := HL.out.1; omega
      have hq' : q < (pa[k]).1.vals.length := by simpa [Vc.vals] using hq
      have e2 := pcells_get pa k q hk' hq
      rw [List.getElem?_eq_getElem hq'] at e2 ⊢
      have := hc _ _ e2
      simpa using this
  have HCP : Hid (n ≤ cap ∧ cap ≤ maxLen) := by
    rcases hown.2 with ⟨e, _⟩ | ⟨g', c', cur, e, hg', hh, c1, c2, c3, c4⟩
    · cases e
    · cases e; exact ⟨c1, c2⟩
  have HM0 : Hid _ := hM0
  clear hM0 hown hgr hb2 hg1 hg2
  have HMX : Hid (∀ t k, k < n → (mx pa pb t k).1.R = (k : Int) + 1 ∧ Lv (fun x => x < w.heap.size) w (mx pa pb t k).1 (mx pa pb t k).2) := fun t k hk => by
    unfold mx
    split
    · split
      · exact (HG.out k hk).2
      · exact (HG.out k hk).1
    · exact (HG.out k hk).1
  clear hd hra hca hba
  go_wp2_with fail
  go_loopw [6] (fun i wr => ∃ k : Nat, k ≤ n ∧ i = .int .i64 k ∧ Hid (Mid w wr g n (mx pa pb k)) ∧ w.heap.size ≤ wr.heap.size) (fun i _ => n - (intOf i).toNat)
  case atStart => exact ⟨0, Nat.zero_le _, rfl, HM0.out, HM0.out.bel.size⟩
  case round =>
    obtain ⟨i, hi, rfl, HM, hsz⟩ := hrel
    clear HM0
    by_cases hin : i < n
    · go_wp2_with fail
      go_loopw [7] (fun x wr => ∃ j : Nat, j ≤ n ∧ x = .int .i64 j ∧ Hid (Mid w wr g n (mx pa pb (if i < j then i + 1 else i))) ∧ w.heap.size ≤ wr.heap.size) (fun x _ => n - (intOf x).toNat)
      case atStart => exact ⟨0, Nat.zero_le _, rfl, by rw [if_neg (by omega)]; exact HM.out, hsz⟩
      case round =>
        clear HM
        obtain ⟨j, hj, rfl, HJ, hsj⟩ := hrel
        by_cases hjn : j < n
        · obtain ⟨b0, b1, b2, b3, b4⟩ := HCB.out i hin wr HJ.out.bel
          have hb : bb < wr.heap.size := by have := HBB.out; omega
          have hg : g < wr.heap.size := HJ.out.hi
          have hgz : ∀ q, wr.frozen? ⟨g, q, none⟩ = false := HJ.out.froz
          have eb := (HG.out i hin).2
          have ebR := eb.1
          by_cases hji : j = i
          · subst hji
            rw [if_neg (Nat.lt_irrefl _)] at HJ
            have hc := HJ.out.cells j hjn
            rw [mx_here] at hc
            have ea := (HG.out j hjn).1
            have a0 : wr.cell? ⟨g, j * 5, none⟩ = some (.int .i64 (nth pa j).1.R) := hc 0 (by omega)
            have a1 : wr.cell? ⟨g, j * 5 + 1, none⟩ = some (.int .i64 (nth pa j).1.Rev) := hc 1 (by omega)
            have a2 : wr.cell? ⟨g, j * 5 + 2, none⟩ = some (.string (nth pa j).1.f) := hc 2 (by omega)
            have a3 : wr.cell? ⟨g, j * 5 + 3, none⟩ = some (.slice (nth pa j).1.sa (nth pa j).1.sn (nth pa j).1.sc) := hc 3 (by omega)
            have a4 : wr.cell? ⟨g, j * 5 + 4, none⟩ = some (.slice (nth pa j).1.ea (nth pa j).1.en (nth pa j).1.ec) := hc 4 (by omega)
            have hR : ((nth pa j).1.R == (nth pb j).1.R) = true := by rw [ea.1, ebR]; simp
            have hrv : (nth pa j).1.Rev = (nth pa j).2.Rev ∧ (nth pb j).1.Rev = (nth pb j).2.Rev := ⟨ea.2.Rev, eb.2.Rev⟩
            have HT : Hid (mx pa pb (if j < j + 1 then j + 1 else j) = mx pa pb (j + 1)) := by show _ = _; rw [if_pos (by omega)]
            by_cases hv : (nth pa j).1.Rev < (nth pb j).1.Rev
            · have hd : decide ((nth pa j).1.Rev < (nth pb j).1.Rev) = true := decide_eq_true hv
              have hP := fun (q : Nat) (X : World) hX => (HJ.out.drewN q).put (X := X) (d := (nth pb j).1) (F' := mx pa pb (j + 1)) hjn hX (by rw [mx_next, if_pos (by omega)]) (fun k hk hkj => mx_other pa pb j k hkj)
              have HP : Hid _ := hP
              clear hP hc ea eb ebR hrv hv HJ
              generalize (nth pa j).1 = x at *
              generalize (nth pb j).1 = y at *
              go_wp2_with fail
              go_quiet (fail)
              go_wp2_with fail
              obtain ⟨X, hX⟩ : ∃ X, X = (((((wr.drewN nq).setCell ⟨g, j * 5, none⟩ (.int .i64 y.R)).setCell ⟨g, j * 5 + 1, none⟩ (.int .i64 y.Rev)).setCell ⟨g, j * 5 + 2, none⟩ (.string y.f)).setCell ⟨g, j * 5 + 3, none⟩ (.slice y.sa y.sn y.sc)).setCell ⟨g, j * 5 + 4, none⟩ (.slice y.ea y.en y.ec) := ⟨_, rfl⟩
              rw [← hX]
              have HX : Hid (Mid w X g n (mx pa pb (if j < j + 1 then j + 1 else j))) := by
                show Mid _ _ _ _ _
                rw [HT.out]
                exact HP.out nq X hX
              have hsX : w.heap.size ≤ X.heap.size := HX.out.bel.size
              clear hX HP HT a0 a1 a2 a3 a4 b0 b1 b2 b3 b4 hb hg hgz hsj
              clear wr
              go_wp2_with fail
              go_roundw
              case rel => exact ⟨j + 1, by omega, by go_num, HX, hsX⟩
              case measure => simp [intOf]; omega
            · have hd : decide ((nth pa j).1.Rev < (nth pb j).1.Rev) = false := decide_eq_false hv
              have HX : Hid (Mid w wr g n (mx pa pb (if j < j + 1 then j + 1 else j))) := by
                show Mid _ _ _ _ _
                rw [HT.out]
                refine HJ.out.eq (fun k hk => ?_)
                by_cases hkj : k = j
                · subst hkj
                  rw [mx_here, mx_next, if_neg (by omega)]
                · exact mx_other pa pb j k hkj
              clear hc ea eb ebR hrv hv HJ HT
              generalize (nth pa j).1 = x at *
              generalize (nth pb j).1 = y at *
              go_wp2_with fail
              go_quiet (fail)
              go_wp2_with fail
              go_roundw
              case rel => exact ⟨j + 1, by omega, by go_num, HX.out.drewN _, hsj⟩
              case measure => simp [intOf]; omega
          · have hc := HJ.out.cells j hjn
            have ej := (HMX.out (if i < j then i + 1 else i) j hjn).1
            have a0 : wr.cell? ⟨g, j * 5, none⟩ = some (.int .i64 (mx pa pb (if i < j then i + 1 else i) j).1.R) := hc 0 (by omega)
            have hR : ((mx pa pb (if i < j then i + 1 else i) j).1.R == (nth pb i).1.R) = false := by rw [ej, ebR]; simp; omega
            have HX : Hid (Mid w wr g n (mx pa pb (if i < j + 1 then i + 1 else i))) := by
              show Mid _ _ _ _ _
              have e : (if i < j + 1 then i + 1 else i) = (if i < j then i + 1 else i) := by
                by_cases h : i < j
                · rw [if_pos h, if_pos (by omega)]
                · rw [if_neg h, if_neg (by omega)]
              rw [e]; exact HJ.out
            clear hc ej eb ebR HJ
            generalize (mx pa pb (if i < j then i + 1 else i) j).1 = x at *
            generalize (nth pb i).1 = y at *
            go_wp2_with fail
            go_quiet (fail)
            go_wp2_with fail
            go_roundw
            case rel => exact ⟨j + 1, by omega, by go_num, HX.out.drewN _, hsj⟩
            case measure => simp [intOf]; omega
        · have e : (if i < j then i + 1 else i) = i + 1 := if_pos (by omega)
          rw [e] at HJ
          clear e
          go_wp2_with fail
          go_roundw
          case rel => exact ⟨i + 1, by omega, by go_num, HJ, hsj⟩
          case measure => simp [intOf]; omega
    · have ei : i = n := by omega
      have HE : Hid (RVw wr (some ⟨g, 0, none⟩) n cap (List.zipWith pick (pa.map (·.2)) (pb.map (·.2))) ∧ Below w.heap.size w wr) := by
        have hm := HM.out
        rw [ei] at hm
        refine ⟨⟨(List.range n).map (mx pa pb n), mx_zip pa pb n HL.out.1.symm HL.out.2.1.symm, ?_, ?_, ?_, ?_, ?_⟩, hm.bel⟩
        · simp
        · exact HCP.out.1
        · exact HCP.out.2
        · refine ⟨by rw [pcells_length]; simp, h2, fun _ => ⟨g, 0, rfl, hm.hi, hm.hi, fun u x hu => ?_⟩⟩
          have hu' : u < n * 5 := by have := (List.getElem?_eq_some_iff.1 hu).1; rw [pcells_length] at this; simpa using this
          have e := pcells_get ((List.range n).map (mx pa pb n)) (u / 5) (u % 5) (by simp; omega) (Nat.mod_lt _ (by omega))
          have eu : u / 5 * 5 + u % 5 = u := Nat.div_add_mod' u 5
          rw [eu, hu] at e
          have := hm.cells (u / 5) (by omega) (u % 5) (Nat.mod_lt _ (by omega))
          rw [eu] at this
          rw [Nat.zero_add, this, e]
          simp
        · intro p hp
          obtain ⟨k, hk, rfl⟩ := List.mem_map.1 hp
          have hk' : k < n := List.mem_range.1 hk
          exact ((HMX.out n k hk').2.kept (Kept.of_below hm.bel)).mono (fun b _ h => by have := hm.bel.size; show b < wr.heap.size; omega)
      clear HM
      go_wp2
      go_ret
      exact ⟨_, _, rfl, by have := HE.out.1; rwa [List.zipWith_map] at this, HE.out.2⟩

end Go.Proofs.YtdeojcodbojmoaaGreatDoor
