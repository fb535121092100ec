/- Rows of views as they are handed about. -/
import Derived.Test.YtdeojcodbojmoaaGreatDoorVws
import Derived.Test.YtdeojcodbojmoaaGreatDoorBgn
namespace Go.Proofs.YtdeojcodbojmoaaGreatDoor
open Go.RowKit
set_option maxRecDepth 100000
set_option linter.unusedVariables false

/-- A slice that reads as a row of views. -/
def RVw (w : World) (o : Option Addr) (n oc : Nat) (l : List Vw) : Prop := ∃ ps, ps.map (·.2) = l ∧ RowV w.heap.size w o n oc ps

theorem RVw.below {w w' : World} {o : Option Addr} {n oc : Nat} {l : List Vw} (h : RVw w o n oc l) (hb : Below w.heap.size w w') : RVw w' o n oc l := by
  obtain ⟨ps, e, hr⟩ := h
  have h1 := hr.below (Nat.le_refl _) hb
  exact ⟨ps, e, h1.len, h1.le, h1.lid, h1.row.mono (fun b hb' _ => hb'), h1.lv.mono (fun b hb' _ => hb')⟩

theorem RVw.nil (w : World) : RVw w none 0 0 [] := ⟨[], rfl, rfl, by decide, by decide, ⟨rfl, by decide, fun h => absurd h (by decide)⟩, fun p hp => (List.not_mem_nil hp).elim⟩

theorem RVw.len {w : World} {o : Option Addr} {n oc : Nat} {l : List Vw} (h : RVw w o n oc l) : n = l.length := by
  obtain ⟨ps, e, hr⟩ := h
  rw [← e, List.length_map]; exact hr.len

theorem RVw.le {w : World} {o : Option Addr} {n oc : Nat} {l : List Vw} (h : RVw w o n oc l) : n ≤ oc := by
  obtain ⟨ps, e, hr⟩ := h
  exact hr.le

/-- Out of a row of one's own. -/
theorem RVw.of_own {P : Nat → Prop} {w : World} {base : Nat} {o : Option Addr} {n oc : Nat} {ps : List (Vc × Vw)} (h : w.ownsRow base 25 5 (.slice o n oc) n (pcells ps)) (hn : n = ps.length) (h1 : 1 ≤ n) (h2 : n ≤ 1000) (lv : Lvs P w ps) : RVw w o n oc (ps.map (·.2)) := by
  have hr := Rds.of_own h h2 (.inl h1)
  refine ⟨ps, rfl, hn, ?_, ?_, hr.z.mono (fun b hb _ => hb), lv.mono (fun b hb _ => hb)⟩
  · rcases h.2 with ⟨e, _⟩ | ⟨g, c, cur, e, _, _, hc, _⟩
    · cases e; exact Nat.le_refl _
    · cases e; exact hc
  · rcases h.2 with ⟨e, _⟩ | ⟨g, c, cur, e, _, _, _, hc, _⟩
    · cases e; exact Nat.zero_le _
    · cases e; exact hc

/-- view.Merge. -/
theorem rmerge (w : World) (a b : Option Addr) (na ca nb cb : Nat) (la lb : List Vw) (ra : RVw w a na ca la) (rb : RVw w b nb cb lb) (h1 : 1 ≤ (mg la lb).length) (h2 : (mg la lb).length ≤ 1000) :
    Calls Tryz.prog 17 #[.slice a na ca, .slice b nb cb] w fun e w' => ∃ o oc, e = .returned (.slice o (mg la lb).length oc) ∧ RVw w' o (mg la lb).length oc (mg la lb) ∧ Below w.heap.size w w' := by
  obtain ⟨pa, ea, ha⟩ := ra
  obtain ⟨pb, eb, hb⟩ := rb
  refine (merge17 w a b na ca nb cb pa pb ha hb).mono ?_
  rintro e w' ⟨o, oc, ps, rfl, hm, hown, hlv, hbl⟩
  rw [ea, eb] at hm
  have hl : ps.length = (mg la lb).length := by rw [← hm, List.length_map]
  rw [hl] at hown hlv
  have hr := RVw.of_own hown hl.symm h1 h2 hlv
  rw [hm] at hr
  exact ⟨o, oc, by rw [hl], hr, hbl⟩

/-- cardamomref11.SameViews of what is alike. -/
theorem rsame (w : World) (a b : Option Addr) (na ca nb cb : Nat) (l : List Vw) (ra : RVw w a na ca l) (rb : RVw w b nb cb l) :
    Calls Tryz.prog 16 #[.slice a na ca, .slice b nb cb] w fun e w' => e = .returned (.bool true) ∧ Below w.heap.size w w' := by
  obtain ⟨pa, ea, ha⟩ := ra
  obtain ⟨pb, eb, hb⟩ := rb
  exact sameviews16 w _ _ a b na ca nb cb pa pb ha.len hb.len (ea.trans eb.symm) ha.row hb.row ha.lv hb.lv

/-- The cells of one of them. -/
theorem RVw.at {w : World} {o : Option Addr} {n oc : Nat} {l : List Vw} (h : RVw w o n oc l) (i : Nat) (hi : i < l.length) : ∃ (b off : Nat) (c : Vc), o = some ⟨b, off, none⟩ ∧ b < w.heap.size ∧ Lv (fun k => k < w.heap.size) w c l[i] ∧
    w.cell? ⟨b, off + i * 5, none⟩ = some (.int .i64 c.R) ∧ w.cell? ⟨b, off + i * 5 + 1, none⟩ = some (.int .i64 c.Rev) ∧ w.cell? ⟨b, off + i * 5 + 2, none⟩ = some (.string c.f) ∧ w.cell? ⟨b, off + i * 5 + 3, none⟩ = some (.slice c.sa c.sn c.sc) ∧ w.cell? ⟨b, off + i * 5 + 4, none⟩ = some (.slice c.ea c.en c.ec) := by
  obtain ⟨ps, rfl, hr⟩ := h
  have hi' : i < ps.length := by simpa using hi
  obtain ⟨b, off, e, _, hb, hc⟩ := hr.row.2.2 (by have := hr.len; omega)
  obtain ⟨f0, f1, f2, f3, f4⟩ := view_at (P := Any) hc i hi'
  refine ⟨b, off, (ps[i]).1, e, hb, ?_, f0, f1, f2, f3, f4⟩
  have := hr.lv _ (List.getElem_mem hi')
  simpa using this

/-- Two rows out of numbers. -/
theorem rviews (pb n : Nat) (w : World) (hp : Pick w pb) (hn1 : 1 ≤ n) (hn5 : n ≤ 5) :
    Calls Tryz.prog 11 #[.pointer (some ⟨pb, 0, none⟩), .int .i64 n] w fun e w' => ∃ o oc l, e = .returned (.slice o n oc) ∧ List.length l = n ∧ (∀ i (h : i < l.length), Gd n i l[i]) ∧ (∀ w'', Kept (But pb) w' w'' → RVw w'' o n oc l) ∧ Went pb w w' := by
  have hlt := hp.lt
  refine (views11 pb n w hp hn1 hn5).mono ?_
  rintro e w' ⟨o, oc, ps, rfl, h1, h2, h3, h4, h5, h6⟩
  refine ⟨o, oc, ps.map (·.2), rfl, by simpa using h1, fun i h => by simpa using h4 i (by simpa using h), fun w'' hk => ?_, h6⟩
  refine RVw.of_own (own_kept h2 hk (fun g _ hg => by unfold But; omega)) h1.symm hn1 (by omega) (P := fun k => w.heap.size ≤ k) ?_
  exact (h3.mono (fun b _ h => h.1)).kept (hk.mono (fun b _ h => by unfold But; omega))

theorem gd_R {n : Nat} {l : List Vw} (hl : l.length = n) (h : ∀ i (h : i < l.length), Gd n i l[i]) : l.map (·.R) = (List.range n).map (fun i => ((i : Nat) : Int) + 1) := by
  apply List.ext_getElem
  · simp [hl]
  · intro i h1 h2
    have := (h i (by simpa using h1)).R
    simpa using this

end Go.Proofs.YtdeojcodbojmoaaGreatDoor
