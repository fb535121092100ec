/- stamp.May, seen.May of any stamp and row of heads. -/
/- cardamomref1.MayStamp of any stamp. -/
import Derived.Test.YtdeojcodbojmoaaGreatDoorJap
import Derived.Test.YtdeojcodbojmoaaGreatDoorJai
import Derived.Test.YtdeojcodbojmoaaGreatDoorJam
namespace Go.Proofs.YtdeojcodbojmoaaGreatDoor
open Go.RowKit
set_option maxRecDepth 100000
set_option linter.unusedVariables false

theorem is_skv (a : Addr) (ok : Bool) (ev : Value) (w : World) (hz : SkV ok ev) (hg : w.cell? ⟨2, 0, none⟩ = some (.iface 185 (.pointer (some a)))) :
    Calls Tryz.prog 40 #[ev, .iface 185 (.pointer (some a))] w fun r w' => r = .returned (.bool (!ok)) ∧ Below w.heap.size w w' := by
  rcases hz with ⟨rfl, rfl⟩ | ⟨rfl, p, rfl⟩
  · refine (is40 a w).mono ?_
    rintro r w' ⟨rfl, rfl⟩
    exact ⟨rfl, Below.refl _ _⟩
  · exact is_stamp a p w hg

set_option maxHeartbeats 4000000 in
/-- stamp.May. -/
theorem stMay73 (a : Addr) (L R N : Int) (w : World) (hg : w.cell? ⟨2, 0, none⟩ = some (.iface 185 (.pointer (some a)))) : Calls Tryz.prog 73 #[.agg #[.int .i64 L, .int .i64 R, .int .i64 N]] w fun r w' => r = .returned (.bool (stOk L R N)) ∧ Below w.heap.size w w' := by
  have hlt : 2 < w.heap.size := World.block_lt_of_cell? w ⟨2, 0, none⟩ hg
  go_enter Tryz.func73, Tryz.ntmps73
  go_wp2_with fail
  obtain ⟨X, hX⟩ : ∃ X, X = w.alloc (.cells #[.int .i64 L, .int .i64 R, .int .i64 N] 43) := ⟨_, rfl⟩
  rw [← hX]
  have x0 : X.cell? ⟨w.heap.size, 0, none⟩ = some (.int .i64 L) := by rw [hX]; simp
  have x1 : X.cell? ⟨w.heap.size, 1, none⟩ = some (.int .i64 R) := by rw [hX]; simp
  have x2 : X.cell? ⟨w.heap.size, 2, none⟩ = some (.int .i64 N) := by rw [hX]; simp
  have xg : X.cell? ⟨2, 0, none⟩ = some (.iface 185 (.pointer (some a))) := by rw [hX, World.cell?_alloc_past _ _ _ (hn := hlt)]; exact hg
  have sX : w.heap.size < X.heap.size := by rw [hX]; simp
  have sX2 : 2 < X.heap.size := by omega
  have HX : Hid (Below w.heap.size w X) := by rw [hX]; exact (Below.refl _ w).alloc (Nat.le_refl _) _
  have c1 := check87 L R N X.drew
  clear hX hg
  go_region_held3 (fun w' => w'.cell? ⟨w.heap.size, 0, none⟩ = some (.int .i64 L) ∧ w'.cell? ⟨w.heap.size, 1, none⟩ = some (.int .i64 R) ∧ w'.cell? ⟨w.heap.size, 2, none⟩ = some (.int .i64 N) ∧ w'.cell? ⟨2, 0, none⟩ = some (.iface 185 (.pointer (some a))))
    (go_keep)
    (first
      | (go_at_call 87; refine c1.mono ?_; rintro r w5 ⟨⟨ev, rfl, hz⟩, hb5⟩; obtain ⟨hcl, hfl, z1⟩ := callee_old hb5)
      | (go_at_call 40; refine (is_skv a _ _ _ hz (by simp [*])).mono ?_; rintro r w6 ⟨rfl, hb6⟩; have hc6 : ∀ b o, b < w5.heap.size → w6.cell? ⟨b, o, none⟩ = w5.cell? ⟨b, o, none⟩ := fun b o h => hb6.cell (p := ⟨b, o, none⟩) h; have zz1 : w.heap.size < w5.heap.size := Nat.lt_of_lt_of_le sX z1; have zz2 : 2 < w5.heap.size := Nat.lt_of_lt_of_le sX2 z1))
  have HB : Hid (Below w.heap.size w w6) := HX.out.trans (((Below.trans (b := X.drew) (Below.refl _ X).drew (hb5.trans (hb6.mono hb5.size))).mono HX.out.size))
  go_wp2
  go_ret
  exact ⟨by simp, HB.out⟩

/-- Which heads may stand behind a thing. -/
def hOk (h : Hd) (last : Int) : Bool := decide (1 ≤ h.it) && (decide (h.it ≤ 6) && (decide (last < h.it) && stOk h.L h.R h.N))
def hsOk : List Hd → Int → Bool
  | [], _ => true
  | h :: r, last => hOk h last && hsOk r h.it
def HkV (ok : Bool) (ev : Value) : Prop := (ok = true ∧ ev = .nilIface) ∨ (ok = false ∧ ∃ p, ev = .iface 148 (.agg #[.string p]))

set_option maxHeartbeats 4000000 in
/-- seen.checkHead. -/
theorem head61 (a : Addr) (h : Hd) (last : Int) (w : World) (hg : w.cell? ⟨2, 0, none⟩ = some (.iface 185 (.pointer (some a)))) : Calls Tryz.prog 61 #[.agg #[.int .i64 h.it, .int .i64 h.L, .int .i64 h.R, .int .i64 h.N], .int .i64 last] w fun r w' => (∃ ev, r = .returned ev ∧ HkV (hOk h last) ev) ∧ Below w.heap.size w w' := by
  obtain ⟨it, L, R, N⟩ := h
  unfold hOk
  simp only
  have hlt : 2 < w.heap.size := World.block_lt_of_cell? w ⟨2, 0, none⟩ hg
  by_cases h1 : 1 ≤ it
  · by_cases h2 : it ≤ 6
    · by_cases h3 : last < it
      · have c := stMay73 a L R N (w.alloc (.cells #[.int .i64 it, .int .i64 L, .int .i64 R, .int .i64 N] 45)) (by rw [World.cell?_alloc_past _ _ _ (hn := hlt)]; exact hg)
        have d1 : decide (it < 1) = false := decide_eq_false (by omega)
        have d2 : decide (6 < it) = false := decide_eq_false (by omega)
        have d3 : decide (it ≤ last) = false := decide_eq_false (by omega)
        have HE : Hid ((decide (1 ≤ it) && (decide (it ≤ 6) && (decide (last < it) && stOk L R N))) = stOk L R N) := by show _ = _; simp [h1, h2, h3]
        cases es : stOk L R N with
        | false =>
          rw [es] at c HE
          rw [HE.out]
          clear h1 h2 h3 HE
          go_enter Tryz.func61, Tryz.ntmps61
          go_wp2_with fail
          refine c.mono ?_
          rintro r w1 ⟨rfl, hb1⟩
          clear c
          go_wp2
          go_ret
          exact ⟨⟨_, rfl, .inr ⟨rfl, _, rfl⟩⟩, ((Below.refl _ w).alloc (Nat.le_refl _) _).trans (hb1.mono (by simp))⟩
        | true =>
          rw [es] at c HE
          rw [HE.out]
          clear h1 h2 h3 HE
          go_enter Tryz.func61, Tryz.ntmps61
          go_wp2_with fail
          refine c.mono ?_
          rintro r w1 ⟨rfl, hb1⟩
          clear c
          go_wp2
          go_ret
          exact ⟨⟨_, rfl, .inl ⟨rfl, rfl⟩⟩, ((Below.refl _ w).alloc (Nat.le_refl _) _).trans (hb1.mono (by simp))⟩
      · have d1 : decide (it < 1) = false := decide_eq_false (by omega)
        have d2 : decide (6 < it) = false := decide_eq_false (by omega)
        have d3 : decide (it ≤ last) = true := decide_eq_true (by omega)
        have HE : (decide (1 ≤ it) && (decide (it ≤ 6) && (decide (last < it) && stOk L R N))) = false := by simp [h3]
        rw [HE]
        clear h1 h2 h3 HE
        go_enter Tryz.func61, Tryz.ntmps61
        go_wp2
        go_ret
        exact ⟨⟨_, rfl, .inr ⟨rfl, _, rfl⟩⟩, (Below.refl _ w).alloc (Nat.le_refl _) _⟩
    · have d1 : decide (it < 1) = false := decide_eq_false (by omega)
      have d2 : decide (6 < it) = true := decide_eq_true (by omega)
      have HE : (decide (1 ≤ it) && (decide (it ≤ 6) && (decide (last < it) && stOk L R N))) = false := by simp [h2]
      rw [HE]
      clear h1 h2 HE
      go_enter Tryz.func61, Tryz.ntmps61
      go_wp2
      go_ret
      exact ⟨⟨_, rfl, .inr ⟨rfl, _, rfl⟩⟩, (Below.refl _ w).alloc (Nat.le_refl _) _⟩
  · have d1 : decide (it < 1) = true := decide_eq_true (by omega)
    have HE : (decide (1 ≤ it) && (decide (it ≤ 6) && (decide (last < it) && stOk L R N))) = false := by simp [h1]
    rw [HE]
    clear h1 HE
    go_enter Tryz.func61, Tryz.ntmps61
    go_wp2
    go_ret
    exact ⟨⟨_, rfl, .inr ⟨rfl, _, rfl⟩⟩, (Below.refl _ w).alloc (Nat.le_refl _) _⟩

end Go.Proofs.YtdeojcodbojmoaaGreatDoor
namespace Go.Proofs.YtdeojcodbojmoaaGreatDoor
open Go.RowKit
set_option maxRecDepth 100000
set_option linter.unusedVariables false

theorem stOk_iff (L R N : Int) : stOk L R N = true ↔ (1 ≤ L ∧ L ≤ 5000 ∧ 1 ≤ R ∧ R ≤ 5 ∧ 1 ≤ N ∧ N ≤ 1000 ∧ N ≤ L) := by
  simp [stOk, f1]
  omega

set_option maxHeartbeats 4000000 in
/-- cardamomref1.MayStamp. -/
theorem mst46 (L R N : Int) (w : World) : Calls Tryz.prog 46 #[.agg #[.int .i64 L, .int .i64 R, .int .i64 N]] w fun r w' => r = .returned (.bool (stOk L R N)) ∧ Below w.heap.size w w' := by
  by_cases g0 : 1 ≤ L
  · have d0 : decide (1 ≤ L) = true := decide_eq_true g0
    by_cases g1 : L ≤ 5000
    · have d1 : decide (L ≤ 5000) = true := decide_eq_true g1
      by_cases g2 : 1 ≤ R
      · have d2 : decide (1 ≤ R) = true := decide_eq_true g2
        by_cases g3 : R ≤ 5
        · have d3 : decide (R ≤ 5) = true := decide_eq_true g3
          by_cases g4 : 1 ≤ N
          · have d4 : decide (1 ≤ N) = true := decide_eq_true g4
            by_cases g5 : N ≤ 1000
            · have d5 : decide (N ≤ 1000) = true := decide_eq_true g5
              by_cases g6 : N ≤ L
              · have d6 : decide (N ≤ L) = true := decide_eq_true g6
                have HE : Hid (stOk L R N = true) := (stOk_iff L R N).2 ⟨g0, g1, g2, g3, g4, g5, g6⟩
                clear g0 g1 g2 g3 g4 g5 g6
                go_enter Tryz.func46, Tryz.ntmps46
                go_wp2
                go_ret
                exact ⟨by rw [HE.out]; rfl, (Below.refl _ w).alloc (Nat.le_refl _) _⟩
              · have d6 : decide (N ≤ L) = false := decide_eq_false g6
                have hs : stOk L R N = false := by
                  cases e : stOk L R N with
                  | false => rfl
                  | true => exact absurd ((stOk_iff L R N).1 e).2.2.2.2.2.2 g6
                have HE : Hid (stOk L R N = false) := hs
                clear hs g0 g1 g2 g3 g4 g5 g6
                go_enter Tryz.func46, Tryz.ntmps46
                go_wp2
                go_ret
                exact ⟨by rw [HE.out]; rfl, (Below.refl _ w).alloc (Nat.le_refl _) _⟩
            · have d5 : decide (N ≤ 1000) = false := decide_eq_false g5
              have hs : stOk L R N = false := by
                cases e : stOk L R N with
                | false => rfl
                | true => exact absurd ((stOk_iff L R N).1 e).2.2.2.2.2.1 g5
              have HE : Hid (stOk L R N = false) := hs
              clear hs g0 g1 g2 g3 g4 g5
              go_enter Tryz.func46, Tryz.ntmps46
              go_wp2
              go_ret
              exact ⟨by rw [HE.out]; rfl, (Below.refl _ w).alloc (Nat.le_refl _) _⟩
          · have d4 : decide (1 ≤ N) = false := decide_eq_false g4
            have hs : stOk L R N = false := by
              cases e : stOk L R N with
              | false => rfl
              | true => exact absurd ((stOk_iff L R N).1 e).2.2.2.2.1 g4
            have HE : Hid (stOk L R N = false) := hs
            clear hs g0 g1 g2 g3 g4
            go_enter Tryz.func46, Tryz.ntmps46
            go_wp2
            go_ret
            exact ⟨by rw [HE.out]; rfl, (Below.refl _ w).alloc (Nat.le_refl _) _⟩
        · have d3 : decide (R ≤ 5) = false := decide_eq_false g3
          have hs : stOk L R N = false := by
            cases e : stOk L R N with
            | false => rfl
            | true => exact absurd ((stOk_iff L R N).1 e).2.2.2.1 g3
          have HE : Hid (stOk L R N = false) := hs
          clear hs g0 g1 g2 g3
          go_enter Tryz.func46, Tryz.ntmps46
          go_wp2
          go_ret
          exact ⟨by rw [HE.out]; rfl, (Below.refl _ w).alloc (Nat.le_refl _) _⟩
      · have d2 : decide (1 ≤ R) = false := decide_eq_false g2
        have hs : stOk L R N = false := by
          cases e : stOk L R N with
          | false => rfl
          | true => exact absurd ((stOk_iff L R N).1 e).2.2.1 g2
        have HE : Hid (stOk L R N = false) := hs
        clear hs g0 g1 g2
        go_enter Tryz.func46, Tryz.ntmps46
        go_wp2
        go_ret
        exact ⟨by rw [HE.out]; rfl, (Below.refl _ w).alloc (Nat.le_refl _) _⟩
    · have d1 : decide (L ≤ 5000) = false := decide_eq_false g1
      have hs : stOk L R N = false := by
        cases e : stOk L R N with
        | false => rfl
        | true => exact absurd ((stOk_iff L R N).1 e).2.1 g1
      have HE : Hid (stOk L R N = false) := hs
      clear hs g0 g1
      go_enter Tryz.func46, Tryz.ntmps46
      go_wp2
      go_ret
      exact ⟨by rw [HE.out]; rfl, (Below.refl _ w).alloc (Nat.le_refl _) _⟩
  · have d0 : decide (1 ≤ L) = false := decide_eq_false g0
    have hs : stOk L R N = false := by
      cases e : stOk L R N with
      | false => rfl
      | true => exact absurd ((stOk_iff L R N).1 e).1 g0
    have HE : Hid (stOk L R N = false) := hs
    clear hs g0
    go_enter Tryz.func46, Tryz.ntmps46
    go_wp2
    go_ret
    exact ⟨by rw [HE.out]; rfl, (Below.refl _ w).alloc (Nat.le_refl _) _⟩

end Go.Proofs.YtdeojcodbojmoaaGreatDoor
