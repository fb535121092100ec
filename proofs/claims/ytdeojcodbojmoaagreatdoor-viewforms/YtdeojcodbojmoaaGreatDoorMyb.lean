/- view.May of any view. -/
import Derived.Test.YtdeojcodbojmoaaGreatDoorMya
namespace Go.Proofs.YtdeojcodbojmoaaGreatDoor
open Go.RowKit
set_option maxRecDepth 100000
set_option linter.unusedVariables false

set_option maxHeartbeats 8000000 in
/-- view.May. -/
theorem may12 (P : Nat → Prop) (c : Vc) (v : Vw) (n : Int) (w : World) (hv : Vars w) (hl : Lv P w c v) :
    Calls Tryz.prog 12 #[.agg #[.int .i64 c.R, .int .i64 c.Rev, .string c.f, .slice c.sa c.sn c.sc, .slice c.ea c.en c.ec], .int .i64 n] w fun r w' => r = .returned (.bool (mayV v n)) ∧ Below w.heap.size w w' := by
  have h2 := hv.lt
  generalize hM : mayV v n = M
  unfold mayV at hM
  have hbX : Below w.heap.size w (w.alloc (.cells #[.int .i64 c.R, .int .i64 c.Rev, .string c.f, .slice c.sa c.sn c.sc, .slice c.ea c.en c.ec] 25)) := (Below.refl _ w).alloc (Nat.le_refl _) _
  have hlX := hl.below hbX
  have hvX := hv.below hbX h2
  obtain ⟨X, hX⟩ : ∃ X, X = w.alloc (.cells #[.int .i64 c.R, .int .i64 c.Rev, .string c.f, .slice c.sa c.sn c.sc, .slice c.ea c.en c.ec] 25) := ⟨_, rfl⟩
  rw [← hX] at hbX hlX hvX
  have eR := hl.R
  have eV := hl.Rev
  have ef := hl.f
  have efs := hl.fs
  have esn := hl.sn
  have een := hl.en
  by_cases g1 : v.R < 1
  · have d1 : decide (c.R < 1) = true := decide_eq_true (by omega)
    have HM : Hid (M = false) := by show M = false; rw [← hM]; simp; omega
    have HB : Hid _ := hbX
    clear hM hl hlX hvX hv eR eV ef efs esn een hbX
    go_enter Tryz.func12, Tryz.ntmps12
    go_wp2
    go_ret
    exact ⟨by rw [HM.out]; rfl, by have := HB.out; rw [hX] at this; exact this⟩
  · have d1 : decide (c.R < 1) = false := decide_eq_false (by omega)
    by_cases g2 : n < v.R
    · have d2 : decide (n < c.R) = true := decide_eq_true (by omega)
      have HM : Hid (M = false) := by show M = false; rw [← hM]; simp; omega
      have HB : Hid _ := hbX
      clear hM hl hlX hvX hv eR eV ef efs esn een hbX
      go_enter Tryz.func12, Tryz.ntmps12
      go_wp2
      go_ret
      exact ⟨by rw [HM.out]; rfl, by have := HB.out; rw [hX] at this; exact this⟩
    · have d2 : decide (n < c.R) = false := decide_eq_false (by omega)
      have hM1 : (if v.Rev = 0 then sv v ⟨v.R, 0, ⟨#[]⟩, [], []⟩ else Ps.okP v.f.data.toList && (tms v.Rev && (hsOk v.sn 0 && (decide ((v.ep.length : Int) = n) && v.ep.all tms)))) = M := by
        rw [← hM, decide_eq_true (show 1 ≤ v.R by omega), decide_eq_true (show v.R ≤ n by omega)]; simp
      by_cases g3 : v.Rev = 0
      · rw [if_pos g3] at hM1
        have d3 : (c.Rev == 0) = true := by simp; omega
        have cs := same14 _ Any c ⟨c.R, 0, ⟨#[]⟩, none, 0, 0, none, 0, 0⟩ v ⟨v.R, 0, ⟨#[]⟩, [], []⟩ X hlX ⟨eR, rfl, rfl, by show (0 : Nat) ≤ 1000; omega, rfl, rfl, Rds.nil _ _ _, Rds.nil _ _ _⟩
        rw [hM1, hX] at cs
        simp only at cs
        have HB : Hid _ := hbX
        clear hM hM1 hl hlX hvX hv eR eV ef efs esn een hbX
        go_enter Tryz.func12, Tryz.ntmps12
        go_wp2_with fail
        refine cs.mono ?_
        rintro r w1 ⟨rfl, hb1⟩
        clear cs
        go_wp2
        go_ret
        exact ⟨rfl, by have := HB.out; rw [hX] at this; exact this.trans (hb1.mono (by simp))⟩
      · rw [if_neg g3] at hM1
        have d3 : (c.Rev == 0) = false := by simp; omega
        have cp := prs25 c.f X hvX.err (by rw [ef]; unfold maxLen; omega)
        have ct := tms26 c.Rev
        obtain ⟨a0, ha0⟩ := hv.seen
        obtain ⟨a2, ha2⟩ := hv.stamp
        have cS := fun (w' : World) (hb : Below w.heap.size w w') => senMay27 a0 a2 P c.sa c.sc v.sn w' ((hb.cell (p := ⟨0, 0, none⟩) (by show 0 < _; omega)).trans ha0) ((hb.cell (p := ⟨2, 0, none⟩) h2).trans ha2) (by have := (hl.below hb).heads.z; rwa [esn] at this)
        have cA := fun (w' : World) (hb : Below w.heap.size w w') => allT28 P c.ea c.ec v.ep w' (by have := (hl.below hb).ints.z; rwa [een] at this)
        have hen : c.en ≤ 1000 := by have := hl.ints.le; omega
        rw [← esn] at cS
        rw [← een] at cA hM1
        rw [← ef, ← eV] at hM1
        rw [hX] at cp
        generalize Ps.okP c.f.data.toList = bP at *
        generalize tms c.Rev = bT at *
        generalize hsOk v.sn 0 = bS at *
        generalize v.ep.all tms = bA at *
        have HM : Hid ((bP && (bT && (bS && (decide ((c.en : Int) = n) && bA)))) = M) := hM1
        have HW : Hid (Below w.heap.size w X) := hbX
        have HC : Hid _ := cS
        have HD : Hid _ := cA
        clear hM hM1 hl hlX hvX hv eR eV ef efs esn een hbX cS cA ha0 ha2 g1 g2 g3
        obtain ⟨R, Rev, f, sa, sn, sc, ea, en, ec⟩ := c
        simp only at *
        go_enter Tryz.func12, Tryz.ntmps12
        go_wp2_with fail
        refine cp.mono ?_
        rintro r w1 ⟨⟨o, k, l, h, t, x, m, at_, rfl⟩, hb1⟩
        clear cp
        have hs1 : w.heap.size < w1.heap.size := by have := hb1.size; simp at this; omega
        have z1 : ∀ i, w1.cell? ⟨w.heap.size, i, none⟩ = (#[.int .i64 R, .int .i64 Rev, .string f, .slice sa sn sc, .slice ea en ec] : Array Value)[i]? := fun i => by rw [hb1.cell (p := ⟨w.heap.size, i, none⟩) (by simp)]; simp
        have HB1 : Hid (Below w.heap.size w w1) := ((Below.refl _ w).alloc (Nat.le_refl _) _).trans (hb1.mono (by simp))
        clear hb1
        cases bP with
        | false =>
          go_wp2
          go_ret
          exact ⟨by have := HM.out; simp at this; rw [← this]; rfl, HB1.out.alloc HB1.out.size _⟩
        | true =>
          obtain ⟨U, hU⟩ : ∃ U, U = w1.alloc (.cells #[.int .i64 o, .int .i64 k, .int .i64 l, .int .i64 h, .string t, .slice x m m] 53) := ⟨_, rfl⟩
          have zU : ∀ i, U.cell? ⟨w.heap.size, i, none⟩ = (#[.int .i64 R, .int .i64 Rev, .string f, .slice sa sn sc, .slice ea en ec] : Array Value)[i]? := fun i => by rw [hU, World.cell?_alloc_past _ _ _ (hn := hs1)]; exact z1 i
          have sU : w.heap.size < U.heap.size := by rw [hU]; simp; omega
          have hBU : Below w.heap.size w U := by rw [hU]; exact HB1.out.alloc HB1.out.size _
          have HU : Hid (U = w1.alloc (.cells #[.int .i64 o, .int .i64 k, .int .i64 l, .int .i64 h, .string t, .slice x m m] 53)) := hU
          have c27 := HC.out U hBU
          have HBU : Hid (Below w.heap.size w U) := hBU
          clear hU hBU
          go_wp2_with fail
          rw [← HU.out]
          refine (ct U).mono ?_
          rintro r w2 ⟨rfl, rfl⟩
          clear z1 HU
          cases bT with
          | false =>
            clear c27
            go_wp2
            go_ret
            exact ⟨by have := HM.out; simp at this; rw [← this]; rfl, HBU.out⟩
          | true =>
            go_wp2_with fail
            refine c27.mono ?_
            rintro r w3 ⟨rfl, hb3⟩
            clear c27
            have z3 : ∀ i, w3.cell? ⟨w.heap.size, i, none⟩ = (#[.int .i64 R, .int .i64 Rev, .string f, .slice sa sn sc, .slice ea en ec] : Array Value)[i]? := fun i => (hb3.cell (p := ⟨w.heap.size, i, none⟩) sU).trans (zU i)
            have hB3 : Below w.heap.size w w3 := HBU.out.trans (hb3.mono HBU.out.size)
            have c28 := HD.out w3 hB3
            have HB3 : Hid (Below w.heap.size w w3) := hB3
            clear zU hb3 hB3
            cases bS with
            | false =>
              clear c28
              go_wp2
              go_ret
              exact ⟨by have := HM.out; simp at this; rw [← this]; rfl, HB3.out⟩
            | true =>
              by_cases hn : (en : Int) = n
              · have dn : ((en : Int) == n) = true := by simpa using hn
                have HN : Hid (bA = M) := by have := HM.out; rw [decide_eq_true hn] at this; show bA = M; simpa using this
                clear HM hn
                go_wp2_with fail
                refine c28.mono ?_
                rintro r w4 ⟨rfl, rfl⟩
                clear c28
                go_wp2
                go_ret
                exact ⟨by have := HN.out; subst this; first | rfl | simp, HB3.out⟩
              · have dn : ((en : Int) == n) = false := by simpa using hn
                have HN : Hid (false = M) := by have := HM.out; rw [decide_eq_false hn] at this; show false = M; simpa using this
                clear HM hn c28
                go_wp2
                go_ret
                exact ⟨by rw [← HN.out]; rfl, HB3.out⟩

end Go.Proofs.YtdeojcodbojmoaaGreatDoor
