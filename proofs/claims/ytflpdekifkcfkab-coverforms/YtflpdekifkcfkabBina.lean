/- The document's reader of words: and, or. -/
import Derived.Test.YtflpdekifkcfkabUnar
namespace Go.Proofs.Ytflpdekifkcfkab
open Go.RowKit
set_option linter.unusedVariables false

/-- All blocks behind N2 but N3. -/
def Out (N2 N3 : Nat) : Nat → Prop := fun b => N2 < b ∧ b ≠ N3

/-- Where a reader stands, for a measure. -/
def atOf (rb : Nat) (w : World) : Nat := match w.cell? ⟨rb, 1, none⟩ with | some (.int _ n) => n.toNat | _ => 0

theorem atOf_rd {w : World} {rb p : Nat} {ws : List Wd.Word} (h : Rd w rb ws p) : atOf rb w = p := by
  obtain ⟨_, _, _, ao, cap, en, po, b, q0, q1, _⟩ := h
  unfold atOf
  rw [q1]
  simp

theorem six_stored {w : World} {b : Nat} {o k l h : Int} {t : ByteArray} {x : Option Addr} {n : Nat} (s : Six w b 0 o k l h t x n) (o' k' l' h' : Int) (t' : ByteArray) (x' : Option Addr) (n' : Nat) :
    Six ((((((w.setCell ⟨b, 0, none⟩ (.int .i64 o')).setCell ⟨b, 1, none⟩ (.int .i64 k')).setCell ⟨b, 2, none⟩ (.int .i64 l')).setCell ⟨b, 3, none⟩ (.int .i64 h')).setCell ⟨b, 4, none⟩ (.string t')).setCell ⟨b, 5, none⟩ (.slice x' n' n')) b 0 o' k' l' h' t' x' n' := by
  obtain ⟨s0, s1, s2, s3, s4, s5⟩ := s
  have ne : ∀ (i j : Nat), i ≠ j → (⟨b, i, none⟩ : Addr) ≠ ⟨b, j, none⟩ := fun i j h e => h (by injection e)
  have oth : ∀ (W : World) (i j : Nat) (v : Value), i ≠ j → (W.setCell ⟨b, i, none⟩ v).cell? ⟨b, j, none⟩ = W.cell? ⟨b, j, none⟩ := fun W i j v h => World.cell?_setCell_other W _ _ _ (ne i j h)
  simp only [Nat.zero_add] at s0 s1 s2 s3 s4 s5
  refine ⟨?_, ?_, ?_, ?_, ?_, ?_⟩ <;> (try simp only [Nat.zero_add])
  · rw [oth _ 5 0 _ (by omega), oth _ 4 0 _ (by omega), oth _ 3 0 _ (by omega), oth _ 2 0 _ (by omega), oth _ 1 0 _ (by omega)]
    exact World.cell?_setCell_same _ _ _ s0
  · rw [oth _ 5 1 _ (by omega), oth _ 4 1 _ (by omega), oth _ 3 1 _ (by omega), oth _ 2 1 _ (by omega)]
    exact World.cell?_setCell_same _ _ _ (u := .int .i64 k) (by rw [oth _ 0 1 _ (by omega)]; exact s1)
  · rw [oth _ 5 2 _ (by omega), oth _ 4 2 _ (by omega), oth _ 3 2 _ (by omega)]
    exact World.cell?_setCell_same _ _ _ (u := .int .i64 l) (by rw [oth _ 1 2 _ (by omega), oth _ 0 2 _ (by omega)]; exact s2)
  · rw [oth _ 5 3 _ (by omega), oth _ 4 3 _ (by omega)]
    exact World.cell?_setCell_same _ _ _ (u := .int .i64 h) (by rw [oth _ 2 3 _ (by omega), oth _ 1 3 _ (by omega), oth _ 0 3 _ (by omega)]; exact s3)
  · rw [oth _ 5 4 _ (by omega)]
    exact World.cell?_setCell_same _ _ _ (u := .string t) (by rw [oth _ 3 4 _ (by omega), oth _ 2 4 _ (by omega), oth _ 1 4 _ (by omega), oth _ 0 4 _ (by omega)]; exact s4)
  · exact World.cell?_setCell_same _ _ _ (u := .slice x n n) (by rw [oth _ 4 5 _ (by omega), oth _ 3 5 _ (by omega), oth _ 2 5 _ (by omega), oth _ 1 5 _ (by omega), oth _ 0 5 _ (by omega)]; exact s5)

/-- A filter of two, laid into its box. -/
theorem fin_bin {rb r : Nat} {ws : List Wd.Word} {w w1 w2 w3 : World} {f g : Ev.Ft} {o1 k1 l1 h1 : Int} {t1 : ByteArray} {x1 : Option Addr} {n1 : Nat} {o2 k2 l2 h2 : Int} {t2 : ByteArray} {x2 : Option Addr} {n2 : Nat} (op : Int)
    (hlt : rb < w.heap.size) (sw1 : w.heap.size < w1.heap.size) (hs2 : w1.heap.size < w2.heap.size) (hs3 : w1.heap.size < w3.heap.size) (hsix3 : Six w3 w1.heap.size 0 o1 k1 l1 h1 t1 x1 n1) (hcf : ∀ o, w3.frozen? ⟨w1.heap.size, o, none⟩ = false)
    (hz : ∀ o, w3.cell? ⟨w.heap.size, o, none⟩ = (w.alloc (.cells #[.int .i64 0, .int .i64 0, .int .i64 0, .int .i64 0, .string ⟨#[]⟩, .slice none 0 0] 26)).cell? ⟨w.heap.size, o, none⟩) (hzf : ∀ o, w3.frozen? ⟨w.heap.size, o, none⟩ = false)
    (lyf : Lies (Out w.heap.size w1.heap.size) w3 f o1 k1 l1 h1 t1 x1 n1) (lyg : Lies (Past w2.drew.heap.size) w3 g o2 k2 l2 h2 t2 x2 n2) (hW : WentR rb ws r w w3) :
    let X := (((((((w3.setCell ⟨w1.heap.size, 0, none⟩ (.int .i64 op)).setCell ⟨w1.heap.size, 1, none⟩ (.int .i64 0)).setCell ⟨w1.heap.size, 2, none⟩ (.int .i64 0)).setCell ⟨w1.heap.size, 3, none⟩ (.int .i64 0)).setCell ⟨w1.heap.size, 4, none⟩ (.string ⟨#[]⟩)).setCell ⟨w1.heap.size, 5, none⟩ (.slice (some ⟨w3.heap.size, 0, none⟩) 2 2)).alloc (.cells #[.int .i64 o1, .int .i64 k1, .int .i64 l1, .int .i64 h1, .string t1, .slice x1 n1 n1, .int .i64 o2, .int .i64 k2, .int .i64 l2, .int .i64 h2, .string t2, .slice x2 n2 n2] 26))
    Six X w1.heap.size 0 op 0 0 0 ⟨#[]⟩ (some ⟨w3.heap.size, 0, none⟩) 2 ∧ (∀ o, X.frozen? ⟨w1.heap.size, o, none⟩ = false) ∧ w1.heap.size < X.heap.size ∧ (∀ o, X.cell? ⟨w.heap.size, o, none⟩ = (w.alloc (.cells #[.int .i64 0, .int .i64 0, .int .i64 0, .int .i64 0, .string ⟨#[]⟩, .slice none 0 0] 26)).cell? ⟨w.heap.size, o, none⟩) ∧ (∀ o, X.frozen? ⟨w.heap.size, o, none⟩ = false) ∧
      Lies (Out w.heap.size w1.heap.size) X (.two op f g) op 0 0 0 ⟨#[]⟩ (some ⟨w3.heap.size, 0, none⟩) 2 ∧ WentR rb ws r w X := by
  intro X
  obtain ⟨Y, hY⟩ : ∃ Y, Y = ((((((w3.setCell ⟨w1.heap.size, 0, none⟩ (.int .i64 op)).setCell ⟨w1.heap.size, 1, none⟩ (.int .i64 0)).setCell ⟨w1.heap.size, 2, none⟩ (.int .i64 0)).setCell ⟨w1.heap.size, 3, none⟩ (.int .i64 0)).setCell ⟨w1.heap.size, 4, none⟩ (.string ⟨#[]⟩)).setCell ⟨w1.heap.size, 5, none⟩ (.slice (some ⟨w3.heap.size, 0, none⟩) 2 2)) := ⟨_, rfl⟩
  have hX : X = Y.alloc (.cells #[.int .i64 o1, .int .i64 k1, .int .i64 l1, .int .i64 h1, .string t1, .slice x1 n1 n1, .int .i64 o2, .int .i64 k2, .int .i64 l2, .int .i64 h2, .string t2, .slice x2 n2 n2] 26) := by rw [hY]
  have sY : w3.heap.size = Y.heap.size := by rw [hY]; simp [World.setCell]
  have six1 : Six Y w1.heap.size 0 op 0 0 0 ⟨#[]⟩ (some ⟨w3.heap.size, 0, none⟩) 2 := by rw [hY]; exact six_stored hsix3 _ _ _ _ _ _ _
  have kY : Kept (Out w.heap.size w1.heap.size) w3 Y := by
    rw [hY]
    repeat (refine Kept.setCell ?_ (fun k hk hq => by unfold Out at hq; exact hq.2) _)
    exact Kept.refl _ _
  have wY : WentR rb ws r w Y := by
    rw [hY]
    repeat (refine WentR.setCell ?_ (by simp <;> omega) hlt _)
    exact hW
  have zY : ∀ o, Y.cell? ⟨w.heap.size, o, none⟩ = w3.cell? ⟨w.heap.size, o, none⟩ := fun o => by
    rw [hY]
    repeat rw [World.cell?_setCell_other _ _ _ _ (fun e => by have := congrArg Addr.block e; simp at this; omega)]
  have fY : ∀ a, Y.frozen? a = w3.frozen? a := fun a => by rw [hY]; simp
  clear hY
  have kX : Kept (Out w.heap.size w1.heap.size) w3 X := by rw [hX]; exact kY.alloc _
  refine ⟨?_, ?_, ?_, ?_, ?_, ?_, ?_⟩
  · rw [hX]; exact six1.of (fun i => World.cell?_alloc_past _ _ _ (hn := by omega))
  · intro o; rw [hX, World.frozen?_alloc_past _ _ _ (hn := by omega), fY]; exact hcf o
  · rw [hX]; simp; omega
  · intro o; rw [hX, World.cell?_alloc_past _ _ _ (hn := by omega), zY]; exact hz o
  · intro o; rw [hX, World.frozen?_alloc_past _ _ _ (hn := by omega), fY]; exact hzf o
  · refine ⟨rfl, rfl, rfl, rfl, rfl, w3.heap.size, o1, k1, l1, h1, t1, x1, n1, o2, k2, l2, h2, t2, x2, n2, rfl, rfl, by unfold Out; omega, ?_, Lies.kept kX f lyf, ?_, Lies.kept kX g (Lies.mono (fun b _ hb => by unfold Past at hb; simp at hb; unfold Out; omega) g lyg)⟩
    · rw [hX]; unfold Six; refine ⟨?_, ?_, ?_, ?_, ?_, ?_⟩ <;> (rw [World.cell?_alloc_at _ _ _ _ sY]; simp)
    · rw [hX]; unfold Six; refine ⟨?_, ?_, ?_, ?_, ?_, ?_⟩ <;> (rw [World.cell?_alloc_at _ _ _ _ sY]; simp)
  · rw [hX]; exact wY.alloc _

set_option maxRecDepth 100000 in
set_option maxHeartbeats 4000000 in
theorem and30 (rb : Nat) (ws : List Wd.Word) (n : Nat)
    (H : ∀ m p g r w', m ≤ n → Ps.pars ws m .not p = some (g, r) → Rd w' rb ws p → Calls Try.prog 57 #[.pointer (some ⟨rb, 0, none⟩)] w' (FR rb ws g r w'))
    (p Q : Nat) (F : Ev.Ft) (hP : Ps.pars ws (n + 1) .and p = some (F, Q)) (w : World) (h : Rd w rb ws p) :
    Calls Try.prog 46 #[.pointer (some ⟨rb, 0, none⟩)] w (FR rb ws F Q w) := by
  have hlt := h.lt
  simp only [Ps.pars] at hP
  split at hP
  · cases hP
  · rename_i f0 q0 e0
    have HP : Hid (Ps.pars ws n (.andM f0) q0 = some (F, Q)) := hP
    have c0 := fun w' (h : Rd w' rb ws p) => H n p f0 q0 w' (Nat.le_refl _) e0 h
    have HH : Hid (∀ m p g r w', m ≤ n → Ps.pars ws m .not p = some (g, r) → Rd w' rb ws p → Calls Try.prog 57 #[.pointer (some ⟨rb, 0, none⟩)] w' (FR rb ws g r w')) := H
    clear hP e0 H
    unfold FR at c0 ⊢
    go_enter Try.func46, Try.ntmps46
    go_wp2_with fail
    have hWw0 : WentR rb ws p w (w.alloc (.cells #[.int .i64 0, .int .i64 0, .int .i64 0, .int .i64 0, .string ⟨#[]⟩, .slice none 0 0] 26)) := (WentR.refl h).alloc _
    have sw0 : w.heap.size < (w.alloc (.cells #[.int .i64 0, .int .i64 0, .int .i64 0, .int .i64 0, .string ⟨#[]⟩, .slice none 0 0] 26)).heap.size := by simp
    refine (c0 _ hWw0.1).mono ?_
    rintro e w1 ⟨o1, k1, l1, h1, t1, x1, n1, rfl, ly1, hw1⟩
    have zw1 : ∀ o, w1.cell? ⟨w.heap.size, o, none⟩ = (w.alloc (.cells #[.int .i64 0, .int .i64 0, .int .i64 0, .int .i64 0, .string ⟨#[]⟩, .slice none 0 0] 26)).cell? ⟨w.heap.size, o, none⟩ := fun o => hw1.cell sw0 hlt
    have zfw1 : ∀ o, w1.frozen? ⟨w.heap.size, o, none⟩ = false := fun o => (hw1.frozen sw0 hlt).trans (by simp)
    have sw1 : w.heap.size < w1.heap.size := Nat.lt_of_lt_of_le sw0 hw1.2.size
    have hWw1 := hWw0.trans hw1
    have ly1' : Lies (Out w.heap.size w1.heap.size) w1 f0 o1 k1 l1 h1 t1 x1 n1 := Lies.mono (fun b hb hp => by unfold Past at hp; simp at hp; unfold Out; omega) f0 ly1
    clear hWw0 hw1 c0 ly1
    go_wp2_with fail
    obtain ⟨V, hV⟩ : ∃ V, V = w1.alloc (.cells #[.int .i64 o1, .int .i64 k1, .int .i64 l1, .int .i64 h1, .string t1, .slice x1 n1 n1] 26) := ⟨_, rfl⟩
    rw [← hV]
    have hSix : Six V w1.heap.size 0 o1 k1 l1 h1 t1 x1 n1 := by rw [hV]; unfold Six; simp
    have hVf : ∀ o, V.frozen? ⟨w1.heap.size, o, none⟩ = false := fun o => by rw [hV]; simp
    have hV1 := (WentR.refl hWw1.1).alloc (.cells #[.int .i64 o1, .int .i64 k1, .int .i64 l1, .int .i64 h1, .string t1, .slice x1 n1 n1] 26)
    rw [← hV] at hV1
    have sV : w1.heap.size < V.heap.size := by rw [hV]; simp
    have zV : ∀ o, V.cell? ⟨w.heap.size, o, none⟩ = (w.alloc (.cells #[.int .i64 0, .int .i64 0, .int .i64 0, .int .i64 0, .string ⟨#[]⟩, .slice none 0 0] 26)).cell? ⟨w.heap.size, o, none⟩ := fun o => (hV1.cell sw1 hlt).trans (zw1 o)
    have zVf : ∀ o, V.frozen? ⟨w.heap.size, o, none⟩ = false := fun o => (hV1.frozen sw1 hlt).trans (zfw1 o)
    have lyV : Lies (Out w.heap.size w1.heap.size) V f0 o1 k1 l1 h1 t1 x1 n1 := Lies.kept (hV1.2.mono (fun k _ hk => by unfold Out at hk; unfold Save; omega)) f0 ly1'
    have hWV := hWw1.trans hV1
    clear hV hV1 ly1' hWw1 zw1 zfw1
    go_loopw [6] (fun _ wr => ∃ (m : Nat) (f : Ev.Ft) (q : Nat) (o k l h : Int) (t : ByteArray) (x : Option Addr) (nn : Nat), m ≤ n ∧ Ps.pars ws m (.andM f) q = some (F, Q) ∧ Six wr w1.heap.size 0 o k l h t x nn ∧ (∀ o, wr.frozen? ⟨w1.heap.size, o, none⟩ = false) ∧ w1.heap.size < wr.heap.size ∧
        (∀ o, wr.cell? ⟨w.heap.size, o, none⟩ = (w.alloc (.cells #[.int .i64 0, .int .i64 0, .int .i64 0, .int .i64 0, .string ⟨#[]⟩, .slice none 0 0] 26)).cell? ⟨w.heap.size, o, none⟩) ∧ (∀ o, wr.frozen? ⟨w.heap.size, o, none⟩ = false) ∧ Lies (Out w.heap.size w1.heap.size) wr f o k l h t x nn ∧ WentR rb ws q w wr) (fun _ wr => ws.length - atOf rb wr)
    case atStart => exact ⟨n, f0, q0, o1, k1, l1, h1, t1, x1, n1, Nat.le_refl _, HP.out, hSix, hVf, sV, zV, zVf, lyV, hWV⟩
    case round =>
      obtain ⟨m, f, q, o1, k1, l1, h1, t1, x1, n1, hm, hpq, hsix, hyf, hsz, hz, hzf, hly, hW⟩ := hrel
      clear hSix hVf sV zV zVf lyV hWV HP
      have hat := atOf_rd hW.1
      cases m with
      | zero => cases hpq
      | succ m =>
        simp only [Ps.pars] at hpq
        have cm := fun w' (h : Rd w' rb ws q) => mark31 rb ws q 38 ⟨#[38]⟩ rfl w' h
        by_cases hmk : Ps.isMark ws q 38 = true
        · rw [if_pos hmk] at hpq
          have hql := Ps.isMark_lt hmk
          rw [hmk] at cm
          simp only [if_true] at cm
          split at hpq
          · cases hpq
          · rename_i g r eg
            have c := fun w' (h : Rd w' rb ws (q + 1)) => HH.out m (q + 1) g r w' (by omega) eg h
            have hqr := Ps.pars_ge ws m _ _ _ _ eg
            have HQ : Hid (Ps.pars ws m (.andM (.two 5 f g)) r = some (F, Q)) := hpq
            unfold FR at c
            clear hpq eg hmk
            go_wp2_with fail
            refine (cm _ hW.1).mono ?_
            rintro e w2 ⟨rfl, hw2⟩
            have hsix2 : Six w2 w1.heap.size 0 o1 k1 l1 h1 t1 x1 n1 := hsix.of (fun i => hw2.cell hsz (by omega))
            have hyf2 : ∀ o, w2.frozen? ⟨w1.heap.size, o, none⟩ = false := fun o => (hw2.frozen hsz (by omega)).trans (hyf o)
            have hz2 : ∀ o, w2.cell? ⟨w.heap.size, o, none⟩ = (w.alloc (.cells #[.int .i64 0, .int .i64 0, .int .i64 0, .int .i64 0, .string ⟨#[]⟩, .slice none 0 0] 26)).cell? ⟨w.heap.size, o, none⟩ := fun o => (hw2.cell (by omega) hlt).trans (hz o)
            have hzf2 : ∀ o, w2.frozen? ⟨w.heap.size, o, none⟩ = false := fun o => (hw2.frozen (by omega) hlt).trans (hzf o)
            have hly2 := Lies.kept (hw2.2.mono (fun k _ hk => by unfold Out at hk; unfold Save; omega)) f hly
            have hs2 : w1.heap.size < w2.heap.size := Nat.lt_of_lt_of_le hsz hw2.2.size
            have hW2 := hW.trans hw2
            clear hW hw2 hly hsix hz hzf hyf cm hsz
            obtain ⟨y0, y1, y2, y3, y4, y5⟩ := hsix2
            simp only [Nat.zero_add] at y0 y1 y2 y3 y4 y5
            go_wp2_with fail
            first
              | (go_region_with (first
                  | (go_at_call 57; refine (c _ hW2.drew.1).mono ?_; rintro e w3 ⟨o2, k2, l2, h2, t2, x2, n2, rfl, ly2, hw3⟩; have hcl : ∀ o, w3.cell? ⟨w1.heap.size, o, none⟩ = w2.cell? ⟨w1.heap.size, o, none⟩ := (fun o => hw3.cell hs2 (by omega)); have hcf : ∀ o, w3.frozen? ⟨w1.heap.size, o, none⟩ = false := (fun o => (hw3.frozen hs2 (by omega)).trans (hyf2 o)); have hs3 : w1.heap.size < w3.heap.size := Nat.lt_of_lt_of_le hs2 hw3.2.size)))
              | fail
            all_goals
              have hsix3 : Six w3 w1.heap.size 0 o1 k1 l1 h1 t1 x1 n1 := ⟨(hcl 0).trans y0, (hcl 1).trans y1, (hcl 2).trans y2, (hcl 3).trans y3, (hcl 4).trans y4, (hcl 5).trans y5⟩
              have hR := fin_bin 5 hlt sw1 hs2 hs3 hsix3 hcf (fun o => (hw3.cell (by simp; omega) hlt).trans (hz2 o)) (fun o => (hw3.frozen (by simp; omega) hlt).trans (hzf2 o)) (Lies.kept (hw3.2.mono (fun k _ hk => by unfold Out at hk; unfold Save; omega)) f (Lies.kept ((Kept.refl _ w2).drew) f hly2)) ly2 (hW2.drew.trans hw3)
              obtain ⟨X, hX⟩ : ∃ X, X = (((((((w3.setCell ⟨w1.heap.size, 0, none⟩ (.int .i64 5)).setCell ⟨w1.heap.size, 1, none⟩ (.int .i64 0)).setCell ⟨w1.heap.size, 2, none⟩ (.int .i64 0)).setCell ⟨w1.heap.size, 3, none⟩ (.int .i64 0)).setCell ⟨w1.heap.size, 4, none⟩ (.string ⟨#[]⟩)).setCell ⟨w1.heap.size, 5, none⟩ (.slice (some ⟨w3.heap.size, 0, none⟩) 2 2)).alloc (.cells #[.int .i64 o1, .int .i64 k1, .int .i64 l1, .int .i64 h1, .string t1, .slice x1 n1 n1, .int .i64 o2, .int .i64 k2, .int .i64 l2, .int .i64 h2, .string t2, .slice x2 n2 n2] 26)) := ⟨_, rfl⟩
              rw [← hX] at hR ⊢
              clear hX hsix3 hcl hcf hw3 ly2 c hly2 hz2 hzf2 hyf2 hW2 y0 y1 y2 y3 y4 y5
              obtain ⟨R1, R2, R3, R4, R5, R6, R7⟩ := hR
              go_wp2
              go_roundw
              case rel => exact ⟨m, .two 5 f g, r, 5, 0, 0, 0, ⟨#[]⟩, some ⟨w3.heap.size, 0, none⟩, 2, by omega, HQ.out, R1, R2, R3, R4, R5, R6, R7⟩
              case measure => rw [hat, atOf_rd R7.1]; omega
        · rw [if_neg hmk] at hpq
          cases hpq
          have hmf : Ps.isMark ws Q 38 = false := by simpa using hmk
          rw [hmf] at cm
          simp only [Bool.false_eq_true, if_false] at cm
          clear hmk hmf
          go_wp2_with fail
          refine (cm _ hW.1).mono ?_
          rintro e w2 ⟨rfl, hw2⟩
          have hsix2 : Six w2 w1.heap.size 0 o1 k1 l1 h1 t1 x1 n1 := hsix.of (fun i => hw2.cell hsz (by omega))
          have hz2 : ∀ o, w2.cell? ⟨w.heap.size, o, none⟩ = (w.alloc (.cells #[.int .i64 0, .int .i64 0, .int .i64 0, .int .i64 0, .string ⟨#[]⟩, .slice none 0 0] 26)).cell? ⟨w.heap.size, o, none⟩ := fun o => (hw2.cell (by omega) hlt).trans (hz o)
          have hzf2 : ∀ o, w2.frozen? ⟨w.heap.size, o, none⟩ = false := fun o => (hw2.frozen (by omega) hlt).trans (hzf o)
          have hly2 := Lies.kept (hw2.2.mono (fun k _ hk => by unfold Out at hk; unfold Save; omega)) F hly
          have hW2 := hW.trans hw2
          have hne : w1.heap.size ≠ w.heap.size := by omega
          have hne' : w.heap.size ≠ w1.heap.size := by omega
          clear hW hw2 hly hsix hz hzf hyf cm hsz HH
          obtain ⟨y0, y1, y2, y3, y4, y5⟩ := hsix2
          simp only [Nat.zero_add] at y0 y1 y2 y3 y4 y5
          go_wp2
          refine bodyPost_ret (v := .agg #[.int .i64 o1, .int .i64 k1, .int .i64 l1, .int .i64 h1, .string t1, .slice x1 n1 n1]) (by simp [results, Try.results46, go_sem, *]) rfl ⟨o1, k1, l1, h1, t1, x1, n1, rfl, Lies.mono (P := Out w.heap.size w1.heap.size) (fun b _ hb => by unfold Out at hb; unfold Past; omega) F (Lies.kept ?_ F hly2), ?_⟩
          · repeat (refine Kept.setCell ?_ (fun k hk hq => by unfold Out at hq; simp; omega) _)
            exact Kept.refl _ _
          · repeat (refine WentR.setCell ?_ (by simp <;> omega) hlt _)
            exact hW2

set_option maxRecDepth 100000 in
set_option maxHeartbeats 4000000 in
theorem or24 (rb : Nat) (ws : List Wd.Word) (n : Nat)
    (H : ∀ m p g r w', m ≤ n → Ps.pars ws m .and p = some (g, r) → Rd w' rb ws p → Calls Try.prog 46 #[.pointer (some ⟨rb, 0, none⟩)] w' (FR rb ws g r w'))
    (p Q : Nat) (F : Ev.Ft) (hP : Ps.pars ws (n + 1) .or p = some (F, Q)) (w : World) (h : Rd w rb ws p) :
    Calls Try.prog 34 #[.pointer (some ⟨rb, 0, none⟩)] w (FR rb ws F Q w) := by
  have hlt := h.lt
  simp only [Ps.pars] at hP
  split at hP
  · cases hP
  · rename_i f0 q0 e0
    have HP : Hid (Ps.pars ws n (.orM f0) q0 = some (F, Q)) := hP
    have c0 := fun w' (h : Rd w' rb ws p) => H n p f0 q0 w' (Nat.le_refl _) e0 h
    have HH : Hid (∀ m p g r w', m ≤ n → Ps.pars ws m .and p = some (g, r) → Rd w' rb ws p → Calls Try.prog 46 #[.pointer (some ⟨rb, 0, none⟩)] w' (FR rb ws g r w')) := H
    clear hP e0 H
    unfold FR at c0 ⊢
    go_enter Try.func34, Try.ntmps34
    go_wp2_with fail
    have hWw0 : WentR rb ws p w (w.alloc (.cells #[.int .i64 0, .int .i64 0, .int .i64 0, .int .i64 0, .string ⟨#[]⟩, .slice none 0 0] 26)) := (WentR.refl h).alloc _
    have sw0 : w.heap.size < (w.alloc (.cells #[.int .i64 0, .int .i64 0, .int .i64 0, .int .i64 0, .string ⟨#[]⟩, .slice none 0 0] 26)).heap.size := by simp
    refine (c0 _ hWw0.1).mono ?_
    rintro e w1 ⟨o1, k1, l1, h1, t1, x1, n1, rfl, ly1, hw1⟩
    have zw1 : ∀ o, w1.cell? ⟨w.heap.size, o, none⟩ = (w.alloc (.cells #[.int .i64 0, .int .i64 0, .int .i64 0, .int .i64 0, .string ⟨#[]⟩, .slice none 0 0] 26)).cell? ⟨w.heap.size, o, none⟩ := fun o => hw1.cell sw0 hlt
    have zfw1 : ∀ o, w1.frozen? ⟨w.heap.size, o, none⟩ = false := fun o => (hw1.frozen sw0 hlt).trans (by simp)
    have sw1 : w.heap.size < w1.heap.size := Nat.lt_of_lt_of_le sw0 hw1.2.size
    have hWw1 := hWw0.trans hw1
    have ly1' : Lies (Out w.heap.size w1.heap.size) w1 f0 o1 k1 l1 h1 t1 x1 n1 := Lies.mono (fun b hb hp => by unfold Past at hp; simp at hp; unfold Out; omega) f0 ly1
    clear hWw0 hw1 c0 ly1
    go_wp2_with fail
    obtain ⟨V, hV⟩ : ∃ V, V = w1.alloc (.cells #[.int .i64 o1, .int .i64 k1, .int .i64 l1, .int .i64 h1, .string t1, .slice x1 n1 n1] 26) := ⟨_, rfl⟩
    rw [← hV]
    have hSix : Six V w1.heap.size 0 o1 k1 l1 h1 t1 x1 n1 := by rw [hV]; unfold Six; simp
    have hVf : ∀ o, V.frozen? ⟨w1.heap.size, o, none⟩ = false := fun o => by rw [hV]; simp
    have hV1 := (WentR.refl hWw1.1).alloc (.cells #[.int .i64 o1, .int .i64 k1, .int .i64 l1, .int .i64 h1, .string t1, .slice x1 n1 n1] 26)
    rw [← hV] at hV1
    have sV : w1.heap.size < V.heap.size := by rw [hV]; simp
    have zV : ∀ o, V.cell? ⟨w.heap.size, o, none⟩ = (w.alloc (.cells #[.int .i64 0, .int .i64 0, .int .i64 0, .int .i64 0, .string ⟨#[]⟩, .slice none 0 0] 26)).cell? ⟨w.heap.size, o, none⟩ := fun o => (hV1.cell sw1 hlt).trans (zw1 o)
    have zVf : ∀ o, V.frozen? ⟨w.heap.size, o, none⟩ = false := fun o => (hV1.frozen sw1 hlt).trans (zfw1 o)
    have lyV : Lies (Out w.heap.size w1.heap.size) V f0 o1 k1 l1 h1 t1 x1 n1 := Lies.kept (hV1.2.mono (fun k _ hk => by unfold Out at hk; unfold Save; omega)) f0 ly1'
    have hWV := hWw1.trans hV1
    clear hV hV1 ly1' hWw1 zw1 zfw1
    go_loopw [6] (fun _ wr => ∃ (m : Nat) (f : Ev.Ft) (q : Nat) (o k l h : Int) (t : ByteArray) (x : Option Addr) (nn : Nat), m ≤ n ∧ Ps.pars ws m (.orM f) q = some (F, Q) ∧ Six wr w1.heap.size 0 o k l h t x nn ∧ (∀ o, wr.frozen? ⟨w1.heap.size, o, none⟩ = false) ∧ w1.heap.size < wr.heap.size ∧
        (∀ o, wr.cell? ⟨w.heap.size, o, none⟩ = (w.alloc (.cells #[.int .i64 0, .int .i64 0, .int .i64 0, .int .i64 0, .string ⟨#[]⟩, .slice none 0 0] 26)).cell? ⟨w.heap.size, o, none⟩) ∧ (∀ o, wr.frozen? ⟨w.heap.size, o, none⟩ = false) ∧ Lies (Out w.heap.size w1.heap.size) wr f o k l h t x nn ∧ WentR rb ws q w wr) (fun _ wr => ws.length - atOf rb wr)
    case atStart => exact ⟨n, f0, q0, o1, k1, l1, h1, t1, x1, n1, Nat.le_refl _, HP.out, hSix, hVf, sV, zV, zVf, lyV, hWV⟩
    case round =>
      obtain ⟨m, f, q, o1, k1, l1, h1, t1, x1, n1, hm, hpq, hsix, hyf, hsz, hz, hzf, hly, hW⟩ := hrel
      clear hSix hVf sV zV zVf lyV hWV HP
      have hat := atOf_rd hW.1
      cases m with
      | zero => cases hpq
      | succ m =>
        simp only [Ps.pars] at hpq
        have cm := fun w' (h : Rd w' rb ws q) => mark31 rb ws q 124 ⟨#[124]⟩ rfl w' h
        by_cases hmk : Ps.isMark ws q 124 = true
        · rw [if_pos hmk] at hpq
          have hql := Ps.isMark_lt hmk
          rw [hmk] at cm
          simp only [if_true] at cm
          split at hpq
          · cases hpq
          · rename_i g r eg
            have c := fun w' (h : Rd w' rb ws (q + 1)) => HH.out m (q + 1) g r w' (by omega) eg h
            have hqr := Ps.pars_ge ws m _ _ _ _ eg
            have HQ : Hid (Ps.pars ws m (.orM (.two 6 f g)) r = some (F, Q)) := hpq
            unfold FR at c
            clear hpq eg hmk
            go_wp2_with fail
            refine (cm _ hW.1).mono ?_
            rintro e w2 ⟨rfl, hw2⟩
            have hsix2 : Six w2 w1.heap.size 0 o1 k1 l1 h1 t1 x1 n1 := hsix.of (fun i => hw2.cell hsz (by omega))
            have hyf2 : ∀ o, w2.frozen? ⟨w1.heap.size, o, none⟩ = false := fun o => (hw2.frozen hsz (by omega)).trans (hyf o)
            have hz2 : ∀ o, w2.cell? ⟨w.heap.size, o, none⟩ = (w.alloc (.cells #[.int .i64 0, .int .i64 0, .int .i64 0, .int .i64 0, .string ⟨#[]⟩, .slice none 0 0] 26)).cell? ⟨w.heap.size, o, none⟩ := fun o => (hw2.cell (by omega) hlt).trans (hz o)
            have hzf2 : ∀ o, w2.frozen? ⟨w.heap.size, o, none⟩ = false := fun o => (hw2.frozen (by omega) hlt).trans (hzf o)
            have hly2 := Lies.kept (hw2.2.mono (fun k _ hk => by unfold Out at hk; unfold Save; omega)) f hly
            have hs2 : w1.heap.size < w2.heap.size := Nat.lt_of_lt_of_le hsz hw2.2.size
            have hW2 := hW.trans hw2
            clear hW hw2 hly hsix hz hzf hyf cm hsz
            obtain ⟨y0, y1, y2, y3, y4, y5⟩ := hsix2
            simp only [Nat.zero_add] at y0 y1 y2 y3 y4 y5
            go_wp2_with fail
            first
              | (go_region_with (first
                  | (go_at_call 46; refine (c _ hW2.drew.1).mono ?_; rintro e w3 ⟨o2, k2, l2, h2, t2, x2, n2, rfl, ly2, hw3⟩; have hcl : ∀ o, w3.cell? ⟨w1.heap.size, o, none⟩ = w2.cell? ⟨w1.heap.size, o, none⟩ := (fun o => hw3.cell hs2 (by omega)); have hcf : ∀ o, w3.frozen? ⟨w1.heap.size, o, none⟩ = false := (fun o => (hw3.frozen hs2 (by omega)).trans (hyf2 o)); have hs3 : w1.heap.size < w3.heap.size := Nat.lt_of_lt_of_le hs2 hw3.2.size)))
              | fail
            all_goals
              have hsix3 : Six w3 w1.heap.size 0 o1 k1 l1 h1 t1 x1 n1 := ⟨(hcl 0).trans y0, (hcl 1).trans y1, (hcl 2).trans y2, (hcl 3).trans y3, (hcl 4).trans y4, (hcl 5).trans y5⟩
              have hR := fin_bin 6 hlt sw1 hs2 hs3 hsix3 hcf (fun o => (hw3.cell (by simp; omega) hlt).trans (hz2 o)) (fun o => (hw3.frozen (by simp; omega) hlt).trans (hzf2 o)) (Lies.kept (hw3.2.mono (fun k _ hk => by unfold Out at hk; unfold Save; omega)) f (Lies.kept ((Kept.refl _ w2).drew) f hly2)) ly2 (hW2.drew.trans hw3)
              obtain ⟨X, hX⟩ : ∃ X, X = (((((((w3.setCell ⟨w1.heap.size, 0, none⟩ (.int .i64 6)).setCell ⟨w1.heap.size, 1, none⟩ (.int .i64 0)).setCell ⟨w1.heap.size, 2, none⟩ (.int .i64 0)).setCell ⟨w1.heap.size, 3, none⟩ (.int .i64 0)).setCell ⟨w1.heap.size, 4, none⟩ (.string ⟨#[]⟩)).setCell ⟨w1.heap.size, 5, none⟩ (.slice (some ⟨w3.heap.size, 0, none⟩) 2 2)).alloc (.cells #[.int .i64 o1, .int .i64 k1, .int .i64 l1, .int .i64 h1, .string t1, .slice x1 n1 n1, .int .i64 o2, .int .i64 k2, .int .i64 l2, .int .i64 h2, .string t2, .slice x2 n2 n2] 26)) := ⟨_, rfl⟩
              rw [← hX] at hR ⊢
              clear hX hsix3 hcl hcf hw3 ly2 c hly2 hz2 hzf2 hyf2 hW2 y0 y1 y2 y3 y4 y5
              obtain ⟨R1, R2, R3, R4, R5, R6, R7⟩ := hR
              go_wp2
              go_roundw
              case rel => exact ⟨m, .two 6 f g, r, 6, 0, 0, 0, ⟨#[]⟩, some ⟨w3.heap.size, 0, none⟩, 2, by omega, HQ.out, R1, R2, R3, R4, R5, R6, R7⟩
              case measure => rw [hat, atOf_rd R7.1]; omega
        · rw [if_neg hmk] at hpq
          cases hpq
          have hmf : Ps.isMark ws Q 124 = false := by simpa using hmk
          rw [hmf] at cm
          simp only [Bool.false_eq_true, if_false] at cm
          clear hmk hmf
          go_wp2_with fail
          refine (cm _ hW.1).mono ?_
          rintro e w2 ⟨rfl, hw2⟩
          have hsix2 : Six w2 w1.heap.size 0 o1 k1 l1 h1 t1 x1 n1 := hsix.of (fun i => hw2.cell hsz (by omega))
          have hz2 : ∀ o, w2.cell? ⟨w.heap.size, o, none⟩ = (w.alloc (.cells #[.int .i64 0, .int .i64 0, .int .i64 0, .int .i64 0, .string ⟨#[]⟩, .slice none 0 0] 26)).cell? ⟨w.heap.size, o, none⟩ := fun o => (hw2.cell (by omega) hlt).trans (hz o)
          have hzf2 : ∀ o, w2.frozen? ⟨w.heap.size, o, none⟩ = false := fun o => (hw2.frozen (by omega) hlt).trans (hzf o)
          have hly2 := Lies.kept (hw2.2.mono (fun k _ hk => by unfold Out at hk; unfold Save; omega)) F hly
          have hW2 := hW.trans hw2
          have hne : w1.heap.size ≠ w.heap.size := by omega
          have hne' : w.heap.size ≠ w1.heap.size := by omega
          clear hW hw2 hly hsix hz hzf hyf cm hsz HH
          obtain ⟨y0, y1, y2, y3, y4, y5⟩ := hsix2
          simp only [Nat.zero_add] at y0 y1 y2 y3 y4 y5
          go_wp2
          refine bodyPost_ret (v := .agg #[.int .i64 o1, .int .i64 k1, .int .i64 l1, .int .i64 h1, .string t1, .slice x1 n1 n1]) (by simp [results, Try.results34, go_sem, *]) rfl ⟨o1, k1, l1, h1, t1, x1, n1, rfl, Lies.mono (P := Out w.heap.size w1.heap.size) (fun b _ hb => by unfold Out at hb; unfold Past; omega) F (Lies.kept ?_ F hly2), ?_⟩
          · repeat (refine Kept.setCell ?_ (fun k hk hq => by unfold Out at hq; simp; omega) _)
            exact Kept.refl _ _
          · repeat (refine WentR.setCell ?_ (by simp <;> omega) hlt _)
            exact hW2

end Go.Proofs.Ytflpdekifkcfkab
