/- pars.check of a filter, whole; pars.May of one. -/
import Derived.Test.YtdeojcodbojmoaaGreatDoorChk
namespace Go.Proofs.YtdeojcodbojmoaaGreatDoor
open Go.RowKit
set_option maxRecDepth 100000
set_option linter.unusedVariables false

set_option maxHeartbeats 8000000 in
theorem chk_two (op : Int) (hop : op = 5 ∨ op = 6) (b : Nat) (d : Nat) (w : World) (hd : d ≤ 5) (o1 k1 l1 h1 : Int) (t1 : ByteArray) (x1 : Option Addr) (n1 : Nat) (s : Six w b 0 o1 k1 l1 h1 t1 x1 n1) (o2 k2 l2 h2 : Int) (t2 : ByteArray) (x2 : Option Addr) (n2 : Nat) (s' : Six w b 6 o2 k2 l2 h2 t2 x2 n2) (Z Z' : Value → Prop)
    (hZ : ∀ ev, Z ev → ev = .nilIface ∨ ∃ T v, ev = .iface T v) (hZ' : ∀ ev, Z' ev → ev = .nilIface ∨ ∃ T v, ev = .iface T v)
    (c : ∀ w', Below w.heap.size w w' → Calls Tryz.prog 70 #[.agg #[.int .i64 o1, .int .i64 k1, .int .i64 l1, .int .i64 h1, .string t1, .slice x1 n1 n1], .int .i64 d] w' fun r w'' => (∃ ev, r = .returned ev ∧ Z ev) ∧ Below w'.heap.size w' w'')
    (c' : ∀ w', Below w.heap.size w w' → Calls Tryz.prog 70 #[.agg #[.int .i64 o2, .int .i64 k2, .int .i64 l2, .int .i64 h2, .string t2, .slice x2 n2 n2], .int .i64 d] w' fun r w'' => (∃ ev, r = .returned ev ∧ Z' ev) ∧ Below w'.heap.size w' w'') :
    Calls Tryz.prog 70 #[.agg #[.int .i64 op, .int .i64 0, .int .i64 0, .int .i64 0, .string ⟨#[]⟩, .slice (some ⟨b, 0, none⟩) 2 2], .int .i64 ((d : Int) + 1)] w fun r w' => ((r = .returned .nilIface ∧ Z .nilIface ∧ Z' .nilIface) ∨ (∃ T v p, r = .returned (.iface 124 (.agg #[.string p, .iface T v])) ∧ Z (.iface T v)) ∨ ∃ T v p, r = .returned (.iface 124 (.agg #[.string p, .iface T v])) ∧ Z .nilIface ∧ Z' (.iface T v)) ∧ Below w.heap.size w w' := by
  have b0 : (((d : Int) + 1) == 0) = false := by simp; omega
  have e1 : IntKind.i64.wrap ((d : Int) + 1 - 1) = (d : Int) := by simp only [IntKind.wrap, IntKind.signed, IntKind.bits]; simp; omega
  have hb0 := s.lt
  have cm := fun w => many_any op 2 w (.inl ⟨hop, rfl⟩)
  have co := fun w => own_zero op (some ⟨b, 0, none⟩) 2 w (by rcases hop with h | h <;> simp [h])
  clear hop
  go_enter Tryz.func70, Tryz.ntmps70
  go_wp2_with fail
  refine (co _).mono ?_
  rintro r w1 ⟨rfl, hb1⟩
  have hs1 : w.heap.size < w1.heap.size := by have := hb1.size; simp at this; omega
  have d1 : ∀ i, w1.cell? ⟨w.heap.size, i, none⟩ = (#[.int .i64 op, .int .i64 0, .int .i64 0, .int .i64 0, .string ⟨#[]⟩, .slice (some ⟨b, 0, none⟩) 2 2] : Array Value)[i]? := fun i => by rw [hb1.cell (p := ⟨w.heap.size, i, none⟩) (by simp)]; simp
  have hBw : Below w.heap.size w w1 := ((Below.refl _ w).alloc (Nat.le_refl _) _).trans (hb1.mono (by simp))
  have HB : Hid (Below w.heap.size w w1) := hBw
  clear hb1 hBw co
  have d0 : w1.cell? ⟨w.heap.size, 0, none⟩ = some (.int .i64 op) := d1 0
  have d5 : w1.cell? ⟨w.heap.size, 5, none⟩ = some (.slice (some ⟨b, 0, none⟩) 2 2) := d1 5
  clear d1
  go_wp2_with fail
  go_quiet (first | (go_at_call 86; refine Calls.quiet_of_same (cm _)))
  go_wp2_with fail
  obtain ⟨U, hU⟩ : ∃ U, U = w1.drewN nq := ⟨_, rfl⟩
  rw [← hU]
  have hBU : Below w.heap.size w U := by rw [hU]; exact bel_dN HB.out _
  have HU : Hid (Below w.heap.size w U) := hBU
  obtain ⟨u0, u1, u2, u3, u4, u5⟩ := s.of (fun i => hBU.cell (p := ⟨b, i, none⟩) hb0)
  simp only [Nat.zero_add] at u0 u1 u2 u3 u4 u5
  have c2 := c (U.alloc (.cells #[.int .i64 o1, .int .i64 k1, .int .i64 l1, .int .i64 h1, .string t1, .slice x1 n1 n1] 53)) (HU.out.alloc HU.out.size _)
  clear hU d0 d5 HB c hBU
  refine wp_loop_rounds 3 ?_
  rw [rounds_succ]
  go_wp2_with fail
  refine c2.mono ?_
  rintro r w2 ⟨⟨ev, rfl, hz⟩, hb2⟩
  have hB2 : Below w.heap.size w w2 := (HU.out.alloc HU.out.size _).trans (hb2.mono (by have := HU.out.size; simp; omega))
  have HB2 : Hid (Below w.heap.size w w2) := hB2
  clear c2 hb2 u0 u1 u2 u3 u4 u5 HU
  rcases hZ ev hz with rfl | ⟨T, v, rfl⟩
  · have HZ : Hid (Z .nilIface) := hz
    obtain ⟨u0, u1, u2, u3, u4, u5⟩ := s'.of (fun i => hB2.cell (p := ⟨b, i, none⟩) hb0)
    simp only [Nat.reduceAdd] at u0 u1 u2 u3 u4 u5
    have c3 := c' (w2.alloc (.cells #[.int .i64 o2, .int .i64 k2, .int .i64 l2, .int .i64 h2, .string t2, .slice x2 n2 n2] 53)) (hB2.alloc hB2.size _)
    clear hz hZ c' hB2
    go_wp2_with fail
    rw [rounds_succ]
    go_wp2_with fail
    refine c3.mono ?_
    rintro r w3 ⟨⟨ev, rfl, hz⟩, hb3⟩
    have HB3 : Hid (Below w.heap.size w w3) := (HB2.out.alloc HB2.out.size _).trans (hb3.mono (by have := HB2.out.size; simp; omega))
    clear c3 hb3 u0 u1 u2 u3 u4 u5 HB2
    rcases hZ' ev hz with rfl | ⟨T, v, rfl⟩
    · have HZ' : Hid (Z' .nilIface) := hz
      clear hz hZ'
      go_wp2_with fail
      rw [rounds_succ]
      go_wp2
      go_ret
      exact ⟨.inl ⟨rfl, HZ.out, HZ'.out⟩, HB3.out⟩
    · have HZ' : Hid (Z' (.iface T v)) := hz
      clear hz hZ'
      go_wp2_with fail
      refine (within_one _ _ _ _).mono ?_
      rintro r w4 ⟨rfl, rfl⟩
      go_wp2
      go_ret
      exact ⟨.inr (.inr ⟨T, v, _, rfl, HZ.out, HZ'.out⟩), HB3.out⟩
  · have HZ : Hid (Z (.iface T v)) := hz
    clear hz hZ hZ' c' hB2
    go_wp2_with fail
    refine (within_one _ _ _ _).mono ?_
    rintro r w3 ⟨rfl, rfl⟩
    go_wp2
    go_ret
    exact ⟨.inr (.inl ⟨T, v, _, rfl, HZ.out⟩), HB2.out⟩

theorem ckv_form {f : Ps.Ft} {d : Nat} : ∀ ev, CkV f d ev → ev = .nilIface ∨ ∃ T v, ev = .iface T v := fun ev h => by
  rcases h with ⟨_, rfl⟩ | ⟨_, m, T, v, rfl, _⟩
  · exact .inl rfl
  · exact .inr ⟨T, v, rfl⟩

/-- pars.check. -/
theorem chk70 (f : Ps.Ft) (hf : f.wf) : ∀ (d : Nat) (w : World) (o k l h : Int) (t : ByteArray) (x : Option Addr) (n : Nat), d ≤ 6 → Lies Any w f o k l h t x n →
    Calls Tryz.prog 70 #[.agg #[.int .i64 o, .int .i64 k, .int .i64 l, .int .i64 h, .string t, .slice x n n], .int .i64 d] w fun r w' => (∃ ev, r = .returned ev ∧ CkV f d ev) ∧ Below w.heap.size w w' := by
  have z : ∀ (f : Ps.Ft) (w : World) (o k l h : Int) (t : ByteArray) (x : Option Addr) (n : Nat), Calls Tryz.prog 70 #[.agg #[.int .i64 o, .int .i64 k, .int .i64 l, .int .i64 h, .string t, .slice x n n], .int .i64 ((0 : Nat) : Int)] w fun r w' => (∃ ev, r = .returned ev ∧ CkV f 0 ev) ∧ Below w.heap.size w w' := by
    intro f w o k l h t x n
    refine (chk_zero o k l h t x n w).mono ?_
    rintro r w' ⟨⟨v, rfl, hv⟩, hb⟩
    exact ⟨⟨_, rfl, .inr ⟨f.deep_pos, 0, _, _, rfl, hv⟩⟩, hb⟩
  induction f with
  | leaf op key lo hi tag =>
    intro d w o k l h t x n hd hl
    cases d with
    | zero => exact z _ w o k l h t x n
    | succ d =>
      have hl' := hl
      obtain ⟨rfl, rfl, rfl, rfl, rfl, rfl, rfl⟩ := hl
      refine (chk_leaf _ _ _ _ _ (d + 1) w hd (by omega) ?_ (fun w => own_any _ hf w _ _ _ _ _ _ _ ⟨rfl, rfl, rfl, rfl, rfl, rfl, rfl⟩)).mono ?_
      · rcases hf with h | h | h | h
        · exact .inl h.1
        · exact .inr (.inl h.1)
        · exact .inr (.inr (.inl h.1))
        · exact .inr (.inr (.inr h.1))
      · rintro r w' ⟨rfl, hb⟩
        exact ⟨⟨_, rfl, .inl ⟨by simp [Ps.Ft.deep], rfl⟩⟩, hb⟩
  | non f ih =>
    intro d w o k l h t x n hd hl
    cases d with
    | zero => exact z _ w o k l h t x n
    | succ d =>
      obtain ⟨rfl, rfl, rfl, rfl, rfl, b, o1, k1, l1, h1, t1, x1, n1, rfl, rfl, _, s, y⟩ := hl
      refine (chk_non b d w (by omega) o1 k1 l1 h1 t1 x1 n1 s (CkV f d) ckv_form (fun w' hb => ih hf d w' o1 k1 l1 h1 t1 x1 n1 (by omega) (y.below hb))).mono ?_
      rintro r w' ⟨hr, hb⟩
      refine ⟨?_, hb⟩
      rcases hr with ⟨rfl, hz⟩ | ⟨T, v, p, rfl, hz⟩
      · rcases hz with ⟨hd', _⟩ | ⟨_, m, T, v, e, _⟩
        · exact ⟨_, rfl, .inl ⟨by simp only [Ps.Ft.deep]; omega, rfl⟩⟩
        · cases e
      · rcases hz with ⟨_, e⟩ | ⟨hd', m, T', v', e, hm⟩
        · cases e
        · cases e
          exact ⟨_, rfl, .inr ⟨by simp only [Ps.Ft.deep]; omega, m + 1, _, _, rfl, p, _, rfl, hm⟩⟩
  | two op f g ihf ihg =>
    intro d w o k l h t x n hd hl
    cases d with
    | zero => exact z _ w o k l h t x n
    | succ d =>
      obtain ⟨rfl, rfl, rfl, rfl, rfl, b, o1, k1, l1, h1, t1, x1, n1, o2, k2, l2, h2, t2, x2, n2, rfl, rfl, _, s, y, s', y'⟩ := hl
      obtain ⟨hop, hf1, hf2⟩ := hf
      refine (chk_two _ hop b d w (by omega) o1 k1 l1 h1 t1 x1 n1 s o2 k2 l2 h2 t2 x2 n2 s' (CkV f d) (CkV g d) ckv_form ckv_form (fun w' hb => ihf hf1 d w' o1 k1 l1 h1 t1 x1 n1 (by omega) (y.below hb)) (fun w' hb => ihg hf2 d w' o2 k2 l2 h2 t2 x2 n2 (by omega) (y'.below hb))).mono ?_
      rintro r w' ⟨hr, hb⟩
      refine ⟨?_, hb⟩
      rcases hr with ⟨rfl, hz, hz'⟩ | ⟨T, v, p, rfl, hz⟩ | ⟨T, v, p, rfl, _, hz⟩
      · rcases hz with ⟨hd', _⟩ | ⟨_, m, T, v, e, _⟩
        · rcases hz' with ⟨hd'', _⟩ | ⟨_, m, T, v, e, _⟩
          · exact ⟨_, rfl, .inl ⟨by simp only [Ps.Ft.deep]; omega, rfl⟩⟩
          · cases e
        · cases e
      · rcases hz with ⟨_, e⟩ | ⟨hd', m, T', v', e, hm⟩
        · cases e
        · cases e
          exact ⟨_, rfl, .inr ⟨by simp only [Ps.Ft.deep]; omega, m + 1, _, _, rfl, p, _, rfl, hm⟩⟩
      · rcases hz with ⟨_, e⟩ | ⟨hd', m, T', v', e, hm⟩
        · cases e
        · cases e
          exact ⟨_, rfl, .inr ⟨by simp only [Ps.Ft.deep]; omega, m + 1, _, _, rfl, p, _, rfl, hm⟩⟩

theorem ErrT.below {w w' : World} {B : Nat} (h : ErrT w) (hb : Below B w w') (h1 : 1 < B) : ErrT w' := (hb.cell (p := ⟨1, 0, none⟩) h1).trans h
theorem ErrT.lt {w : World} (h : ErrT w) : 1 < w.heap.size := World.block_lt_of_cell? w ⟨1, 0, none⟩ h

set_option maxHeartbeats 2000000 in
/-- pars.May of what is read: only its depth counts. -/
theorem mayP54 (f : Ps.Ft) (hf : f.wf) (w : World) (o k l h : Int) (t : ByteArray) (x : Option Addr) (n : Nat) (he : ErrT w) (hl : Lies Any w f o k l h t x n) :
    Calls Tryz.prog 54 #[.agg #[.int .i64 o, .int .i64 k, .int .i64 l, .int .i64 h, .string t, .slice x n n]] w fun r w' => r = .returned (.bool (decide (f.deep ≤ 6))) ∧ Below w.heap.size w w' := by
  have h1 := he.lt
  have hBU : Below w.heap.size w ((w.alloc (.cells #[.int .i64 o, .int .i64 k, .int .i64 l, .int .i64 h, .string t, .slice x n n] 53)).alloc (.cells #[.string ⟨#[]⟩] 129)) := ((Below.refl _ w).alloc (Nat.le_refl _) _).alloc (by simp) _
  have c := chk70 f hf 6 ((w.alloc (.cells #[.int .i64 o, .int .i64 k, .int .i64 l, .int .i64 h, .string t, .slice x n n] 53)).alloc (.cells #[.string ⟨#[]⟩] 129)) o k l h t x n (by omega) (hl.below hBU)
  have HBU : Hid _ := hBU
  clear hl hf hBU
  go_enter Tryz.func54, Tryz.ntmps54
  go_wp2_with fail
  refine c.mono ?_
  rintro r w1 ⟨⟨ev, rfl, hz⟩, hb1⟩
  clear c
  have hB1 : Below w.heap.size w w1 := HBU.out.trans (hb1.mono (by simp <;> omega))
  rcases hz with ⟨hd, rfl⟩ | ⟨hd, m, T, v, rfl, hm⟩
  · have e6 : decide (f.deep ≤ 6) = true := decide_eq_true hd
    have HB1 : Hid _ := hB1
    have HE : Hid (decide (f.deep ≤ 6) = true) := e6
    clear hd e6 hb1 hB1
    go_wp2_with fail
    refine (as39 _ _).mono ?_
    rintro r w2 ⟨rfl, rfl⟩
    go_wp2
    go_ret
    exact ⟨by rw [HE.out]; rfl, HB1.out⟩
  · have e6 : decide (f.deep ≤ 6) = false := decide_eq_false (by omega)
    have ht : w1.cell? ⟨w.heap.size + 1, 0, none⟩ = some (.string ⟨#[]⟩) := by rw [hb1.cell (p := ⟨w.heap.size + 1, 0, none⟩) (by simp)]; simp
    have hfz : w1.frozen? ⟨w.heap.size + 1, 0, none⟩ = false := by rw [hb1.frozen (p := ⟨w.heap.size + 1, 0, none⟩) (by simp)]; simp
    have c2 := as39_129 m (.iface T v) (w.heap.size + 1) _ w1 (he.below hB1 h1) hm ht hfz
    have HB1 : Hid _ := hB1
    have HE : Hid (decide (f.deep ≤ 6) = false) := e6
    clear hd e6 hb1 hB1 hm ht hfz he
    go_wp2_with fail
    refine c2.mono ?_
    rintro r w2 ⟨rfl, _, hk2⟩
    clear c2
    have HK : Hid (Below w.heap.size w w2) := HB1.out.trans (hk2.below HB1.out.size (fun k hk => by unfold But; omega))
    clear hk2
    go_wp2
    go_ret
    exact ⟨by rw [HE.out]; rfl, HK.out⟩

end Go.Proofs.YtdeojcodbojmoaaGreatDoor
