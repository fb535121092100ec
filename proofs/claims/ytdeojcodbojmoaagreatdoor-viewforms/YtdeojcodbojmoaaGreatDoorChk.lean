/- pars.check and pars.May of what the reader reads; pars.Parse of any text: whether it is a filter's. -/
import Derived.Test.YtdeojcodbojmoaaGreatDoorOwn
import Derived.Test.YtdeojcodbojmoaaGreatDoorMay
namespace Go.Proofs.YtdeojcodbojmoaaGreatDoor
open Go.RowKit
set_option maxRecDepth 100000
set_option linter.unusedVariables false

/-- What check tells of a filter, looking so deep. -/
def CkV (f : Ps.Ft) (d : Nat) (ev : Value) : Prop := (f.deep ≤ d ∧ ev = .nilIface) ∨ (d < f.deep ∧ ∃ m T v, ev = .iface T v ∧ Fau m (.iface T v))

theorem own_any (f : Ps.Ft) (hf : f.wf) (w : World) (o k l h : Int) (t : ByteArray) (x : Option Addr) (n : Nat) (hl : Lies Any w f o k l h t x n) :
    Calls Tryz.prog 84 #[.agg #[.int .i64 o, .int .i64 k, .int .i64 l, .int .i64 h, .string t, .slice x n n]] w fun r w' => r = .returned .nilIface ∧ Below w.heap.size w w' := by
  cases f with
  | leaf op key lo hi tag =>
    obtain ⟨rfl, rfl, rfl, rfl, rfl, rfl, rfl⟩ := hl
    rcases hf with ⟨rfl, rfl, rfl, rfl, rfl⟩ | ⟨rfl, h1, h2, h3, h4, rfl, rfl⟩ | ⟨rfl, h1, h2, h3, h4, h5, rfl⟩ | ⟨rfl, rfl, rfl, rfl, l, rfl, h6⟩
    · exact own_zero 1 none 0 w (.inl rfl)
    · exact own_eq _ _ w h1 h2 h3 h4
    · exact own_range _ _ _ w h1 h2 h3 h4 h5
    · exact own_tag l w h6
  | non f =>
    obtain ⟨rfl, rfl, rfl, rfl, rfl, b, o1, k1, l1, h1, t1, x1, n1, rfl, rfl, _⟩ := hl
    exact own_zero 7 _ 1 w (.inr (.inr (.inr rfl)))
  | two op f g =>
    obtain ⟨rfl, rfl, rfl, rfl, rfl, b, o1, k1, l1, h1, t1, x1, n1, o2, k2, l2, h2, t2, x2, n2, rfl, rfl, _⟩ := hl
    obtain ⟨h5, _⟩ := hf
    rcases h5 with rfl | rfl
    · exact own_zero 5 _ 2 w (.inr (.inl rfl))
    · exact own_zero 6 _ 2 w (.inr (.inr (.inl rfl)))

/-- How many parts an operation has. -/
def argsN (o : Int) : Int := if o = 5 ∨ o = 6 then 2 else if o = 7 then 1 else 0
set_option maxHeartbeats 1000000 in
theorem many_any (o n : Int) (w : World) (h : (o = 5 ∨ o = 6) ∧ n = 2 ∨ o = 7 ∧ n = 1 ∨ (o = 1 ∨ o = 2 ∨ o = 3 ∨ o = 4) ∧ n = 0) : Calls Tryz.prog 86 #[.int .i64 o] w fun r w' => r = .returned (.int .i64 n) ∧ w' = w := by
  rcases h with ⟨rfl | rfl, rfl⟩ | ⟨rfl, rfl⟩ | ⟨rfl | rfl | rfl | rfl, rfl⟩
  all_goals (
    go_enter Tryz.func86, Tryz.ntmps86
    go_wp2
    go_ret
    exact ⟨rfl, rfl⟩)

set_option maxHeartbeats 1000000 in
theorem chk_zero (o k l h : Int) (t : ByteArray) (x : Option Addr) (n : Nat) (w : World) :
    Calls Tryz.prog 70 #[.agg #[.int .i64 o, .int .i64 k, .int .i64 l, .int .i64 h, .string t, .slice x n n], .int .i64 0] w fun r w' => (∃ v, r = .returned (.iface 129 v) ∧ Fau 0 (.iface 129 v)) ∧ Below w.heap.size w w' := by
  go_enter Tryz.func70, Tryz.ntmps70
  go_wp2
  go_ret
  exact ⟨⟨_, rfl, _, rfl⟩, (Below.refl _ w).alloc (Nat.le_refl _) _⟩

set_option maxHeartbeats 2000000 in
theorem chk_leaf (o k l h : Int) (t : ByteArray) (d : Nat) (w : World) (hd : d ≤ 6) (hd0 : d ≠ 0) (ho : o = 1 ∨ o = 2 ∨ o = 3 ∨ o = 4)
    (c : ∀ w, Calls Tryz.prog 84 #[.agg #[.int .i64 o, .int .i64 k, .int .i64 l, .int .i64 h, .string t, .slice none 0 0]] w fun r w' => r = .returned .nilIface ∧ Below w.heap.size w w') :
    Calls Tryz.prog 70 #[.agg #[.int .i64 o, .int .i64 k, .int .i64 l, .int .i64 h, .string t, .slice none 0 0], .int .i64 d] w fun r w' => r = .returned .nilIface ∧ Below w.heap.size w w' := by
  have b0 : ((d : Int) == 0) = false := by simpa using hd0
  have cm := fun w => many_any o 0 w (.inr (.inr ⟨ho, rfl⟩))
  clear ho
  go_enter Tryz.func70, Tryz.ntmps70
  go_wp2_with fail
  refine (c _).mono ?_
  rintro r w1 ⟨rfl, hb1⟩
  clear c
  have hs1 : w.heap.size < w1.heap.size := by have := hb1.size; simp at this; omega
  have d1 : ∀ i, w1.cell? ⟨w.heap.size, i, none⟩ = (#[.int .i64 o, .int .i64 k, .int .i64 l, .int .i64 h, .string t, .slice none 0 0] : Array Value)[i]? := fun i => by rw [hb1.cell (p := ⟨w.heap.size, i, none⟩) (by simp)]; simp
  have HB : Hid (Below w.heap.size w w1) := ((Below.refl _ w).alloc (Nat.le_refl _) _).trans (hb1.mono (by simp))
  clear hb1
  have d0 : w1.cell? ⟨w.heap.size, 0, none⟩ = some (.int .i64 o) := d1 0
  have d5 : w1.cell? ⟨w.heap.size, 5, none⟩ = some (.slice none 0 0) := d1 5
  clear d1
  go_wp2_with fail
  go_quiet (first | (go_at_call 86; refine Calls.quiet_of_same (cm _)))
  go_wp2_with fail
  refine wp_loop_rounds 1 ?_
  rw [rounds_succ]
  go_wp2
  go_ret
  exact ⟨rfl, bel_dN HB.out _⟩

set_option maxHeartbeats 4000000 in
theorem chk_non (b : Nat) (d : Nat) (w : World) (hd : d ≤ 5) (o1 k1 l1 h1 : Int) (t1 : ByteArray) (x1 : Option Addr) (n1 : Nat) (s : Six w b 0 o1 k1 l1 h1 t1 x1 n1) (Z : Value → Prop)
    (hZ : ∀ ev, Z ev → ev = .nilIface ∨ ∃ T v, ev = .iface T v)
    (c : ∀ w', Below w.heap.size w w' → Calls Tryz.prog 70 #[.agg #[.int .i64 o1, .int .i64 k1, .int .i64 l1, .int .i64 h1, .string t1, .slice x1 n1 n1], .int .i64 d] w' fun r w'' => (∃ ev, r = .returned ev ∧ Z ev) ∧ Below w'.heap.size w' w'') :
    Calls Tryz.prog 70 #[.agg #[.int .i64 7, .int .i64 0, .int .i64 0, .int .i64 0, .string ⟨#[]⟩, .slice (some ⟨b, 0, none⟩) 1 1], .int .i64 ((d : Int) + 1)] w fun r w' => ((r = .returned .nilIface ∧ Z .nilIface) ∨ ∃ T v p, r = .returned (.iface 124 (.agg #[.string p, .iface T v])) ∧ Z (.iface T v)) ∧ Below w.heap.size w w' := by
  have b0 : (((d : Int) + 1) == 0) = false := by simp; omega
  have e1 : IntKind.i64.wrap ((d : Int) + 1 - 1) = (d : Int) := by simp only [IntKind.wrap, IntKind.signed, IntKind.bits]; simp; omega
  have hb0 := s.lt
  have cm := fun w => many_any 7 1 w (.inr (.inl ⟨rfl, rfl⟩))
  go_enter Tryz.func70, Tryz.ntmps70
  go_wp2_with fail
  refine (own_zero 7 _ 1 _ (.inr (.inr (.inr rfl)))).mono ?_
  rintro r w1 ⟨rfl, hb1⟩
  have hs1 : w.heap.size < w1.heap.size := by have := hb1.size; simp at this; omega
  have d1 : ∀ i, w1.cell? ⟨w.heap.size, i, none⟩ = (#[.int .i64 7, .int .i64 0, .int .i64 0, .int .i64 0, .string ⟨#[]⟩, .slice (some ⟨b, 0, none⟩) 1 1] : Array Value)[i]? := fun i => by rw [hb1.cell (p := ⟨w.heap.size, i, none⟩) (by simp)]; simp
  have hBw : Below w.heap.size w w1 := ((Below.refl _ w).alloc (Nat.le_refl _) _).trans (hb1.mono (by simp))
  have HB : Hid (Below w.heap.size w w1) := hBw
  obtain ⟨y0, y1, y2, y3, y4, y5⟩ := s.of (fun i => hBw.cell (p := ⟨b, i, none⟩) hb0)
  simp only [Nat.zero_add] at y0 y1 y2 y3 y4 y5
  clear hb1 hBw
  have d0 : w1.cell? ⟨w.heap.size, 0, none⟩ = some (.int .i64 7) := d1 0
  have d5 : w1.cell? ⟨w.heap.size, 5, none⟩ = some (.slice (some ⟨b, 0, none⟩) 1 1) := d1 5
  clear d1
  go_wp2_with fail
  go_quiet (first | (go_at_call 86; refine Calls.quiet_of_same (cm _)))
  go_wp2_with fail
  obtain ⟨U, hU⟩ : ∃ U, U = w1.drewN nq := ⟨_, rfl⟩
  rw [← hU]
  have HU : Hid (Below w.heap.size w U) := by rw [hU]; exact bel_dN HB.out _
  have u0 : U.cell? ⟨b, 0, none⟩ = some (.int .i64 o1) := by rw [hU]; exact y0
  have u1 : U.cell? ⟨b, 1, none⟩ = some (.int .i64 k1) := by rw [hU]; exact y1
  have u2 : U.cell? ⟨b, 2, none⟩ = some (.int .i64 l1) := by rw [hU]; exact y2
  have u3 : U.cell? ⟨b, 3, none⟩ = some (.int .i64 h1) := by rw [hU]; exact y3
  have u4 : U.cell? ⟨b, 4, none⟩ = some (.string t1) := by rw [hU]; exact y4
  have u5 : U.cell? ⟨b, 5, none⟩ = some (.slice x1 n1 n1) := by rw [hU]; exact y5
  have c2 := c (U.alloc (.cells #[.int .i64 o1, .int .i64 k1, .int .i64 l1, .int .i64 h1, .string t1, .slice x1 n1 n1] 53)) (HU.out.alloc HU.out.size _)
  clear hU y0 y1 y2 y3 y4 y5 d0 d5 HB c
  refine wp_loop_rounds 2 ?_
  rw [rounds_succ]
  go_wp2_with fail
  refine c2.mono ?_
  rintro r w2 ⟨⟨ev, rfl, hz⟩, hb2⟩
  have HB2 : Hid (Below w.heap.size w w2) := (HU.out.alloc HU.out.size _).trans (hb2.mono (by have := HU.out.size; simp; omega))
  clear c2 hb2 u0 u1 u2 u3 u4 u5 HU
  rcases hZ ev hz with rfl | ⟨T, v, rfl⟩
  · have HZ : Hid (Z .nilIface) := hz
    clear hz hZ
    go_wp2_with fail
    rw [rounds_succ]
    go_wp2
    go_ret
    exact ⟨.inl ⟨rfl, HZ.out⟩, HB2.out⟩
  · have HZ : Hid (Z (.iface T v)) := hz
    clear hz hZ
    go_wp2_with fail
    refine (within_one _ _ _ _).mono ?_
    rintro r w3 ⟨rfl, rfl⟩
    go_wp2
    go_ret
    exact ⟨.inr ⟨T, v, _, rfl, HZ.out⟩, HB2.out⟩

end Go.Proofs.YtdeojcodbojmoaaGreatDoor
