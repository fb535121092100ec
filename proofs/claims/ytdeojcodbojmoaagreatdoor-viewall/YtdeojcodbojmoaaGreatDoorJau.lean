/- pars.checkOwn of what the reader reads. -/
/- pars.check and pars.May of what the reader reads; pars.Parse of any text: whether it is a filter's. -/
/- pars.check of a filter, whole; pars.May of one. -/
/- pars.Parse of any text: whether it is a filter's. -/
/- pars.Parse of any text: whether it is a filter's. -/
/- pars.Parse of any text: whether it is a filter's. -/
/- pars.Parse of any text: whether it is a filter's. -/
/- pars.Parse of any text: whether it is a filter's. -/
/- pars.Parse of any text: whether it is a filter's. -/
/- pars.Parse of any text: whether it is a filter's. -/
/- seen.May of any row of heads; view.May of any view. -/
/- A view whose slices may be empty anyhow: held against others; may it be? -/
/- The document's reader of words, where what stands behind @ does not fit. -/
/- The document's reader of words, where what stands behind @ does not fit. -/
/- The document's reader of words, where what stands behind @ does not fit. -/
/- The document's reader of words, where what stands behind @ does not fit. -/
/- The document's reader of words, where what stands behind @ does not fit. -/
/- The document's reader of words, where what stands behind @ does not fit. -/
/- The document's reader of words, where what stands behind @ does not fit. -/
/- The document's reader of words, where what binds most does not fit. -/
/- The document's reader of words, where what binds most does not fit. -/
import Derived.Test.YtdeojcodbojmoaaGreatDoorJar
import Derived.Test.YtdeojcodbojmoaaGreatDoorJap
import Derived.Test.YtdeojcodbojmoaaGreatDoorJal
import Derived.Test.YtdeojcodbojmoaaGreatDoorJas
import Derived.Test.YtdeojcodbojmoaaGreatDoorJao
import Derived.BigQuiet
import Derived.Deep.QuietTactic
import Derived.BigRegion
namespace Go.Proofs.YtdeojcodbojmoaaGreatDoor
open Go.RowKit
set_option maxRecDepth 100000
set_option linter.unusedVariables false

set_option maxHeartbeats 1000000 in
theorem number101 (n a b : Int) (w : World) (h1 : a ≤ n) (h2 : n ≤ b) : Calls Tryz.prog 101 #[.int .i64 n, .int .i64 a, .int .i64 b] w fun r w' => r = .returned .nilIface ∧ w' = w := by
  have d1 : decide (n < a) = false := decide_eq_false (by omega)
  have d2 : decide (b < n) = false := decide_eq_false (by omega)
  clear h1 h2
  go_enter Tryz.func101, Tryz.ntmps101
  go_wp2
  go_ret
  exact ⟨rfl, rfl⟩

set_option maxHeartbeats 2000000 in
theorem numbers93 (o k a b : Int) (w : World) (hk0 : 0 ≤ k) (hk : k < 4) (ha : 0 ≤ a) (hab : a ≤ b) (hb : b ≤ 99) : Calls Tryz.prog 93 #[.agg #[.int .i64 o, .int .i64 k, .int .i64 a, .int .i64 b, .string ⟨#[]⟩, .slice none 0 0]] w fun r w' => r = .returned .nilIface ∧ Below w.heap.size w w' := by
  have c1 := fun w => number101 k 0 3 w hk0 (by omega)
  have c2 := fun w => number101 a 0 99 w ha (by omega)
  have c3 := fun w => number101 b a 99 w hab hb
  clear hk0 hk ha hab hb
  go_enter Tryz.func93, Tryz.ntmps93
  go_wp2_with fail
  refine (c1 _).mono ?_
  rintro r w1 ⟨rfl, rfl⟩
  go_wp2_with fail
  refine (c2 _).mono ?_
  rintro r w1 ⟨rfl, rfl⟩
  go_wp2_with fail
  refine (c3 _).mono ?_
  rintro r w1 ⟨rfl, rfl⟩
  go_wp2_with fail
  refine (within_none _ _).mono ?_
  rintro r w1 ⟨rfl, rfl⟩
  go_wp2
  go_ret
  exact ⟨rfl, (Below.refl _ w).alloc (Nat.le_refl _) _⟩

set_option maxHeartbeats 4000000 in
theorem own_zero (o : Int) (x : Option Addr) (n : Nat) (w : World) (ho : o = 1 ∨ o = 5 ∨ o = 6 ∨ o = 7) : Calls Tryz.prog 84 #[.agg #[.int .i64 o, .int .i64 0, .int .i64 0, .int .i64 0, .string ⟨#[]⟩, .slice x n n]] w fun r w' => r = .returned .nilIface ∧ Below w.heap.size w w' := by
  rcases ho with rfl | rfl | rfl | rfl
  all_goals (
    go_enter Tryz.func84, Tryz.ntmps84
    go_wp2
    go_ret
    exact ⟨rfl, (Below.refl _ _).alloc (Nat.le_refl _) _⟩)

set_option maxHeartbeats 4000000 in
theorem own_eq (k a : Int) (w : World) (hk0 : 0 ≤ k) (hk : k < 4) (ha : 0 ≤ a) (hb : a ≤ 99) : Calls Tryz.prog 84 #[.agg #[.int .i64 2, .int .i64 k, .int .i64 a, .int .i64 a, .string ⟨#[]⟩, .slice none 0 0]] w fun r w' => r = .returned .nilIface ∧ Below w.heap.size w w' := by
  have c := numbers93 2 k a a (w.alloc (.cells #[.int .i64 2, .int .i64 k, .int .i64 a, .int .i64 a, .string ⟨#[]⟩, .slice none 0 0] 53)) hk0 hk ha (Int.le_refl _) hb
  clear hk0 hk ha hb
  go_enter Tryz.func84, Tryz.ntmps84
  go_wp2_with fail
  refine c.mono ?_
  rintro r w1 ⟨rfl, hb1⟩
  clear c
  have z : ∀ i, w1.cell? ⟨w.heap.size, i, none⟩ = (#[.int .i64 2, .int .i64 k, .int .i64 a, .int .i64 a, .string ⟨#[]⟩, .slice none 0 0] : Array Value)[i]? := fun i => by rw [hb1.cell (p := ⟨w.heap.size, i, none⟩) (by simp)]; simp
  have f : ∀ i, w1.frozen? ⟨w.heap.size, i, none⟩ = false := fun i => by rw [hb1.frozen (p := ⟨w.heap.size, i, none⟩) (by simp)]; simp
  have HB : Hid (Below w.heap.size w w1) := ((Below.refl _ w).alloc (Nat.le_refl _) _).trans (hb1.mono (by simp))
  clear hb1
  go_wp2
  go_ret
  exact ⟨rfl, ((HB.out.setCell (Nat.le_refl _) _).setCell (Nat.le_refl _) _).setCell (Nat.le_refl _) _⟩

set_option maxHeartbeats 4000000 in
theorem own_range (k a b : Int) (w : World) (hk0 : 0 ≤ k) (hk : k < 4) (ha : 0 ≤ a) (hab : a ≤ b) (hb : b ≤ 99) : Calls Tryz.prog 84 #[.agg #[.int .i64 3, .int .i64 k, .int .i64 a, .int .i64 b, .string ⟨#[]⟩, .slice none 0 0]] w fun r w' => r = .returned .nilIface ∧ Below w.heap.size w w' := by
  have c := numbers93 3 k a b (w.alloc (.cells #[.int .i64 3, .int .i64 k, .int .i64 a, .int .i64 b, .string ⟨#[]⟩, .slice none 0 0] 53)) hk0 hk ha hab hb
  clear hk0 hk ha hb hab
  go_enter Tryz.func84, Tryz.ntmps84
  go_wp2_with fail
  refine c.mono ?_
  rintro r w1 ⟨rfl, hb1⟩
  clear c
  have z : ∀ i, w1.cell? ⟨w.heap.size, i, none⟩ = (#[.int .i64 3, .int .i64 k, .int .i64 a, .int .i64 b, .string ⟨#[]⟩, .slice none 0 0] : Array Value)[i]? := fun i => by rw [hb1.cell (p := ⟨w.heap.size, i, none⟩) (by simp)]; simp
  have f : ∀ i, w1.frozen? ⟨w.heap.size, i, none⟩ = false := fun i => by rw [hb1.frozen (p := ⟨w.heap.size, i, none⟩) (by simp)]; simp
  have HB : Hid (Below w.heap.size w w1) := ((Below.refl _ w).alloc (Nat.le_refl _) _).trans (hb1.mono (by simp))
  clear hb1
  go_wp2
  go_ret
  exact ⟨rfl, ((HB.out.setCell (Nat.le_refl _) _).setCell (Nat.le_refl _) _).setCell (Nat.le_refl _) _⟩

set_option maxHeartbeats 4000000 in
theorem tag94 (l : List UInt8) (w : World) (ht : Ps.Tag l) : Calls Tryz.prog 94 #[.string ⟨l.toArray⟩] w fun r w' => r = .returned .nilIface ∧ w' = w := by
  obtain ⟨h1, h6, hl⟩ := ht
  have e1 : (⟨l.toArray⟩ : ByteArray).toList.isEmpty = false := by
    rw [ByteArray.toList_eq]
    cases l with
    | nil => simp at h1
    | cons c r => rfl
  have hs : (⟨l.toArray⟩ : ByteArray).size = l.length := by simp [ByteArray.size]
  have hget : ∀ (i : Nat) (h : i < (⟨l.toArray⟩ : ByteArray).size), 97 ≤ ((⟨l.toArray⟩ : ByteArray)[i].toNat : Int) ∧ ((⟨l.toArray⟩ : ByteArray)[i].toNat : Int) ≤ 122 := fun i h => by
    have := hl i (by omega)
    simpa [ByteArray.getElem_eq_getElem_data] using this
  have hs6 : (⟨l.toArray⟩ : ByteArray).size ≤ 6 := by omega
  clear hl hs h1 h6
  generalize (⟨l.toArray⟩ : ByteArray) = s at *
  have d6 : decide ((6 : Int) < (s.size : Int)) = false := decide_eq_false (by omega)
  have d7 : decide (6 < s.size) = false := decide_eq_false (by omega)
  go_enter Tryz.func94, Tryz.ntmps94
  go_wp2_with fail
  go_loopw [15] (fun i wr => ∃ k : Nat, k ≤ s.size ∧ i = .int .i64 k ∧ wr = w) (fun i _ => s.size - (intOf i).toNat)
  case atStart => exact ⟨0, Nat.zero_le _, rfl, rfl⟩
  case round =>
    obtain ⟨k, hk, rfl, rfl⟩ := hrel
    by_cases hlt : k < s.size
    · obtain ⟨g1, g2⟩ := hget k hlt
      clear hget
      go_wp2
      go_roundw
      case rel => exact ⟨k + 1, by omega, by go_num, by trivial⟩
      case measure => simp [intOf]; omega
    · clear hget
      go_wp2
      go_ret
      exact ⟨rfl, rfl⟩

set_option maxHeartbeats 4000000 in
theorem own_tag (l : List UInt8) (w : World) (ht : Ps.Tag l) : Calls Tryz.prog 84 #[.agg #[.int .i64 4, .int .i64 0, .int .i64 0, .int .i64 0, .string ⟨l.toArray⟩, .slice none 0 0]] w fun r w' => r = .returned .nilIface ∧ Below w.heap.size w w' := by
  have c := tag94 l (w.alloc (.cells #[.int .i64 4, .int .i64 0, .int .i64 0, .int .i64 0, .string ⟨l.toArray⟩, .slice none 0 0] 53)) ht
  clear ht
  go_enter Tryz.func84, Tryz.ntmps84
  go_wp2_with fail
  refine c.mono ?_
  rintro r w1 ⟨rfl, rfl⟩
  clear c
  go_wp2
  go_ret
  exact ⟨rfl, (Below.refl _ w).alloc (Nat.le_refl _) _⟩

end Go.Proofs.YtdeojcodbojmoaaGreatDoor
namespace Go.Proofs.YtdeojcodbojmoaaGreatDoor
open Go.RowKit
set_option maxRecDepth 100000
set_option linter.unusedVariables false

/-- What check tells of a filter, looking so deep. -/
def CkV (f : Ps.Ft) (d : Nat) (ev : Value) : Prop := (f.deep ≤ d ∧ ev = .nilIface) ∨ (d < f.deep ∧ ∃ m T v, ev = .iface T v ∧ Fau m (.iface T v))

theorem own_any (f : Ps.Ft) (hf : f.wf) (w : World) (o k l h : Int) (t : ByteArray) (x : Option Addr) (n : Nat) (hl : Lies Any w f o k l h t x n) :
    Calls Tryz.prog 84 #[.agg #[.int .i64 o, .int .i64 k, .int .i64 l, .int .i64 h, .string t, .slice x n n]] w fun r w' => r = .returned .nilIface ∧ Below w.heap.size w w' := by
  cases f with
  | leaf op key lo hi tag =>
    obtain ⟨rfl, rfl, rfl, rfl, rfl, rfl, rfl⟩ := hl
    rcases hf with ⟨rfl, rfl, rfl, rfl, rfl⟩ | ⟨rfl, h1, h2, h3, h4, rfl, rfl⟩ | ⟨rfl, h1, h2, h3, h4, h5, rfl⟩ | ⟨rfl, rfl, rfl, rfl, l, rfl, h6⟩
    · exact own_zero 1 none 0 w (.inl rfl)
    · exact own_eq _ _ w h1 h2 h3 h4
    · exact own_range _ _ _ w h1 h2 h3 h4 h5
    · exact own_tag l w h6
  | non f =>
    obtain ⟨rfl, rfl, rfl, rfl, rfl, b, o1, k1, l1, h1, t1, x1, n1, rfl, rfl, _⟩ := hl
    exact own_zero 7 _ 1 w (.inr (.inr (.inr rfl)))
  | two op f g =>
    obtain ⟨rfl, rfl, rfl, rfl, rfl, b, o1, k1, l1, h1, t1, x1, n1, o2, k2, l2, h2, t2, x2, n2, rfl, rfl, _⟩ := hl
    obtain ⟨h5, _⟩ := hf
    rcases h5 with rfl | rfl
    · exact own_zero 5 _ 2 w (.inr (.inl rfl))
    · exact own_zero 6 _ 2 w (.inr (.inr (.inl rfl)))

/-- How many parts an operation has. -/
def argsN (o : Int) : Int := if o = 5 ∨ o = 6 then 2 else if o = 7 then 1 else 0
set_option maxHeartbeats 1000000 in
theorem many_any (o n : Int) (w : World) (h : (o = 5 ∨ o = 6) ∧ n = 2 ∨ o = 7 ∧ n = 1 ∨ (o = 1 ∨ o = 2 ∨ o = 3 ∨ o = 4) ∧ n = 0) : Calls Tryz.prog 86 #[.int .i64 o] w fun r w' => r = .returned (.int .i64 n) ∧ w' = w := by
  rcases h with ⟨rfl | rfl, rfl⟩ | ⟨rfl, rfl⟩ | ⟨rfl | rfl | rfl | rfl, rfl⟩
  all_goals (
    go_enter Tryz.func86, Tryz.ntmps86
    go_wp2
    go_ret
    exact ⟨rfl, rfl⟩)

set_option maxHeartbeats 1000000 in
theorem chk_zero (o k l h : Int) (t : ByteArray) (x : Option Addr) (n : Nat) (w : World) :
    Calls Tryz.prog 70 #[.agg #[.int .i64 o, .int .i64 k, .int .i64 l, .int .i64 h, .string t, .slice x n n], .int .i64 0] w fun r w' => (∃ v, r = .returned (.iface 129 v) ∧ Fau 0 (.iface 129 v)) ∧ Below w.heap.size w w' := by
  go_enter Tryz.func70, Tryz.ntmps70
  go_wp2
  go_ret
  exact ⟨⟨_, rfl, _, rfl⟩, (Below.refl _ w).alloc (Nat.le_refl _) _⟩

set_option maxHeartbeats 2000000 in
theorem chk_leaf (o k l h : Int) (t : ByteArray) (d : Nat) (w : World) (hd : d ≤ 6) (hd0 : d ≠ 0) (ho : o = 1 ∨ o = 2 ∨ o = 3 ∨ o = 4)
    (c : ∀ w, Calls Tryz.prog 84 #[.agg #[.int .i64 o, .int .i64 k, .int .i64 l, .int .i64 h, .string t, .slice none 0 0]] w fun r w' => r = .returned .nilIface ∧ Below w.heap.size w w') :
    Calls Tryz.prog 70 #[.agg #[.int .i64 o, .int .i64 k, .int .i64 l, .int .i64 h, .string t, .slice none 0 0], .int .i64 d] w fun r w' => r = .returned .nilIface ∧ Below w.heap.size w w' := by
  have b0 : ((d : Int) == 0) = false := by simpa using hd0
  have cm := fun w => many_any o 0 w (.inr (.inr ⟨ho, rfl⟩))
  clear ho
  go_enter Tryz.func70, Tryz.ntmps70
  go_wp2_with fail
  refine (c _).mono ?_
  rintro r w1 ⟨rfl, hb1⟩
  clear c
  have hs1 : w.heap.size < w1.heap.size := by have := hb1.size; simp at this; omega
  have d1 : ∀ i, w1.cell? ⟨w.heap.size, i, none⟩ = (#[.int .i64 o, .int .i64 k, .int .i64 l, .int .i64 h, .string t, .slice none 0 0] : Array Value)[i]? := fun i => by rw [hb1.cell (p := ⟨w.heap.size, i, none⟩) (by simp)]; simp
  have HB : Hid (Below w.heap.size w w1) := ((Below.refl _ w).alloc (Nat.le_refl _) _).trans (hb1.mono (by simp))
  clear hb1
  have d0 : w1.cell? ⟨w.heap.size, 0, none⟩ = some (.int .i64 o) := d1 0
  have d5 : w1.cell? ⟨w.heap.size, 5, none⟩ = some (.slice none 0 0) := d1 5
  clear d1
  go_wp2_with fail
  go_quiet (first | (go_at_call 86; refine Calls.quiet_of_same (cm _)))
  go_wp2_with fail
  refine wp_loop_rounds 1 ?_
  rw [rounds_succ]
  go_wp2
  go_ret
  exact ⟨rfl, bel_dN HB.out _⟩

set_option maxHeartbeats 4000000 in
theorem chk_non (b : Nat) (d : Nat) (w : World) (hd : d ≤ 5) (o1 k1 l1 h1 : Int) (t1 : ByteArray) (x1 : Option Addr) (n1 : Nat) (s : Six w b 0 o1 k1 l1 h1 t1 x1 n1) (Z : Value → Prop)
    (hZ : ∀ ev, Z ev → ev = .nilIface ∨ ∃ T v, ev = .iface T v)
    (c : ∀ w', Below w.heap.size w w' → Calls Tryz.prog 70 #[.agg #[.int .i64 o1, .int .i64 k1, .int .i64 l1, .int .i64 h1, .string t1, .slice x1 n1 n1], .int .i64 d] w' fun r w'' => (∃ ev, r = .returned ev ∧ Z ev) ∧ Below w'.heap.size w' w'') :
    Calls Tryz.prog 70 #[.agg #[.int .i64 7, .int .i64 0, .int .i64 0, .int .i64 0, .string ⟨#[]⟩, .slice (some ⟨b, 0, none⟩) 1 1], .int .i64 ((d : Int) + 1)] w fun r w' => ((r = .returned .nilIface ∧ Z .nilIface) ∨ ∃ T v p, r = .returned (.iface 124 (.agg #[.string p, .iface T v])) ∧ Z (.iface T v)) ∧ Below w.heap.size w w' := by
  have b0 : (((d : Int) + 1) == 0) = false := by simp; omega
  have e1 : IntKind.i64.wrap ((d : Int) + 1 - 1) = (d : Int) := by simp only [IntKind.wrap, IntKind.signed, IntKind.bits]; simp; omega
  have hb0 := s.lt
  have cm := fun w => many_any 7 1 w (.inr (.inl ⟨rfl, rfl⟩))
  go_enter Tryz.func70, Tryz.ntmps70
  go_wp2_with fail
  refine (own_zero 7 _ 1 _ (.inr (.inr (.inr rfl)))).mono ?_
  rintro r w1 ⟨rfl, hb1⟩
  have hs1 : w.heap.size < w1.heap.size := by have := hb1.size; simp at this; omega
  have d1 : ∀ i, w1.cell? ⟨w.heap.size, i, none⟩ = (#[.int .i64 7, .int .i64 0, .int .i64 0, .int .i64 0, .string ⟨#[]⟩, .slice (some ⟨b, 0, none⟩) 1 1] : Array Value)[i]? := fun i => by rw [hb1.cell (p := ⟨w.heap.size, i, none⟩) (by simp)]; simp
  have hBw : Below w.heap.size w w1 := ((Below.refl _ w).alloc (Nat.le_refl _) _).trans (hb1.mono (by simp))
  have HB : Hid (Below w.heap.size w w1) := hBw
  obtain ⟨y0, y1, y2, y3, y4, y5⟩ := s.of (fun i => hBw.cell (p := ⟨b, i, none⟩) hb0)
  simp only [Nat.zero_add] at y0 y1 y2 y3 y4 y5
  clear hb1 hBw
  have d0 : w1.cell? ⟨w.heap.size, 0, none⟩ = some (.int .i64 7) := d1 0
  have d5 : w1.cell? ⟨w.heap.size, 5, none⟩ = some (.slice (some ⟨b, 0, none⟩) 1 1) := d1 5
  clear d1
  go_wp2_with fail
  go_quiet (first | (go_at_call 86; refine Calls.quiet_of_same (cm _)))
  go_wp2_with fail
  obtain ⟨U, hU⟩ : ∃ U, U = w1.drewN nq := ⟨_, rfl⟩
  rw [← hU]
  have HU : Hid (Below w.heap.size w U) := by rw [hU]; exact bel_dN HB.out _
  have u0 : U.cell? ⟨b, 0, none⟩ = some (.int .i64 o1) := by rw [hU]; exact y0
  have u1 : U.cell? ⟨b, 1, none⟩ = some (.int .i64 k1) := by rw [hU]; exact y1
  have u2 : U.cell? ⟨b, 2, none⟩ = some (.int .i64 l1) := by rw [hU]; exact y2
  have u3 : U.cell? ⟨b, 3, none⟩ = some (.int .i64 h1) := by rw [hU]; exact y3
  have u4 : U.cell? ⟨b, 4, none⟩ = some (.string t1) := by rw [hU]; exact y4
  have u5 : U.cell? ⟨b, 5, none⟩ = some (.slice x1 n1 n1) := by rw [hU]; exact y5
  have c2 := c (U.alloc (.cells #[.int .i64 o1, .int .i64 k1, .int .i64 l1, .int .i64 h1, .string t1, .slice x1 n1 n1] 53)) (HU.out.alloc HU.out.size _)
  clear hU y0 y1 y2 y3 y4 y5 d0 d5 HB c
  refine wp_loop_rounds 2 ?_
  rw [rounds_succ]
  go_wp2_with fail
  refine c2.mono ?_
  rintro r w2 ⟨⟨ev, rfl, hz⟩, hb2⟩
  have HB2 : Hid (Below w.heap.size w w2) := (HU.out.alloc HU.out.size _).trans (hb2.mono (by have := HU.out.size; simp; omega))
  clear c2 hb2 u0 u1 u2 u3 u4 u5 HU
  rcases hZ ev hz with rfl | ⟨T, v, rfl⟩
  · have HZ : Hid (Z .nilIface) := hz
    clear hz hZ
    go_wp2_with fail
    rw [rounds_succ]
    go_wp2
    go_ret
    exact ⟨.inl ⟨rfl, HZ.out⟩, HB2.out⟩
  · have HZ : Hid (Z (.iface T v)) := hz
    clear hz hZ
    go_wp2_with fail
    refine (within_one _ _ _ _).mono ?_
    rintro r w3 ⟨rfl, rfl⟩
    go_wp2
    go_ret
    exact ⟨.inr ⟨T, v, _, rfl, HZ.out⟩, HB2.out⟩

end Go.Proofs.YtdeojcodbojmoaaGreatDoor
namespace Go.Proofs.YtdeojcodbojmoaaGreatDoor
open Go.RowKit
set_option maxRecDepth 100000
set_option linter.unusedVariables false

set_option maxHeartbeats 8000000 in
theorem chk_two (op : Int) (hop : op = 5 ∨ op = 6) (b : Nat) (d : Nat) (w : World) (hd : d ≤ 5) (o1 k1 l1 h1 : Int) (t1 : ByteArray) (x1 : Option Addr) (n1 : Nat) (s : Six w b 0 o1 k1 l1 h1 t1 x1 n1) (o2 k2 l2 h2 : Int) (t2 : ByteArray) (x2 : Option Addr) (n2 : Nat) (s' : Six w b 6 o2 k2 l2 h2 t2 x2 n2) (Z Z' : Value → Prop)
    (hZ : ∀ ev, Z ev → ev = .nilIface ∨ ∃ T v, ev = .iface T v) (hZ' : ∀ ev, Z' ev → ev = .nilIface ∨ ∃ T v, ev = .iface T v)
    (c : ∀ w', Below w.heap.size w w' → Calls Tryz.prog 70 #[.agg #[.int .i64 o1, .int .i64 k1, .int .i64 l1, .int .i64 h1, .string t1, .slice x1 n1 n1], .int .i64 d] w' fun r w'' => (∃ ev, r = .returned ev ∧ Z ev) ∧ Below w'.heap.size w' w'')
    (c' : ∀ w', Below w.heap.size w w' → Calls Tryz.prog 70 #[.agg #[.int .i64 o2, .int .i64 k2, .int .i64 l2, .int .i64 h2, .string t2, .slice x2 n2 n2], .int .i64 d] w' fun r w'' => (∃ ev, r = .returned ev ∧ Z' ev) ∧ Below w'.heap.size w' w'') :
    Calls Tryz.prog 70 #[.agg #[.int .i64 op, .int .i64 0, .int .i64 0, .int .i64 0, .string ⟨#[]⟩, .slice (some ⟨b, 0, none⟩) 2 2], .int .i64 ((d : Int) + 1)] w fun r w' => ((r = .returned .nilIface ∧ Z .nilIface ∧ Z' .nilIface) ∨ (∃ T v p, r = .returned (.iface 124 (.agg #[.string p, .iface T v])) ∧ Z (.iface T v)) ∨ ∃ T v p, r = .returned (.iface 124 (.agg #[.string p, .iface T v])) ∧ Z .nilIface ∧ Z' (.iface T v)) ∧ Below w.heap.size w w' := by
  have b0 : (((d : Int) + 1) == 0) = false := by simp; omega
  have e1 : IntKind.i64.wrap ((d : Int) + 1 - 1) = (d : Int) := by simp only [IntKind.wrap, IntKind.signed, IntKind.bits]; simp; omega
  have hb0 := s.lt
  have cm := fun w => many_any op 2 w (.inl ⟨hop, rfl⟩)
  have co := fun w => own_zero op (some ⟨b, 0, none⟩) 2 w (by rcases hop with h | h <;> simp [h])
  clear hop
  go_enter Tryz.func70, Tryz.ntmps70
  go_wp2_with fail
  refine (co _).mono ?_
  rintro r w1 ⟨rfl, hb1⟩
  have hs1 : w.heap.size < w1.heap.size := by have := hb1.size; simp at this; omega
  have d1 : ∀ i, w1.cell? ⟨w.heap.size, i, none⟩ = (#[.int .i64 op, .int .i64 0, .int .i64 0, .int .i64 0, .string ⟨#[]⟩, .slice (some ⟨b, 0, none⟩) 2 2] : Array Value)[i]? := fun i => by rw [hb1.cell (p := ⟨w.heap.size, i, none⟩) (by simp)]; simp
  have hBw : Below w.heap.size w w1 := ((Below.refl _ w).alloc (Nat.le_refl _) _).trans (hb1.mono (by simp))
  have HB : Hid (Below w.heap.size w w1) := hBw
  clear hb1 hBw co
  have d0 : w1.cell? ⟨w.heap.size, 0, none⟩ = some (.int .i64 op) := d1 0
  have d5 : w1.cell? ⟨w.heap.size, 5, none⟩ = some (.slice (some ⟨b, 0, none⟩) 2 2) := d1 5
  clear d1
  go_wp2_with fail
  go_quiet (first | (go_at_call 86; refine Calls.quiet_of_same (cm _)))
  go_wp2_with fail
  obtain ⟨U, hU⟩ : ∃ U, U = w1.drewN nq := ⟨_, rfl⟩
  rw [← hU]
  have hBU : Below w.heap.size w U := by rw [hU]; exact bel_dN HB.out _
  have HU : Hid (Below w.heap.size w U) := hBU
  obtain ⟨u0, u1, u2, u3, u4, u5⟩ := s.of (fun i => hBU.cell (p := ⟨b, i, none⟩) hb0)
  simp only [Nat.zero_add] at u0 u1 u2 u3 u4 u5
  have c2 := c (U.alloc (.cells #[.int .i64 o1, .int .i64 k1, .int .i64 l1, .int .i64 h1, .string t1, .slice x1 n1 n1] 53)) (HU.out.alloc HU.out.size _)
  clear hU d0 d5 HB c hBU
  refine wp_loop_rounds 3 ?_
  rw [rounds_succ]
  go_wp2_with fail
  refine c2.mono ?_
  rintro r w2 ⟨⟨ev, rfl, hz⟩, hb2⟩
  have hB2 : Below w.heap.size w w2 := (HU.out.alloc HU.out.size _).trans (hb2.mono (by have := HU.out.size; simp; omega))
  have HB2 : Hid (Below w.heap.size w w2) := hB2
  clear c2 hb2 u0 u1 u2 u3 u4 u5 HU
  rcases hZ ev hz with rfl | ⟨T, v, rfl⟩
  · have HZ : Hid (Z .nilIface) := hz
    obtain ⟨u0, u1, u2, u3, u4, u5⟩ := s'.of (fun i => hB2.cell (p := ⟨b, i, none⟩) hb0)
    simp only [Nat.reduceAdd] at u0 u1 u2 u3 u4 u5
    have c3 := c' (w2.alloc (.cells #[.int .i64 o2, .int .i64 k2, .int .i64 l2, .int .i64 h2, .string t2, .slice x2 n2 n2] 53)) (hB2.alloc hB2.size _)
    clear hz hZ c' hB2
    go_wp2_with fail
    rw [rounds_succ]
    go_wp2_with fail
    refine c3.mono ?_
    rintro r w3 ⟨⟨ev, rfl, hz⟩, hb3⟩
    have HB3 : Hid (Below w.heap.size w w3) := (HB2.out.alloc HB2.out.size _).trans (hb3.mono (by have := HB2.out.size; simp; omega))
    clear c3 hb3 u0 u1 u2 u3 u4 u5 HB2
    rcases hZ' ev hz with rfl | ⟨T, v, rfl⟩
    · have HZ' : Hid (Z' .nilIface) := hz
      clear hz hZ'
      go_wp2_with fail
      rw [rounds_succ]
      go_wp2
      go_ret
      exact ⟨.inl ⟨rfl, HZ.out, HZ'.out⟩, HB3.out⟩
    · have HZ' : Hid (Z' (.iface T v)) := hz
      clear hz hZ'
      go_wp2_with fail
      refine (within_one _ _ _ _).mono ?_
      rintro r w4 ⟨rfl, rfl⟩
      go_wp2
      go_ret
      exact ⟨.inr (.inr ⟨T, v, _, rfl, HZ.out, HZ'.out⟩), HB3.out⟩
  · have HZ : Hid (Z (.iface T v)) := hz
    clear hz hZ hZ' c' hB2
    go_wp2_with fail
    refine (within_one _ _ _ _).mono ?_
    rintro r w3 ⟨rfl, rfl⟩
    go_wp2
    go_ret
    exact ⟨.inr (.inl ⟨T, v, _, rfl, HZ.out⟩), HB2.out⟩

theorem ckv_form {f : Ps.Ft} {d : Nat} : ∀ ev, CkV f d ev → ev = .nilIface ∨ ∃ T v, ev = .iface T v := fun ev h => by
  rcases h with ⟨_, rfl⟩ | ⟨_, m, T, v, rfl, _⟩
  · exact .inl rfl
  · exact .inr ⟨T, v, rfl⟩

/-- pars.check. -/
theorem chk70 (f : Ps.Ft) (hf : f.wf) : ∀ (d : Nat) (w : World) (o k l h : Int) (t : ByteArray) (x : Option Addr) (n : Nat), d ≤ 6 → Lies Any w f o k l h t x n →
    Calls Tryz.prog 70 #[.agg #[.int .i64 o, .int .i64 k, .int .i64 l, .int .i64 h, .string t, .slice x n n], .int .i64 d] w fun r w' => (∃ ev, r = .returned ev ∧ CkV f d ev) ∧ Below w.heap.size w w' := by
  have z : ∀ (f : Ps.Ft) (w : World) (o k l h : Int) (t : ByteArray) (x : Option Addr) (n : Nat), Calls Tryz.prog 70 #[.agg #[.int .i64 o, .int .i64 k, .int .i64 l, .int .i64 h, .string t, .slice x n n], .int .i64 ((0 : Nat) : Int)] w fun r w' => (∃ ev, r = .returned ev ∧ CkV f 0 ev) ∧ Below w.heap.size w w' := by
    intro f w o k l h t x n
    refine (chk_zero o k l h t x n w).mono ?_
    rintro r w' ⟨⟨v, rfl, hv⟩, hb⟩
    exact ⟨⟨_, rfl, .inr ⟨f.deep_pos, 0, _, _, rfl, hv⟩⟩, hb⟩
  induction f with
  | leaf op key lo hi tag =>
    intro d w o k l h t x n hd hl
    cases d with
    | zero => exact z _ w o k l h t x n
    | succ d =>
      have hl' := hl
      obtain ⟨rfl, rfl, rfl, rfl, rfl, rfl, rfl⟩ := hl
      refine (chk_leaf _ _ _ _ _ (d + 1) w hd (by omega) ?_ (fun w => own_any _ hf w _ _ _ _ _ _ _ ⟨rfl, rfl, rfl, rfl, rfl, rfl, rfl⟩)).mono ?_
      · rcases hf with h | h | h | h
        · exact .inl h.1
        · exact .inr (.inl h.1)
        · exact .inr (.inr (.inl h.1))
        · exact .inr (.inr (.inr h.1))
      · rintro r w' ⟨rfl, hb⟩
        exact ⟨⟨_, rfl, .inl ⟨by simp [Ps.Ft.deep], rfl⟩⟩, hb⟩
  | non f ih =>
    intro d w o k l h t x n hd hl
    cases d with
    | zero => exact z _ w o k l h t x n
    | succ d =>
      obtain ⟨rfl, rfl, rfl, rfl, rfl, b, o1, k1, l1, h1, t1, x1, n1, rfl, rfl, _, s, y⟩ := hl
      refine (chk_non b d w (by omega) o1 k1 l1 h1 t1 x1 n1 s (CkV f d) ckv_form (fun w' hb => ih hf d w' o1 k1 l1 h1 t1 x1 n1 (by omega) (y.below hb))).mono ?_
      rintro r w' ⟨hr, hb⟩
      refine ⟨?_, hb⟩
      rcases hr with ⟨rfl, hz⟩ | ⟨T, v, p, rfl, hz⟩
      · rcases hz with ⟨hd', _⟩ | ⟨_, m, T, v, e, _⟩
        · exact ⟨_, rfl, .inl ⟨by simp only [Ps.Ft.deep]; omega, rfl⟩⟩
        · cases e
      · rcases hz with ⟨_, e⟩ | ⟨hd', m, T', v', e, hm⟩
        · cases e
        · cases e
          exact ⟨_, rfl, .inr ⟨by simp only [Ps.Ft.deep]; omega, m + 1, _, _, rfl, p, _, rfl, hm⟩⟩
  | two op f g ihf ihg =>
    intro d w o k l h t x n hd hl
    cases d with
    | zero => exact z _ w o k l h t x n
    | succ d =>
      obtain ⟨rfl, rfl, rfl, rfl, rfl, b, o1, k1, l1, h1, t1, x1, n1, o2, k2, l2, h2, t2, x2, n2, rfl, rfl, _, s, y, s', y'⟩ := hl
      obtain ⟨hop, hf1, hf2⟩ := hf
      refine (chk_two _ hop b d w (by omega) o1 k1 l1 h1 t1 x1 n1 s o2 k2 l2 h2 t2 x2 n2 s' (CkV f d) (CkV g d) ckv_form ckv_form (fun w' hb => ihf hf1 d w' o1 k1 l1 h1 t1 x1 n1 (by omega) (y.below hb)) (fun w' hb => ihg hf2 d w' o2 k2 l2 h2 t2 x2 n2 (by omega) (y'.below hb))).mono ?_
      rintro r w' ⟨hr, hb⟩
      refine ⟨?_, hb⟩
      rcases hr with ⟨rfl, hz, hz'⟩ | ⟨T, v, p, rfl, hz⟩ | ⟨T, v, p, rfl, _, hz⟩
      · rcases hz with ⟨hd', _⟩ | ⟨_, m, T, v, e, _⟩
        · rcases hz' with ⟨hd'', _⟩ | ⟨_, m, T, v, e, _⟩
          · exact ⟨_, rfl, .inl ⟨by simp only [Ps.Ft.deep]; omega, rfl⟩⟩
          · cases e
        · cases e
      · rcases hz with ⟨_, e⟩ | ⟨hd', m, T', v', e, hm⟩
        · cases e
        · cases e
          exact ⟨_, rfl, .inr ⟨by simp only [Ps.Ft.deep]; omega, m + 1, _, _, rfl, p, _, rfl, hm⟩⟩
      · rcases hz with ⟨_, e⟩ | ⟨hd', m, T', v', e, hm⟩
        · cases e
        · cases e
          exact ⟨_, rfl, .inr ⟨by simp only [Ps.Ft.deep]; omega, m + 1, _, _, rfl, p, _, rfl, hm⟩⟩

theorem ErrT.below {w w' : World} {B : Nat} (h : ErrT w) (hb : Below B w w') (h1 : 1 < B) : ErrT w' := (hb.cell (p := ⟨1, 0, none⟩) h1).trans h
theorem ErrT.lt {w : World} (h : ErrT w) : 1 < w.heap.size := World.block_lt_of_cell? w ⟨1, 0, none⟩ h

set_option maxHeartbeats 2000000 in
/-- pars.May of what is read: only its depth counts. -/
theorem mayP54 (f : Ps.Ft) (hf : f.wf) (w : World) (o k l h : Int) (t : ByteArray) (x : Option Addr) (n : Nat) (he : ErrT w) (hl : Lies Any w f o k l h t x n) :
    Calls Tryz.prog 54 #[.agg #[.int .i64 o, .int .i64 k, .int .i64 l, .int .i64 h, .string t, .slice x n n]] w fun r w' => r = .returned (.bool (decide (f.deep ≤ 6))) ∧ Below w.heap.size w w' := by
  have h1 := he.lt
  have hBU : Below w.heap.size w ((w.alloc (.cells #[.int .i64 o, .int .i64 k, .int .i64 l, .int .i64 h, .string t, .slice x n n] 53)).alloc (.cells #[.string ⟨#[]⟩] 129)) := ((Below.refl _ w).alloc (Nat.le_refl _) _).alloc (by simp) _
  have c := chk70 f hf 6 ((w.alloc (.cells #[.int .i64 o, .int .i64 k, .int .i64 l, .int .i64 h, .string t, .slice x n n] 53)).alloc (.cells #[.string ⟨#[]⟩] 129)) o k l h t x n (by omega) (hl.below hBU)
  have HBU : Hid _ := hBU
  clear hl hf hBU
  go_enter Tryz.func54, Tryz.ntmps54
  go_wp2_with fail
  refine c.mono ?_
  rintro r w1 ⟨⟨ev, rfl, hz⟩, hb1⟩
  clear c
  have hB1 : Below w.heap.size w w1 := HBU.out.trans (hb1.mono (by simp <;> omega))
  rcases hz with ⟨hd, rfl⟩ | ⟨hd, m, T, v, rfl, hm⟩
  · have e6 : decide (f.deep ≤ 6) = true := decide_eq_true hd
    have HB1 : Hid _ := hB1
    have HE : Hid (decide (f.deep ≤ 6) = true) := e6
    clear hd e6 hb1 hB1
    go_wp2_with fail
    refine (as39 _ _).mono ?_
    rintro r w2 ⟨rfl, rfl⟩
    go_wp2
    go_ret
    exact ⟨by rw [HE.out]; rfl, HB1.out⟩
  · have e6 : decide (f.deep ≤ 6) = false := decide_eq_false (by omega)
    have ht : w1.cell? ⟨w.heap.size + 1, 0, none⟩ = some (.string ⟨#[]⟩) := by rw [hb1.cell (p := ⟨w.heap.size + 1, 0, none⟩) (by simp)]; simp
    have hfz : w1.frozen? ⟨w.heap.size + 1, 0, none⟩ = false := by rw [hb1.frozen (p := ⟨w.heap.size + 1, 0, none⟩) (by simp)]; simp
    have c2 := as39_129 m (.iface T v) (w.heap.size + 1) _ w1 (he.below hB1 h1) hm ht hfz
    have HB1 : Hid _ := hB1
    have HE : Hid (decide (f.deep ≤ 6) = false) := e6
    clear hd e6 hb1 hB1 hm ht hfz he
    go_wp2_with fail
    refine c2.mono ?_
    rintro r w2 ⟨rfl, _, hk2⟩
    clear c2
    have HK : Hid (Below w.heap.size w w2) := HB1.out.trans (hk2.below HB1.out.size (fun k hk => by unfold But; omega))
    clear hk2
    go_wp2
    go_ret
    exact ⟨by rw [HE.out]; rfl, HK.out⟩

end Go.Proofs.YtdeojcodbojmoaaGreatDoor
namespace Go.Proofs.YtdeojcodbojmoaaGreatDoor
open Go.RowKit
set_option maxRecDepth 100000
set_option linter.unusedVariables false

/-- A reader of the words of a text. -/
theorem rdr_of_own {w : World} {base : Nat} {v : Value} {ws : List Wd.Word} (h : w.ownsRow base 120 4 v ws.length (cellsOf ws)) (hl : ws.length ≤ 60) (e : Int) : (∃ ao cap, v = .slice ao ws.length cap) ∧ Rdr (w.alloc (.cells #[v, .int .i64 e] 92)) w.heap.size ws 0 e := by
  obtain ⟨_, h⟩ := h
  rcases h with ⟨e1, h0⟩ | ⟨g, c, cur, e1, hg, hh, h1, h2, h3, h4⟩
  · subst e1
    rw [h0]
    refine ⟨⟨none, 0, rfl⟩, by simp, by omega, hl, none, 0, 0, by simp [h0], by omega, by unfold maxLen; omega, by simp, fun h => by omega⟩
  · subst e1
    have hgl : g < w.heap.size := by
      rcases Nat.lt_or_ge g w.heap.size with hlt | hge
      · exact hlt
      · rw [Array.getElem?_eq_none hge] at hh; cases hh
    refine ⟨⟨_, _, rfl⟩, by simp, by omega, hl, some ⟨g, 0, none⟩, c, g, by simp, by omega, h2, by simp, fun _ => ⟨rfl, hgl, fun j u hu => ?_⟩⟩
    rw [World.cell?_alloc_past _ _ _ (hn := hgl)]
    have hj : j < ws.length * 4 := by
      have := (List.getElem?_eq_some_iff.1 hu).1
      rw [← h4, List.length_take] at this
      omega
    have e2 : w.cell? ⟨g, j, none⟩ = cur[j]? := by simp [World.cell?, hh]
    rw [e2, ← Array.getElem?_toList]
    rw [← h4, List.getElem?_take, if_pos hj] at hu
    exact hu

/-- What parse tells. -/
def PS (ok : Bool) (w : World) (r : Ending) (w' : World) : Prop := ∃ o k l h t x n ev, r = .returned (.tuple #[.agg #[.int .i64 o, .int .i64 k, .int .i64 l, .int .i64 h, .string t, .slice x n n], ev]) ∧ ((ok = true ∧ ev = .nilIface) ∨ (ok = false ∧ ∃ m T v, ev = .iface T v ∧ Mis m (.iface T v))) ∧ Below w.heap.size w w'

theorem ps_no {w w' : World} {o k l h : Int} {t : ByteArray} {x : Option Addr} {n m : Nat} {T : TypeId} {v : Value} (hm : Mis m (.iface T v)) (hb : Below w.heap.size w w') : PS false w (.returned (.tuple #[.agg #[.int .i64 o, .int .i64 k, .int .i64 l, .int .i64 h, .string t, .slice x n n], .iface T v])) w' := ⟨o, k, l, h, t, x, n, _, rfl, .inr ⟨rfl, m, T, v, rfl, hm⟩, hb⟩
theorem ps_yes {w w' : World} {o k l h : Int} {t : ByteArray} {x : Option Addr} {n : Nat} (hb : Below w.heap.size w w') : PS true w (.returned (.tuple #[.agg #[.int .i64 o, .int .i64 k, .int .i64 l, .int .i64 h, .string t, .slice x n n], .nilIface])) w' := ⟨o, k, l, h, t, x, n, _, rfl, .inl ⟨rfl, rfl⟩, hb⟩

theorem At.bel {w W : World} (h : At w w.heap.size W) : Below w.heap.size w W := h.k.below (Nat.le_refl _) (fun k hk => by unfold But; omega)
theorem At.up {w W W' : World} {rb : Nat} (h : At w w.heap.size W) (hr : w.heap.size < rb) (k : Kept (But rb) W W') : At w w.heap.size W' :=
  h.step' (P := But rb) (by unfold But; omega) (fun k hk _ => by unfold But; omega) k
theorem bel_six {w W : World} (h : Below w.heap.size w W) {u0 u1 u2 u3 u4 u5 : Value} : Below w.heap.size w ((((((W.setCell ⟨w.heap.size, 0, none⟩ u0).setCell ⟨w.heap.size, 1, none⟩ u1).setCell ⟨w.heap.size, 2, none⟩ u2).setCell ⟨w.heap.size, 3, none⟩ u3).setCell ⟨w.heap.size, 4, none⟩ u4).setCell ⟨w.heap.size, 5, none⟩ u5) :=
  (((((h.setCell (Nat.le_refl _) _).setCell (Nat.le_refl _) _).setCell (Nat.le_refl _) _).setCell (Nat.le_refl _) _).setCell (Nat.le_refl _) _).setCell (Nat.le_refl _) _

set_option maxHeartbeats 2000000 in
theorem prs_no (s : ByteArray) (w : World) (hs : s.size ≤ maxLen) (ha : (Wd.all s.data.toList).2.2 = false) : Calls Tryz.prog 38 #[.string s] w (PS false w) := by
  have c1 := all_any s (w.alloc (.cells #[.int .i64 0, .int .i64 0, .int .i64 0, .int .i64 0, .string ⟨#[]⟩, .slice none 0 0] 53)) hs
  have hat0 : At w w.heap.size (w.alloc (.cells #[.int .i64 0, .int .i64 0, .int .i64 0, .int .i64 0, .string ⟨#[]⟩, .slice none 0 0] 53)) := At.start w _
  rw [ha] at c1
  clear ha
  generalize (Wd.all s.data.toList).2.1 = at_ at *
  generalize (Wd.all s.data.toList).1 = ws at *
  go_enter Tryz.func38, Tryz.ntmps38
  go_wp2_with fail
  refine c1.mono ?_
  rintro r w1 ⟨v, rfl, hown, hb1⟩
  clear c1
  have HA1 : Hid (At w w.heap.size w1) := hat0.step' (P := Any) trivial (fun _ _ _ => trivial) (Kept.of_below hb1)
  clear hb1 hown hat0
  go_wp2_with fail
  refine (within_one _ _ _ _).mono ?_
  rintro r w2 ⟨rfl, rfl⟩
  have HA := HA1
  have z1 := HA.out.z
  have f1 := HA.out.f
  have s1 := HA.out.s
  go_wp2
  refine bodyPost_ret (v := .tuple #[.agg #[.int .i64 0, .int .i64 0, .int .i64 0, .int .i64 0, .string ⟨#[]⟩, .slice none 0 0], .iface 124 (.agg #[.string ⟨#[119, 111, 114, 100, 115]⟩, .iface 69 (.agg #[.int .i64 at_])])]) (by simp [results, Tryz.results38, go_sem, z1]) rfl (ps_no ((mis_zero _).one _) (bel_six HA.out.bel))

end Go.Proofs.YtdeojcodbojmoaaGreatDoor
namespace Go.Proofs.YtdeojcodbojmoaaGreatDoor
open Go.RowKit
set_option maxRecDepth 100000
set_option linter.unusedVariables false

set_option maxHeartbeats 2000000 in
theorem prs_bad (s : ByteArray) (w : World) (hs : s.size ≤ maxLen) (ha : (Wd.all s.data.toList).2.2 = true) (hx : Ps.P (Wd.all s.data.toList).1 .or 0 = none) : Calls Tryz.prog 38 #[.string s] w (PS false w) := by
  have c1 := all_any s (w.alloc (.cells #[.int .i64 0, .int .i64 0, .int .i64 0, .int .i64 0, .string ⟨#[]⟩, .slice none 0 0] 53)) hs
  have hat0 : At w w.heap.size (w.alloc (.cells #[.int .i64 0, .int .i64 0, .int .i64 0, .int .i64 0, .string ⟨#[]⟩, .slice none 0 0] 53)) := At.start w _
  rw [ha] at c1
  have hgd := Ps.all_good s.data.toList
  clear ha
  generalize (Wd.all s.data.toList).2.1 = at_ at *
  generalize (Wd.all s.data.toList).1 = ws at *
  go_enter Tryz.func38, Tryz.ntmps38
  go_wp2_with fail
  refine c1.mono ?_
  rintro r w1 ⟨v, rfl, hown, hb1⟩
  clear c1
  have HA1 : Hid (At w w.heap.size w1) := hat0.step' (P := Any) trivial (fun _ _ _ => trivial) (Kept.of_below hb1)
  obtain ⟨⟨ao, cap, rfl⟩, hr⟩ := rdr_of_own hown hgd.1 (s.size : Int)
  have c2 := (reads_all w1.heap.size ws s.size hgd ws.length 0 (Nat.zero_le _) (by omega)).2.2 _ hr
  have sw1 : w.heap.size < w1.heap.size := HA1.out.s
  have HA2 : Hid (At w w.heap.size (w1.alloc (.cells #[.slice ao ws.length cap, .int .i64 s.size] 92))) := HA1.out.alloc _
  unfold maxLen at hs
  clear hb1 hown hat0 hr HA1
  generalize hlw : ws.length = len at *
  rw [hx] at c2
  clear hx
  go_wp2_with fail
  refine c2.mono ?_
  rintro r w2 ⟨o1, k1, l1, h1, t1, x1, n1, m, T, v, rfl, hm, hk2⟩
  clear c2
  have HA3 : Hid (At w w.heap.size w2) := HA2.out.up sw1 hk2
  have HM : Hid (Mis m (.iface T v)) := hm
  obtain ⟨U, hU⟩ : ∃ U, U = w2.alloc (.cells #[.int .i64 o1, .int .i64 k1, .int .i64 l1, .int .i64 h1, .string t1, .slice x1 n1 n1] 53) := ⟨_, rfl⟩
  have HU : Hid (U = w2.alloc (.cells #[.int .i64 o1, .int .i64 k1, .int .i64 l1, .int .i64 h1, .string t1, .slice x1 n1 n1] 53)) := hU
  have HA : Hid (At w w.heap.size U) := by rw [hU]; exact HA3.out.alloc _
  have y : ∀ i, U.cell? ⟨w2.heap.size, i, none⟩ = (#[.int .i64 o1, .int .i64 k1, .int .i64 l1, .int .i64 h1, .string t1, .slice x1 n1 n1] : Array Value)[i]? := fun i => by rw [hU]; simp
  have sU : w2.heap.size < U.heap.size := by rw [hU]; simp
  have s2 : w.heap.size < w2.heap.size := HA3.out.s
  have ne1 : w.heap.size ≠ w2.heap.size := by omega
  have ne2 : w2.heap.size ≠ w.heap.size := by omega
  clear hm hk2 HA2 hgd hU HA3
  simp only []
  iterate 15 (first | go_skip | go_guarded | go_step | go_upon | go_simp)
  rw [← HU.out]
  have z1 := HA.out.z
  have f1 := HA.out.f
  have s1 := HA.out.s
  clear HU
  go_wp2
  refine bodyPost_ret (v := .tuple #[.agg #[.int .i64 o1, .int .i64 k1, .int .i64 l1, .int .i64 h1, .string t1, .slice x1 n1 n1], .iface T v]) (by simp [results, Tryz.results38, go_sem, z1]) rfl (ps_no HM.out (bel_six HA.out.bel))

end Go.Proofs.YtdeojcodbojmoaaGreatDoor
namespace Go.Proofs.YtdeojcodbojmoaaGreatDoor
open Go.RowKit
set_option maxRecDepth 100000
set_option linter.unusedVariables false

set_option maxHeartbeats 4000000 in
theorem prs_rest (s : ByteArray) (w : World) (f : Ps.Ft) (q : Nat) (hs : s.size ≤ maxLen) (ha : (Wd.all s.data.toList).2.2 = true) (hx : Ps.P (Wd.all s.data.toList).1 .or 0 = some (f, q)) (hq : ¬ q = (Wd.all s.data.toList).1.length) : Calls Tryz.prog 38 #[.string s] w (PS false w) := by
  have c1 := all_any s (w.alloc (.cells #[.int .i64 0, .int .i64 0, .int .i64 0, .int .i64 0, .string ⟨#[]⟩, .slice none 0 0] 53)) hs
  have hat0 : At w w.heap.size (w.alloc (.cells #[.int .i64 0, .int .i64 0, .int .i64 0, .int .i64 0, .string ⟨#[]⟩, .slice none 0 0] 53)) := At.start w _
  rw [ha] at c1
  have hgd := Ps.all_good s.data.toList
  clear ha
  generalize (Wd.all s.data.toList).2.1 = at_ at *
  generalize (Wd.all s.data.toList).1 = ws at *
  go_enter Tryz.func38, Tryz.ntmps38
  go_wp2_with fail
  refine c1.mono ?_
  rintro r w1 ⟨v, rfl, hown, hb1⟩
  clear c1
  have HA1 : Hid (At w w.heap.size w1) := hat0.step' (P := Any) trivial (fun _ _ _ => trivial) (Kept.of_below hb1)
  obtain ⟨⟨ao, cap, rfl⟩, hr⟩ := rdr_of_own hown hgd.1 (s.size : Int)
  have c2 := (reads_all w1.heap.size ws s.size hgd ws.length 0 (Nat.zero_le _) (by omega)).2.2 _ hr
  have sw1 : w.heap.size < w1.heap.size := HA1.out.s
  have HA2 : Hid (At w w.heap.size (w1.alloc (.cells #[.slice ao ws.length cap, .int .i64 s.size] 92))) := HA1.out.alloc _
  unfold maxLen at hs
  clear hb1 hown hat0 hr HA1
  generalize hlw : ws.length = len at *
  rw [hx] at c2
  obtain ⟨wf1, wd1, wq1, _⟩ := Ps.P_some hgd hx (s := 0) rfl (Nat.zero_le _)
  clear hx
  go_wp2_with fail
  refine c2.mono ?_
  rintro r w2 ⟨o1, k1, l1, h1, t1, x1, n1, rfl, hl2, hr2, hk2⟩
  clear c2
  have HA3 : Hid (At w w.heap.size w2) := HA2.out.up sw1 hk2
  have s2 : w1.heap.size < w2.heap.size := by have := hk2.size; simp at this; omega
  have lyU : Lies Any (w2.alloc (.cells #[.int .i64 o1, .int .i64 k1, .int .i64 l1, .int .i64 h1, .string t1, .slice x1 n1 n1] 53)) f o1 k1 l1 h1 t1 x1 n1 := Lies.mono (fun _ _ _ => trivial) f (Lies.kept (P := Past (w1.alloc (.cells #[.slice ao len cap, .int .i64 s.size] 92)).heap.size) ((Kept.refl _ w2).alloc _) f hl2)
  have HA4 : Hid (At w w.heap.size (w2.alloc (.cells #[.int .i64 o1, .int .i64 k1, .int .i64 l1, .int .i64 h1, .string t1, .slice x1 n1 n1] 53))) := HA3.out.alloc _
  have hrU : Rdr (w2.alloc (.cells #[.int .i64 o1, .int .i64 k1, .int .i64 l1, .int .i64 h1, .string t1, .slice x1 n1 n1] 53)) w1.heap.size ws q s.size := hr2.alloc _
  obtain ⟨hrf, _, _, ao2, cap2, wb2, r0, _, _, r1, _⟩ := hr2
  clear hk2 hl2 HA2 HA3
  have hq2 : decide ((0 : Int) < ((ws.length - q : Nat) : Int)) = true := decide_eq_true (by omega)
  have hq3 : decide (0 < ws.length - q) = true := decide_eq_true (by omega)
  rw [hlw] at hq2 hq3 r0
  have c3 := misfit53 w1.heap.size ws q s.size _ hrU
  clear hq hrU lyU hgd
  go_wp2_with fail
  refine c3.mono ?_
  rintro r w3 ⟨yy, rfl, hb3⟩
  clear c3
  have HA : Hid (At w w.heap.size w3) := HA4.out.step' (P := Any) trivial (fun _ _ _ => trivial) (Kept.of_below hb3)
  have y3 : ∀ i, w3.cell? ⟨w2.heap.size, i, none⟩ = (#[.int .i64 o1, .int .i64 k1, .int .i64 l1, .int .i64 h1, .string t1, .slice x1 n1 n1] : Array Value)[i]? := fun i => by rw [hb3.cell (p := ⟨w2.heap.size, i, none⟩) (by simp)]; simp
  have s3 : w2.heap.size < w3.heap.size := by have := hb3.size; simp at this; omega
  clear r0 r1 hb3 HA4 hrf
  have ne1 : w.heap.size ≠ w2.heap.size := by omega
  have ne2 : w2.heap.size ≠ w.heap.size := by omega
  have z1 := HA.out.z
  have f1 := HA.out.f
  have s1 := HA.out.s
  go_wp2
  refine bodyPost_ret (v := .tuple #[.agg #[.int .i64 o1, .int .i64 k1, .int .i64 l1, .int .i64 h1, .string t1, .slice x1 n1 n1], .iface 69 (.agg #[.int .i64 yy])]) (by simp [results, Tryz.results38, go_sem, z1]) rfl (ps_no (mis_zero yy) (bel_six HA.out.bel))

end Go.Proofs.YtdeojcodbojmoaaGreatDoor
namespace Go.Proofs.YtdeojcodbojmoaaGreatDoor
open Go.RowKit
set_option maxRecDepth 100000
set_option linter.unusedVariables false

set_option maxHeartbeats 4000000 in
theorem prs_deep (s : ByteArray) (w : World) (f : Ps.Ft) (he : ErrT w) (hs : s.size ≤ maxLen) (ha : (Wd.all s.data.toList).2.2 = true) (hx : Ps.P (Wd.all s.data.toList).1 .or 0 = some (f, (Wd.all s.data.toList).1.length)) (hd : 6 < f.deep) : Calls Tryz.prog 38 #[.string s] w (PS false w) := by
  have c1 := all_any s (w.alloc (.cells #[.int .i64 0, .int .i64 0, .int .i64 0, .int .i64 0, .string ⟨#[]⟩, .slice none 0 0] 53)) hs
  have hat0 : At w w.heap.size (w.alloc (.cells #[.int .i64 0, .int .i64 0, .int .i64 0, .int .i64 0, .string ⟨#[]⟩, .slice none 0 0] 53)) := At.start w _
  rw [ha] at c1
  have hgd := Ps.all_good s.data.toList
  clear ha
  generalize (Wd.all s.data.toList).2.1 = at_ at *
  generalize (Wd.all s.data.toList).1 = ws at *
  go_enter Tryz.func38, Tryz.ntmps38
  go_wp2_with fail
  refine c1.mono ?_
  rintro r w1 ⟨v, rfl, hown, hb1⟩
  clear c1
  have HA1 : Hid (At w w.heap.size w1) := hat0.step' (P := Any) trivial (fun _ _ _ => trivial) (Kept.of_below hb1)
  obtain ⟨⟨ao, cap, rfl⟩, hr⟩ := rdr_of_own hown hgd.1 (s.size : Int)
  have c2 := (reads_all w1.heap.size ws s.size hgd ws.length 0 (Nat.zero_le _) (by omega)).2.2 _ hr
  have sw1 : w.heap.size < w1.heap.size := HA1.out.s
  have HA2 : Hid (At w w.heap.size (w1.alloc (.cells #[.slice ao ws.length cap, .int .i64 s.size] 92))) := HA1.out.alloc _
  unfold maxLen at hs
  clear hb1 hown hat0 hr HA1
  obtain ⟨q, hq⟩ : ∃ q, q = ws.length := ⟨_, rfl⟩
  rw [← hq] at hx
  generalize hlw : ws.length = len at *
  rw [hx] at c2
  obtain ⟨wf1, wd1, wq1, _⟩ := Ps.P_some hgd hx (s := 0) rfl (Nat.zero_le _)
  clear hx
  go_wp2_with fail
  refine c2.mono ?_
  rintro r w2 ⟨o1, k1, l1, h1, t1, x1, n1, rfl, hl2, hr2, hk2⟩
  clear c2
  have HA3 : Hid (At w w.heap.size w2) := HA2.out.up sw1 hk2
  have s2 : w1.heap.size < w2.heap.size := by have := hk2.size; simp at this; omega
  have lyU : Lies Any (w2.alloc (.cells #[.int .i64 o1, .int .i64 k1, .int .i64 l1, .int .i64 h1, .string t1, .slice x1 n1 n1] 53)) f o1 k1 l1 h1 t1 x1 n1 := Lies.mono (fun _ _ _ => trivial) f (Lies.kept (P := Past (w1.alloc (.cells #[.slice ao len cap, .int .i64 s.size] 92)).heap.size) ((Kept.refl _ w2).alloc _) f hl2)
  have HA4 : Hid (At w w.heap.size (w2.alloc (.cells #[.int .i64 o1, .int .i64 k1, .int .i64 l1, .int .i64 h1, .string t1, .slice x1 n1 n1] 53))) := HA3.out.alloc _
  have hrU : Rdr (w2.alloc (.cells #[.int .i64 o1, .int .i64 k1, .int .i64 l1, .int .i64 h1, .string t1, .slice x1 n1 n1] 53)) w1.heap.size ws q s.size := hr2.alloc _
  obtain ⟨hrf, _, _, ao2, cap2, wb2, r0, _, _, r1, _⟩ := hr2
  clear hk2 hl2 HA2 HA3
  have e0 : ws.length - q = 0 := by omega
  rw [e0] at r0
  have c3 := mayP54 f wf1 (w2.alloc (.cells #[.int .i64 o1, .int .i64 k1, .int .i64 l1, .int .i64 h1, .string t1, .slice x1 n1 n1] 53)) o1 k1 l1 h1 t1 x1 n1 (he.below HA4.out.bel he.lt) lyU
  have e6 : decide (f.deep ≤ 6) = false := by simpa using hd
  rw [e6] at c3
  clear hq hrU lyU hgd e0 e6 hd
  go_wp2_with fail
  refine c3.mono ?_
  rintro r w3 ⟨rfl, hb3⟩
  clear c3
  have HA : Hid (At w w.heap.size w3) := HA4.out.step' (P := Any) trivial (fun _ _ _ => trivial) (Kept.of_below hb3)
  have y3 : ∀ i, w3.cell? ⟨w2.heap.size, i, none⟩ = (#[.int .i64 o1, .int .i64 k1, .int .i64 l1, .int .i64 h1, .string t1, .slice x1 n1 n1] : Array Value)[i]? := fun i => by rw [hb3.cell (p := ⟨w2.heap.size, i, none⟩) (by simp)]; simp
  have r3 : w3.cell? ⟨w1.heap.size, 1, none⟩ = some (.int .i64 s.size) := by rw [hb3.cell (p := ⟨w1.heap.size, 1, none⟩) (by simp; omega), World.cell?_alloc_past _ _ _ (hn := s2)]; exact r1
  have s3 : w2.heap.size < w3.heap.size := by have := hb3.size; simp at this; omega
  clear r0 r1 hb3 HA4 hrf
  have ne1 : w.heap.size ≠ w2.heap.size := by omega
  have ne2 : w2.heap.size ≠ w.heap.size := by omega
  go_wp2_with fail
  refine (within_one _ _ _ _).mono ?_
  rintro r w4 ⟨rfl, rfl⟩
  have z1 := HA.out.z
  have f1 := HA.out.f
  have s1 := HA.out.s
  go_wp2
  refine bodyPost_ret (v := .tuple #[.agg #[.int .i64 o1, .int .i64 k1, .int .i64 l1, .int .i64 h1, .string t1, .slice x1 n1 n1], .iface 124 (.agg #[.string ⟨#[100, 101, 112, 116, 104]⟩, .iface 69 (.agg #[.int .i64 s.size])])]) (by simp [results, Tryz.results38, go_sem, z1]) rfl (ps_no ((mis_zero _).one _) (bel_six HA.out.bel))

end Go.Proofs.YtdeojcodbojmoaaGreatDoor
namespace Go.Proofs.YtdeojcodbojmoaaGreatDoor
open Go.RowKit
set_option maxRecDepth 100000
set_option linter.unusedVariables false

set_option maxHeartbeats 4000000 in
theorem prs_yes (s : ByteArray) (w : World) (f : Ps.Ft) (he : ErrT w) (hs : s.size ≤ maxLen) (ha : (Wd.all s.data.toList).2.2 = true) (hx : Ps.P (Wd.all s.data.toList).1 .or 0 = some (f, (Wd.all s.data.toList).1.length)) (hd : f.deep ≤ 6) : Calls Tryz.prog 38 #[.string s] w (PS true w) := by
  have c1 := all_any s (w.alloc (.cells #[.int .i64 0, .int .i64 0, .int .i64 0, .int .i64 0, .string ⟨#[]⟩, .slice none 0 0] 53)) hs
  have hat0 : At w w.heap.size (w.alloc (.cells #[.int .i64 0, .int .i64 0, .int .i64 0, .int .i64 0, .string ⟨#[]⟩, .slice none 0 0] 53)) := At.start w _
  rw [ha] at c1
  have hgd := Ps.all_good s.data.toList
  clear ha
  generalize (Wd.all s.data.toList).2.1 = at_ at *
  generalize (Wd.all s.data.toList).1 = ws at *
  go_enter Tryz.func38, Tryz.ntmps38
  go_wp2_with fail
  refine c1.mono ?_
  rintro r w1 ⟨v, rfl, hown, hb1⟩
  clear c1
  have HA1 : Hid (At w w.heap.size w1) := hat0.step' (P := Any) trivial (fun _ _ _ => trivial) (Kept.of_below hb1)
  obtain ⟨⟨ao, cap, rfl⟩, hr⟩ := rdr_of_own hown hgd.1 (s.size : Int)
  have c2 := (reads_all w1.heap.size ws s.size hgd ws.length 0 (Nat.zero_le _) (by omega)).2.2 _ hr
  have sw1 : w.heap.size < w1.heap.size := HA1.out.s
  have HA2 : Hid (At w w.heap.size (w1.alloc (.cells #[.slice ao ws.length cap, .int .i64 s.size] 92))) := HA1.out.alloc _
  unfold maxLen at hs
  clear hb1 hown hat0 hr HA1
  obtain ⟨q, hq⟩ : ∃ q, q = ws.length := ⟨_, rfl⟩
  rw [← hq] at hx
  generalize hlw : ws.length = len at *
  rw [hx] at c2
  obtain ⟨wf1, wd1, wq1, _⟩ := Ps.P_some hgd hx (s := 0) rfl (Nat.zero_le _)
  clear hx
  go_wp2_with fail
  refine c2.mono ?_
  rintro r w2 ⟨o1, k1, l1, h1, t1, x1, n1, rfl, hl2, hr2, hk2⟩
  clear c2
  have HA3 : Hid (At w w.heap.size w2) := HA2.out.up sw1 hk2
  have s2 : w1.heap.size < w2.heap.size := by have := hk2.size; simp at this; omega
  have lyU : Lies Any (w2.alloc (.cells #[.int .i64 o1, .int .i64 k1, .int .i64 l1, .int .i64 h1, .string t1, .slice x1 n1 n1] 53)) f o1 k1 l1 h1 t1 x1 n1 := Lies.mono (fun _ _ _ => trivial) f (Lies.kept (P := Past (w1.alloc (.cells #[.slice ao len cap, .int .i64 s.size] 92)).heap.size) ((Kept.refl _ w2).alloc _) f hl2)
  have HA4 : Hid (At w w.heap.size (w2.alloc (.cells #[.int .i64 o1, .int .i64 k1, .int .i64 l1, .int .i64 h1, .string t1, .slice x1 n1 n1] 53))) := HA3.out.alloc _
  have hrU : Rdr (w2.alloc (.cells #[.int .i64 o1, .int .i64 k1, .int .i64 l1, .int .i64 h1, .string t1, .slice x1 n1 n1] 53)) w1.heap.size ws q s.size := hr2.alloc _
  obtain ⟨hrf, _, _, ao2, cap2, wb2, r0, _, _, r1, _⟩ := hr2
  clear hk2 hl2 HA2 HA3
  have e0 : ws.length - q = 0 := by omega
  rw [e0] at r0
  have c3 := mayP54 f wf1 (w2.alloc (.cells #[.int .i64 o1, .int .i64 k1, .int .i64 l1, .int .i64 h1, .string t1, .slice x1 n1 n1] 53)) o1 k1 l1 h1 t1 x1 n1 (he.below HA4.out.bel he.lt) lyU
  have e6 : decide (f.deep ≤ 6) = true := by simpa using hd
  rw [e6] at c3
  clear hq hrU lyU hgd e0 e6 hd
  go_wp2_with fail
  refine c3.mono ?_
  rintro r w3 ⟨rfl, hb3⟩
  clear c3
  have HA : Hid (At w w.heap.size w3) := HA4.out.step' (P := Any) trivial (fun _ _ _ => trivial) (Kept.of_below hb3)
  have y3 : ∀ i, w3.cell? ⟨w2.heap.size, i, none⟩ = (#[.int .i64 o1, .int .i64 k1, .int .i64 l1, .int .i64 h1, .string t1, .slice x1 n1 n1] : Array Value)[i]? := fun i => by rw [hb3.cell (p := ⟨w2.heap.size, i, none⟩) (by simp)]; simp
  have r3 : w3.cell? ⟨w1.heap.size, 1, none⟩ = some (.int .i64 s.size) := by rw [hb3.cell (p := ⟨w1.heap.size, 1, none⟩) (by simp; omega), World.cell?_alloc_past _ _ _ (hn := s2)]; exact r1
  have s3 : w2.heap.size < w3.heap.size := by have := hb3.size; simp at this; omega
  clear r0 r1 hb3 HA4 hrf
  have ne1 : w.heap.size ≠ w2.heap.size := by omega
  have ne2 : w2.heap.size ≠ w.heap.size := by omega
  have z1 := HA.out.z
  have f1 := HA.out.f
  have s1 := HA.out.s
  go_wp2
  refine bodyPost_ret (v := .tuple #[.agg #[.int .i64 o1, .int .i64 k1, .int .i64 l1, .int .i64 h1, .string t1, .slice x1 n1 n1], .nilIface]) (by simp [results, Tryz.results38, go_sem, z1]) rfl (ps_yes (bel_six HA.out.bel))

end Go.Proofs.YtdeojcodbojmoaaGreatDoor
namespace Go.Proofs.YtdeojcodbojmoaaGreatDoor
open Go.RowKit
set_option maxRecDepth 100000
set_option linter.unusedVariables false

/-- pars.parse. -/
theorem prs38 (s : ByteArray) (w : World) (he : ErrT w) (hs : s.size ≤ maxLen) : Calls Tryz.prog 38 #[.string s] w (PS (Ps.okP s.data.toList) w) := by
  unfold Ps.okP Ps.whole
  show Calls Tryz.prog 38 #[.string s] w (PS ((Wd.all s.data.toList).2.2 && (match (match Ps.P (Wd.all s.data.toList).1 .or 0 with
    | some (f, q) => if q = (Wd.all s.data.toList).1.length then some f else none
    | none => none) with
    | some f => decide (f.deep ≤ 6)
    | none => false)) w)
  cases ha : (Wd.all s.data.toList).2.2 with
  | false => exact prs_no s w hs ha
  | true =>
    cases hx : Ps.P (Wd.all s.data.toList).1 .or 0 with
    | none => exact prs_bad s w hs ha hx
    | some y =>
      obtain ⟨f, q⟩ := y
      simp only [Bool.true_and]
      by_cases hq : q = (Wd.all s.data.toList).1.length
      · rw [if_pos hq]
        rw [hq] at hx
        simp only
        by_cases hd : f.deep ≤ 6
        · rw [decide_eq_true hd]; exact prs_yes s w f he hs ha hx hd
        · rw [decide_eq_false hd]; exact prs_deep s w f he hs ha hx (by omega)
      · rw [if_neg hq]; exact prs_rest s w f q hs ha hx hq

end Go.Proofs.YtdeojcodbojmoaaGreatDoor
namespace Go.Proofs.YtdeojcodbojmoaaGreatDoor
open Go.RowKit
set_option maxRecDepth 100000
set_option linter.unusedVariables false

set_option maxHeartbeats 4000000 in
/-- pars.Parse. -/
theorem prs25 (s : ByteArray) (w : World) (he : ErrT w) (hs : s.size ≤ maxLen) : Calls Tryz.prog 25 #[.string s] w fun r w' => (∃ (o k l h : Int) (t : ByteArray) (x : Option Addr) (n : Nat) (a : Int), r = .returned (.tuple #[.agg #[.int .i64 o, .int .i64 k, .int .i64 l, .int .i64 h, .string t, .slice x n n], .int .i64 a, .bool (Ps.okP s.data.toList)])) ∧ Below w.heap.size w w' := by
  have h1 := he.lt
  have hat0 : At w w.heap.size (w.alloc (.cells #[.int .i64 0, .int .i64 0, .int .i64 0, .int .i64 0, .string ⟨#[]⟩, .slice none 0 0] 53)) := At.start w _
  have c1 := prs38 s _ (he.below hat0.bel h1) hs
  go_enter Tryz.func25, Tryz.ntmps25
  go_wp2_with fail
  refine c1.mono ?_
  rintro r w1 ⟨o, k, l, h, t, x, n, ev, rfl, hev, hb1⟩
  clear c1
  have hA1 : At w w.heap.size w1 := hat0.step' (P := Any) trivial (fun _ _ _ => trivial) (Kept.of_below hb1)
  have z1 := hA1.z
  have f1 := hA1.f
  have s1 := hA1.s
  obtain ⟨U, hU⟩ : ∃ U, U = ((((((w1.setCell ⟨w.heap.size, 0, none⟩ (.int .i64 o)).setCell ⟨w.heap.size, 1, none⟩ (.int .i64 k)).setCell ⟨w.heap.size, 2, none⟩ (.int .i64 l)).setCell ⟨w.heap.size, 3, none⟩ (.int .i64 h)).setCell ⟨w.heap.size, 4, none⟩ (.string t)).setCell ⟨w.heap.size, 5, none⟩ (.slice x n n)).alloc (.cells #[.int .i64 0] 69) := ⟨_, rfl⟩
  have HU : Hid (U = _) := hU
  have y := six_of_set w1 w.heap.size o k l h t x n (z1 0) (z1 1) (z1 2) (z1 3) (z1 4) (z1 5)
  have sixU : Six U w.heap.size 0 o k l h t x n := y.of (fun i => by rw [hU]; exact World.cell?_alloc_past _ _ _ (hn := by simpa using s1))
  have fU : ∀ i, U.frozen? ⟨w.heap.size, i, none⟩ = false := fun i => by rw [hU, World.frozen?_alloc_past _ _ _ (hn := by simpa using s1)]; simpa using f1 i
  have mU : U.cell? ⟨w1.heap.size, 0, none⟩ = some (.int .i64 0) := by rw [hU, World.cell?_alloc_at _ _ _ _ (by simp)]; rfl
  have gen : ∀ X : World, X.heap.size = w1.heap.size → (X.alloc (.cells #[.int .i64 0] 69)).frozen? ⟨w1.heap.size, 0, none⟩ = false := fun X e => by rw [← e]; simp
  have gU : U.frozen? ⟨w1.heap.size, 0, none⟩ = false := by rw [hU]; exact gen _ (by simp)
  have hBU : Below w.heap.size w U := by rw [hU]; exact (bel_six hA1.bel).alloc (by have := hA1.bel.size; simpa using this) _
  have hsU : w1.heap.size < U.heap.size := by rw [hU]; simp
  have HB : Hid (Below w.heap.size w U ∧ Six U w.heap.size 0 o k l h t x n ∧ ∀ i, U.frozen? ⟨w.heap.size, i, none⟩ = false) := ⟨hBU, sixU, fU⟩
  rcases hev with ⟨hok, rfl⟩ | ⟨hok, m, T, v, rfl, hm⟩
  · have HOK : Hid (Ps.okP s.data.toList = true) := hok
    clear gen hU hb1 hA1 hat0 y sixU fU mU gU hBU hok he
    go_wp2_with fail
    rw [← HU.out]
    refine (as39 _ _).mono ?_
    rintro r w2 ⟨rfl, rfl⟩
    clear z1 f1 s1 HU
    obtain ⟨y0, y1, y2, y3, y4, y5⟩ := HB.out.2.1
    simp only [Nat.zero_add] at y0 y1 y2 y3 y4 y5
    have ff := HB.out.2.2
    go_wp2
    refine bodyPost_ret (v := .tuple #[.agg #[.int .i64 o, .int .i64 k, .int .i64 l, .int .i64 h, .string t, .slice x n n], .int .i64 0, .bool true]) (by simp [results, Tryz.results25, go_sem, y0, y1, y2, y3, y4, y5]) rfl ⟨⟨o, k, l, h, t, x, n, 0, by rw [HOK.out]⟩, bel_six HB.out.1⟩
  · have HOK : Hid (Ps.okP s.data.toList = false) := hok
    have c2 := as39_69 m (.iface T v) w1.heap.size _ U (he.below hBU h1) hm mU gU
    clear gen hU hb1 hA1 hat0 y sixU fU mU gU hBU hok he hm
    go_wp2_with fail
    rw [← HU.out]
    refine c2.mono ?_
    rintro r w2 ⟨rfl, ⟨a, ha⟩, hk2⟩
    clear c2 z1 f1 HU
    have six2 := HB.out.2.1.kept (P := But w1.heap.size) (by unfold But; omega) hk2
    obtain ⟨y0, y1, y2, y3, y4, y5⟩ := six2
    simp only [Nat.zero_add] at y0 y1 y2 y3 y4 y5
    have ff : ∀ i, w2.frozen? ⟨w.heap.size, i, none⟩ = false := fun i => (hk2.frozen (by omega) (by unfold But; omega)).trans (HB.out.2.2 i)
    have HB2 : Hid (Below w.heap.size w w2) := HB.out.1.trans (hk2.below HB.out.1.size (fun k hk => by unfold But; omega))
    have ne1 : w.heap.size ≠ w1.heap.size := by omega
    have ne2 : w1.heap.size ≠ w.heap.size := by omega
    clear hk2 HB
    go_wp2_with fail
    go_region
    all_goals (
      go_wp2
      refine bodyPost_ret (v := .tuple #[.agg #[.int .i64 0, .int .i64 0, .int .i64 0, .int .i64 0, .string ⟨#[]⟩, .slice none 0 0], .int .i64 a, .bool false]) (by simp [results, Tryz.results25, go_sem, y0, y1, y2, y3, y4, y5]) rfl ⟨⟨0, 0, 0, 0, ⟨#[]⟩, none, 0, a, by rw [HOK.out]⟩, ?_⟩
      first | exact (bel_six HB2.out).drew | exact bel_six HB2.out)

end Go.Proofs.YtdeojcodbojmoaaGreatDoor
namespace Go.Proofs.YtdeojcodbojmoaaGreatDoor
open Go.RowKit
set_option maxRecDepth 100000
set_option linter.unusedVariables false

/-- What check tells of a row. -/
def RkV (ok : Bool) (ev : Value) : Prop := (ok = true ∧ ev = .nilIface) ∨ (ok = false ∧ ∃ (k : Int) (p : ByteArray), ev = .iface 112 (.agg #[.int .i64 k, .iface 148 (.agg #[.string p])]))

set_option maxHeartbeats 4000000 in
/-- seen.check. -/
theorem chk41 (a : Addr) (P : Nat → Prop) (ao : Option Addr) (cap : Nat) (l : List Hd) (w : World) (hg : w.cell? ⟨2, 0, none⟩ = some (.iface 185 (.pointer (some a)))) (hr : Rdz P w 4 ao l.length (hcells l)) :
    Calls Tryz.prog 41 #[.slice ao l.length cap] w fun r w' => (∃ ev, r = .returned ev ∧ RkV (hsOk l 0) ev) ∧ Below w.heap.size w w' := by
  have hlt : 2 < w.heap.size := World.block_lt_of_cell? w ⟨2, 0, none⟩ hg
  obtain ⟨_, hle, hrd⟩ := hr
  generalize hL : l.length = len at *
  generalize hB : hsOk l 0 = B at *
  go_enter Tryz.func41, Tryz.ntmps41
  go_wp2_with fail
  go_loopw [3, 9] (fun la i wr => ∃ (k : Nat) (last : Int), k ≤ len ∧ la = .int .i64 last ∧ i = .int .i64 k ∧ hsOk (l.drop k) last = B ∧ Below w.heap.size w wr) (fun _ i _ => len - (intOf i).toNat)
  case atStart => exact ⟨0, 0, Nat.zero_le _, rfl, rfl, by simpa using hB, Below.refl _ _⟩
  case round =>
    obtain ⟨k, last, hk, rfl, rfl, hS, hbel⟩ := hrel
    by_cases hkl : k < len
    · obtain ⟨b, off, rfl, _, hbw, hc⟩ := hrd (by omega)
      have hkl' : k < l.length := by omega
      obtain ⟨u0, u1, u2, u3⟩ := head_at hc k hkl'
      have v0 := (hbel.cell (p := ⟨b, off + k * 4, none⟩) hbw).trans u0
      have v1 := (hbel.cell (p := ⟨b, off + k * 4 + 1, none⟩) hbw).trans u1
      have v2 := (hbel.cell (p := ⟨b, off + k * 4 + 2, none⟩) hbw).trans u2
      have v3 := (hbel.cell (p := ⟨b, off + k * 4 + 3, none⟩) hbw).trans u3
      rw [List.drop_eq_getElem_cons hkl'] at hS
      have hS' : (hOk l[k] last && hsOk (l.drop (k + 1)) (l[k]).it) = B := hS
      have c := head61 a l[k] last (wr.alloc (.cells #[.int .i64 (l[k]).it, .int .i64 (l[k]).L, .int .i64 (l[k]).R, .int .i64 (l[k]).N] 45)) (by rw [World.cell?_alloc_past _ _ _ (hn := by have := hbel.size; omega)]; exact (hbel.cell (p := ⟨2, 0, none⟩) hlt).trans hg)
      have HB : Hid (Below w.heap.size w wr) := hbel
      have HS : Hid ((hOk l[k] last && hsOk (l.drop (k + 1)) (l[k]).it) = B) := hS'
      clear hbel u0 u1 u2 u3 hc hS hS' hrd
      generalize l[k] = hd at *
      go_wp2_with fail
      refine c.mono ?_
      rintro r w1 ⟨⟨ev, rfl, hz⟩, hb1⟩
      have z0 : w1.cell? ⟨wr.heap.size, 0, none⟩ = some (.int .i64 hd.it) := by rw [hb1.cell (p := ⟨wr.heap.size, 0, none⟩) (by simp)]; simp
      have HB1 : Hid (Below w.heap.size w w1) := (HB.out.alloc HB.out.size _).trans (hb1.mono (by have := HB.out.size; simp; omega))
      clear c v0 v1 v2 v3 hb1 HB
      rcases hz with ⟨ho, rfl⟩ | ⟨ho, p, rfl⟩
      · have hs2 : hsOk (l.drop (k + 1)) hd.it = B := by have := HS.out; rw [ho] at this; simpa using this
        have HS2 : Hid (hsOk (l.drop (k + 1)) hd.it = B) := hs2
        clear hs2
        clear HS ho
        go_wp2
        go_roundw
        case rel => exact ⟨k + 1, hd.it, by omega, rfl, by go_num, HS2.out, HB1.out⟩
        case measure => simp [intOf]; omega
      · have hs2 : B = false := by have := HS.out; rw [ho] at this; simpa using this.symm
        have HS2 : Hid (B = false) := hs2
        clear hs2
        clear HS ho
        go_wp2
        go_ret
        exact ⟨⟨_, rfl, .inr ⟨HS2.out, _, _, rfl⟩⟩, HB1.out⟩
    · have hS' : hsOk (l.drop k) last = B := hS
      rw [List.drop_of_length_le (by omega)] at hS'
      have HS : Hid (B = true) := hS'.symm
      clear hS hS' hrd
      go_wp2
      go_ret
      exact ⟨⟨_, rfl, .inl ⟨HS.out, rfl⟩⟩, hbel⟩

theorem is_rkv (a : Addr) (ok : Bool) (ev : Value) (w : World) (hz : RkV ok ev) (hg : w.cell? ⟨0, 0, none⟩ = some (.iface 185 (.pointer (some a)))) :
    Calls Tryz.prog 40 #[ev, .iface 185 (.pointer (some a))] w fun r w' => r = .returned (.bool (!ok)) ∧ Below w.heap.size w w' := by
  rcases hz with ⟨rfl, rfl⟩ | ⟨rfl, k, p, rfl⟩
  · refine (is40 a w).mono ?_
    rintro r w' ⟨rfl, rfl⟩
    exact ⟨rfl, Below.refl _ _⟩
  · exact is_seen a k p w hg

set_option maxHeartbeats 4000000 in
/-- seen.May. -/
theorem senMay27 (a b : Addr) (P : Nat → Prop) (ao : Option Addr) (cap : Nat) (l : List Hd) (w : World) (hg : w.cell? ⟨0, 0, none⟩ = some (.iface 185 (.pointer (some a)))) (hg2 : w.cell? ⟨2, 0, none⟩ = some (.iface 185 (.pointer (some b)))) (hr : Rdz P w 4 ao l.length (hcells l)) :
    Calls Tryz.prog 27 #[.slice ao l.length cap] w fun r w' => r = .returned (.bool (hsOk l 0)) ∧ Below w.heap.size w w' := by
  have hlt : 0 < w.heap.size := World.block_lt_of_cell? w ⟨0, 0, none⟩ hg
  have c1 := chk41 b P ao cap l w.drew hg2 (hr.kept ((Kept.refl _ w).drew))
  generalize hsOk l 0 = B at *
  generalize l.length = len at *
  clear hr hg2
  go_enter Tryz.func27, Tryz.ntmps27
  go_wp2_with fail
  go_region_held3 (fun w' => w'.cell? ⟨0, 0, none⟩ = some (.iface 185 (.pointer (some a))))
    (go_keep)
    (first
      | (go_at_call 41; refine c1.mono ?_; rintro r w5 ⟨⟨ev, rfl, hz⟩, hb5⟩; obtain ⟨hcl, hfl, z1⟩ := callee_old hb5)
      | (go_at_call 40; refine (is_rkv a _ _ _ hz (by simp [*])).mono ?_; rintro r w6 ⟨rfl, hb6⟩; have hc6 : ∀ b o, b < w5.heap.size → w6.cell? ⟨b, o, none⟩ = w5.cell? ⟨b, o, none⟩ := fun b o h => hb6.cell (p := ⟨b, o, none⟩) h; have zz1 : 0 < w5.heap.size := Nat.lt_of_lt_of_le hlt z1))
  have HB : Hid (Below w.heap.size w w6) := Below.trans (b := w.drew) (Below.refl _ w).drew (hb5.trans (hb6.mono hb5.size))
  go_wp2
  go_ret
  exact ⟨by simp, HB.out⟩

/-- How often something may happen. -/
def tms (n : Int) : Bool := decide (0 ≤ n) && decide (n ≤ 1000000)
set_option maxHeartbeats 1000000 in
theorem tms26 (n : Int) (w : World) : Calls Tryz.prog 26 #[.int .i64 n] w fun r w' => r = .returned (.bool (tms n)) ∧ w' = w := by
  unfold tms
  by_cases h1 : 0 ≤ n
  · have d1 : decide (0 ≤ n) = true := decide_eq_true h1
    rw [d1]
    go_enter Tryz.func26, Tryz.ntmps26
    go_wp2
    go_ret
    exact ⟨rfl, rfl⟩
  · have d1 : decide (0 ≤ n) = false := decide_eq_false h1
    rw [d1]
    go_enter Tryz.func26, Tryz.ntmps26
    go_wp2
    go_ret
    exact ⟨rfl, rfl⟩

set_option maxHeartbeats 2000000 in
theorem allT28 (P : Nat → Prop) (ao : Option Addr) (cap : Nat) (l : List Int) (w : World) (hr : Rdz P w 1 ao l.length (icells l)) : Calls Tryz.prog 28 #[.slice ao l.length cap] w fun r w' => r = .returned (.bool (l.all tms)) ∧ w' = w := by
  obtain ⟨_, hle, hrd⟩ := hr
  generalize hL : l.length = len at *
  generalize hB : l.all tms = B at *
  go_enter Tryz.func28, Tryz.ntmps28
  go_wp2_with fail
  go_loopw [7] (fun i wr => ∃ k : Nat, k ≤ len ∧ i = .int .i64 k ∧ (l.drop k).all tms = B ∧ wr = w) (fun i _ => len - (intOf i).toNat)
  case atStart => exact ⟨0, Nat.zero_le _, rfl, by simpa using hB, rfl⟩
  case round =>
    obtain ⟨k, hk, rfl, hS, rfl⟩ := hrel
    by_cases hkl : k < len
    · obtain ⟨b, off, rfl, _, hbw, hc⟩ := hrd (by omega)
      have hkl' : k < l.length := by omega
      have u0 := int_at hc k hkl'
      rw [List.drop_eq_getElem_cons hkl', List.all_cons] at hS
      have c := tms26 l[k] wr
      have HS : Hid ((tms l[k] && (l.drop (k + 1)).all tms) = B) := hS
      clear hc hS hrd
      generalize l[k] = n at *
      cases et : tms n with
      | true =>
        have hs2 : (l.drop (k + 1)).all tms = B := by have := HS.out; rw [et] at this; simpa using this
        have HS2 : Hid ((l.drop (k + 1)).all tms = B) := hs2
        rw [et] at c
        clear hs2 HS
        go_wp2_with fail
        refine c.mono ?_
        rintro r w1 ⟨rfl, rfl⟩
        go_wp2
        go_roundw
        case rel => exact ⟨k + 1, by omega, by go_num, HS2.out, by trivial⟩
        case measure => simp [intOf]; omega
      | false =>
        have hs2 : B = false := by have := HS.out; rw [et] at this; simpa using this.symm
        have HS2 : Hid (B = false) := hs2
        rw [et] at c
        clear hs2 HS
        go_wp2_with fail
        refine c.mono ?_
        rintro r w1 ⟨rfl, rfl⟩
        go_wp2
        go_ret
        exact ⟨by rw [HS2.out]; rfl, rfl⟩
    · rw [List.drop_of_length_le (by omega)] at hS
      have HS : Hid (B = true) := hS.symm
      clear hS hrd
      go_wp2
      go_ret
      exact ⟨by rw [HS.out]; rfl, rfl⟩

/-- Which views may be. -/
def mayV (v : Vw) (n : Int) : Bool := decide (1 ≤ v.R) && (decide (v.R ≤ n) && (if v.Rev = 0 then sv v ⟨v.R, 0, ⟨#[]⟩, [], []⟩ else Ps.okP v.f.data.toList && (tms v.Rev && (hsOk v.sn 0 && (decide ((v.ep.length : Int) = n) && v.ep.all tms)))))

/-- What the package's variables hold. -/
structure Vars (w : World) : Prop where
  seen : ∃ a, w.cell? ⟨0, 0, none⟩ = some (.iface 185 (.pointer (some a)))
  err : ErrT w
  stamp : ∃ a, w.cell? ⟨2, 0, none⟩ = some (.iface 185 (.pointer (some a)))

theorem Vars.lt {w : World} (h : Vars w) : 2 < w.heap.size := by obtain ⟨a, h⟩ := h.stamp; exact World.block_lt_of_cell? w ⟨2, 0, none⟩ h
theorem Vars.below {w w' : World} {B : Nat} (h : Vars w) (hb : Below B w w') (hB : 2 < B) : Vars w' := by
  obtain ⟨⟨a, ha⟩, he, ⟨b, hb'⟩⟩ := h
  exact ⟨⟨a, (hb.cell (p := ⟨0, 0, none⟩) (by show 0 < B; omega)).trans ha⟩, he.below hb (by omega), ⟨b, (hb.cell (p := ⟨2, 0, none⟩) hB).trans hb'⟩⟩

end Go.Proofs.YtdeojcodbojmoaaGreatDoor
namespace Go.Proofs.YtdeojcodbojmoaaGreatDoor
open Go.RowKit
set_option maxRecDepth 100000
set_option linter.unusedVariables false

/-- Cells are a view; its slices may be empty anyhow. -/
structure Lz (P : Nat → Prop) (w : World) (c : Vc) (v : Vw) : Prop where
  R : c.R = v.R
  Rev : c.Rev = v.Rev
  f : c.f = v.f
  fs : v.f.size ≤ 1000
  sn : c.sn = v.sn.length
  en : c.en = v.ep.length
  heads : Rdz P w 4 c.sa c.sn (hcells v.sn)
  ints : Rdz P w 1 c.ea c.en (icells v.ep)

theorem Lv.lz {P : Nat → Prop} {w : World} {c : Vc} {v : Vw} (h : Lv P w c v) : Lz P w c v := ⟨h.R, h.Rev, h.f, h.fs, h.sn, h.en, h.heads.z, h.ints.z⟩
theorem Lz.kept {P : Nat → Prop} {w w' : World} {c : Vc} {v : Vw} (h : Lz P w c v) (hk : Kept P w w') : Lz P w' c v := ⟨h.R, h.Rev, h.f, h.fs, h.sn, h.en, h.heads.kept hk, h.ints.kept hk⟩
theorem Lz.below {P : Nat → Prop} {w w' : World} {c : Vc} {v : Vw} (h : Lz P w c v) (hb : Below w.heap.size w w') : Lz P w' c v := h.kept (Kept.of_below hb)
theorem Lz.mono {P P' : Nat → Prop} {w : World} {c : Vc} {v : Vw} (h : Lz P w c v) (hp : ∀ b, b < w.heap.size → P b → P' b) : Lz P' w c v := ⟨h.R, h.Rev, h.f, h.fs, h.sn, h.en, h.heads.mono hp, h.ints.mono hp⟩

set_option maxHeartbeats 1000000 in
/-- cardamomref11.SameView. -/
theorem zsame15 (P1 P2 : Nat → Prop) (c1 c2 : Vc) (v1 v2 : Vw) (w : World) (l1 : Lz P1 w c1 v1) (l2 : Lz P2 w c2 v2) :
    Calls Tryz.prog 15 #[.agg #[.int .i64 c1.R, .int .i64 c1.Rev, .string c1.f, .slice c1.sa c1.sn c1.sc, .slice c1.ea c1.en c1.ec], .agg #[.int .i64 c2.R, .int .i64 c2.Rev, .string c2.f, .slice c2.sa c2.sn c2.sc, .slice c2.ea c2.en c2.ec]] w fun e w' => e = .returned (.bool (sv v1 v2)) ∧ Below w.heap.size w w' := by
  obtain ⟨R1, V1, f1, a1, n1, z1, b1, m1, y1⟩ := c1
  obtain ⟨R2, V2, f2, a2, n2, z2, b2, m2, y2⟩ := c2
  obtain ⟨r1, g1, t1, x1, u1⟩ := v1
  obtain ⟨r2, g2, t2, x2, u2⟩ := v2
  obtain ⟨e1, e2, e3, s1, e4, e5, k1, k2⟩ := l1
  obtain ⟨e1', e2', e3', s2, e4', e5', k1', k2'⟩ := l2
  simp only at *
  subst e1 e2 e3 e4 e5 e1' e2' e3' e4' e5'
  have hs1 : ∀ w', Below w.heap.size w w' → Calls Tryz.prog 33 #[.slice a1 x1.length z1, .slice a2 x2.length z2] w' fun e w'' => e = .returned (.bool (decide (x1 = x2))) ∧ Below w'.heap.size w' w'' := fun w' hb => heads33 w' P1 P2 a1 a2 z1 z2 x1 x2 (k1.kept (Kept.of_below hb)) (k1'.kept (Kept.of_below hb))
  have hs2 : ∀ w', Below w.heap.size w w' → Calls Tryz.prog 19 #[.slice b1 u1.length y1, .slice b2 u2.length y2] w' fun e w'' => e = .returned (.bool (decide (u1 = u2))) ∧ Below w'.heap.size w' w'' := fun w' hb => ints19 w' P1 P2 b1 b2 y1 y2 u1 u2 (k2.kept (Kept.of_below hb)) (k2'.kept (Kept.of_below hb))
  clear k1 k2 k1' k2' s1 s2
  have hbW : ∀ o1 o2 : Obj, Below w.heap.size w ((w.alloc o1).alloc o2) := fun o1 o2 => ((Below.refl _ w).alloc (Nat.le_refl _) _).alloc (by simp) _
  by_cases q1 : R1 = R2
  · have d1 : (R1 == R2) = true := by simpa using q1
    have D1 : Hid ((R1 == R2) = true) := d1
    clear q1
    by_cases q2 : V1 = V2
    · have d2 : (V1 == V2) = true := by simpa using q2
      have D2 : Hid ((V1 == V2) = true) := d2
      clear q2
      by_cases q3 : f1.toList = f2.toList
      · have d3 : (f1.toList == f2.toList) = true := by simpa using q3
        have D3 : Hid ((f1.toList == f2.toList) = true) := d3
        clear q3
        have C1 := fun o1 o2 => hs1 _ (hbW o1 o2)
        have HS : Hid (_ ∧ _) := ⟨hs2, hbW⟩
        clear hs1 hs2 hbW
        go_enter Tryz.func15, Tryz.ntmps15
        go_wp2_with fail
        refine (C1 _ _).mono ?_
        rintro e w1 ⟨rfl, hb1⟩
        clear C1
        have hb0 : Below w.heap.size w w1 := (HS.out.2 _ _).trans (hb1.mono (by simp <;> omega))
        have hsz := hb1.size
        simp at hsz
        have c1 : ∀ i, w1.cell? ⟨w.heap.size, i, none⟩ = (#[.int .i64 R1, .int .i64 V1, .string f1, .slice a1 x1.length z1, .slice b1 u1.length y1] : Array Value)[i]? := fun i => by
          rw [hb1.cell (p := ⟨w.heap.size, i, none⟩) (by simp <;> omega), World.cell?_alloc_past _ _ _ (hn := by simp)]; simp
        have c2 : ∀ i, w1.cell? ⟨w.heap.size + 1, i, none⟩ = (#[.int .i64 R2, .int .i64 V2, .string f2, .slice a2 x2.length z2, .slice b2 u2.length y2] : Array Value)[i]? := fun i => by
          rw [hb1.cell (p := ⟨w.heap.size + 1, i, none⟩) (by simp), World.cell?_alloc_at _ _ _ _ (by simp)]
        have C2 := HS.out.1 w1 hb0
        have HB : Hid (Below w.heap.size w w1) := hb0
        clear HS hb0 hb1
        by_cases q4 : x1 = x2
        · have d4 : decide (x1 = x2) = true := decide_eq_true q4
          have D4 : Hid (decide (x1 = x2) = true) := d4
          clear q4
          go_wp2_with fail
          refine C2.mono ?_
          rintro e w2 ⟨rfl, hb2⟩
          clear C2
          go_wp2
          go_ret
          exact ⟨by rw [sv_last D1.out D2.out D3.out D4.out]; rfl, HB.out.trans (hb2.mono HB.out.size)⟩
        · have d4 : decide (x1 = x2) = false := decide_eq_false q4
          have D4 : Hid (decide (x1 = x2) = false) := d4
          clear q4 C2
          go_wp2
          go_ret
          exact ⟨by rw [sv_no4 D4.out]; rfl, HB.out⟩
      · have d3 : (f1.toList == f2.toList) = false := by simpa using q3
        have D3 : Hid ((f1.toList == f2.toList) = false) := d3
        clear q3 hs1 hs2
        go_enter Tryz.func15, Tryz.ntmps15
        go_wp2
        go_ret
        exact ⟨by rw [sv_no3 D3.out]; rfl, hbW _ _⟩
    · have d2 : (V1 == V2) = false := by simpa using q2
      have D2 : Hid ((V1 == V2) = false) := d2
      clear q2 hs1 hs2
      go_enter Tryz.func15, Tryz.ntmps15
      go_wp2
      go_ret
      exact ⟨by rw [sv_no2 D2.out]; rfl, hbW _ _⟩
  · have d1 : (R1 == R2) = false := by simpa using q1
    have D1 : Hid ((R1 == R2) = false) := d1
    clear q1 hs1 hs2
    go_enter Tryz.func15, Tryz.ntmps15
    go_wp2
    go_ret
    exact ⟨by rw [sv_no1 D1.out]; rfl, hbW _ _⟩

set_option maxHeartbeats 1000000 in
/-- view.Same. -/
theorem zsame14 (P1 P2 : Nat → Prop) (c1 c2 : Vc) (v1 v2 : Vw) (w : World) (l1 : Lz P1 w c1 v1) (l2 : Lz P2 w c2 v2) :
    Calls Tryz.prog 14 #[.agg #[.int .i64 c1.R, .int .i64 c1.Rev, .string c1.f, .slice c1.sa c1.sn c1.sc, .slice c1.ea c1.en c1.ec], .agg #[.int .i64 c2.R, .int .i64 c2.Rev, .string c2.f, .slice c2.sa c2.sn c2.sc, .slice c2.ea c2.en c2.ec]] w fun e w' => e = .returned (.bool (sv v1 v2)) ∧ Below w.heap.size w w' := by
  obtain ⟨R1, V1, f1, a1, n1, z1, b1, m1, y1⟩ := c1
  obtain ⟨R2, V2, f2, a2, n2, z2, b2, m2, y2⟩ := c2
  obtain ⟨r1, g1, t1, x1, u1⟩ := v1
  obtain ⟨r2, g2, t2, x2, u2⟩ := v2
  obtain ⟨e1, e2, e3, s1, e4, e5, k1, k2⟩ := l1
  obtain ⟨e1', e2', e3', s2, e4', e5', k1', k2'⟩ := l2
  simp only at *
  subst e1 e2 e3 e4 e5 e1' e2' e3' e4' e5'
  have hs1 : ∀ w', Below w.heap.size w w' → Calls Tryz.prog 31 #[.slice a1 x1.length z1, .slice a2 x2.length z2] w' fun e w'' => e = .returned (.bool (decide (x1 = x2))) ∧ Below w'.heap.size w' w'' := fun w' hb => heads31 w' P1 P2 a1 a2 z1 z2 x1 x2 (k1.kept (Kept.of_below hb)) (k1'.kept (Kept.of_below hb))
  have hs2 : ∀ w', Below w.heap.size w w' → Calls Tryz.prog 32 #[.slice b1 u1.length y1, .slice b2 u2.length y2] w' fun e w'' => e = .returned (.bool (decide (u1 = u2))) ∧ Below w'.heap.size w' w'' := fun w' hb => ints32 w' P1 P2 b1 b2 y1 y2 u1 u2 (k2.kept (Kept.of_below hb)) (k2'.kept (Kept.of_below hb))
  clear k1 k2 k1' k2' s1 s2
  have hbW : ∀ o1 o2 : Obj, Below w.heap.size w ((w.alloc o1).alloc o2) := fun o1 o2 => ((Below.refl _ w).alloc (Nat.le_refl _) _).alloc (by simp) _
  by_cases q1 : R1 = R2
  · have d1 : (R1 == R2) = true := by simpa using q1
    have D1 : Hid ((R1 == R2) = true) := d1
    clear q1
    by_cases q2 : V1 = V2
    · have d2 : (V1 == V2) = true := by simpa using q2
      have D2 : Hid ((V1 == V2) = true) := d2
      clear q2
      by_cases q3 : f1.toList = f2.toList
      · have d3 : (f1.toList == f2.toList) = true := by simpa using q3
        have D3 : Hid ((f1.toList == f2.toList) = true) := d3
        clear q3
        have C1 := fun o1 o2 => hs1 _ (hbW o1 o2)
        have HS : Hid (_ ∧ _) := ⟨hs2, hbW⟩
        clear hs1 hs2 hbW
        go_enter Tryz.func14, Tryz.ntmps14
        go_wp2_with fail
        refine (C1 _ _).mono ?_
        rintro e w1 ⟨rfl, hb1⟩
        clear C1
        have hb0 : Below w.heap.size w w1 := (HS.out.2 _ _).trans (hb1.mono (by simp <;> omega))
        have hsz := hb1.size
        simp at hsz
        have c1 : ∀ i, w1.cell? ⟨w.heap.size, i, none⟩ = (#[.int .i64 R1, .int .i64 V1, .string f1, .slice a1 x1.length z1, .slice b1 u1.length y1] : Array Value)[i]? := fun i => by
          rw [hb1.cell (p := ⟨w.heap.size, i, none⟩) (by simp <;> omega), World.cell?_alloc_past _ _ _ (hn := by simp)]; simp
        have c2 : ∀ i, w1.cell? ⟨w.heap.size + 1, i, none⟩ = (#[.int .i64 R2, .int .i64 V2, .string f2, .slice a2 x2.length z2, .slice b2 u2.length y2] : Array Value)[i]? := fun i => by
          rw [hb1.cell (p := ⟨w.heap.size + 1, i, none⟩) (by simp), World.cell?_alloc_at _ _ _ _ (by simp)]
        have C2 := HS.out.1 w1 hb0
        have HB : Hid (Below w.heap.size w w1) := hb0
        clear HS hb0 hb1
        by_cases q4 : x1 = x2
        · have d4 : decide (x1 = x2) = true := decide_eq_true q4
          have D4 : Hid (decide (x1 = x2) = true) := d4
          clear q4
          go_wp2_with fail
          refine C2.mono ?_
          rintro e w2 ⟨rfl, hb2⟩
          clear C2
          go_wp2
          go_ret
          exact ⟨by rw [sv_last D1.out D2.out D3.out D4.out]; rfl, HB.out.trans (hb2.mono HB.out.size)⟩
        · have d4 : decide (x1 = x2) = false := decide_eq_false q4
          have D4 : Hid (decide (x1 = x2) = false) := d4
          clear q4 C2
          go_wp2
          go_ret
          exact ⟨by rw [sv_no4 D4.out]; rfl, HB.out⟩
      · have d3 : (f1.toList == f2.toList) = false := by simpa using q3
        have D3 : Hid ((f1.toList == f2.toList) = false) := d3
        clear q3 hs1 hs2
        go_enter Tryz.func14, Tryz.ntmps14
        go_wp2
        go_ret
        exact ⟨by rw [sv_no3 D3.out]; rfl, hbW _ _⟩
    · have d2 : (V1 == V2) = false := by simpa using q2
      have D2 : Hid ((V1 == V2) = false) := d2
      clear q2 hs1 hs2
      go_enter Tryz.func14, Tryz.ntmps14
      go_wp2
      go_ret
      exact ⟨by rw [sv_no2 D2.out]; rfl, hbW _ _⟩
  · have d1 : (R1 == R2) = false := by simpa using q1
    have D1 : Hid ((R1 == R2) = false) := d1
    clear q1 hs1 hs2
    go_enter Tryz.func14, Tryz.ntmps14
    go_wp2
    go_ret
    exact ⟨by rw [sv_no1 D1.out]; rfl, hbW _ _⟩

set_option maxHeartbeats 8000000 in
/-- view.May. -/
theorem zmay12 (P : Nat → Prop) (c : Vc) (v : Vw) (n : Int) (w : World) (hv : Vars w) (hl : Lz P w c v) :
    Calls Tryz.prog 12 #[.agg #[.int .i64 c.R, .int .i64 c.Rev, .string c.f, .slice c.sa c.sn c.sc, .slice c.ea c.en c.ec], .int .i64 n] w fun r w' => r = .returned (.bool (mayV v n)) ∧ Below w.heap.size w w' := by
  have h2 := hv.lt
  generalize hM : mayV v n = M
  unfold mayV at hM
  have hbX : Below w.heap.size w (w.alloc (.cells #[.int .i64 c.R, .int .i64 c.Rev, .string c.f, .slice c.sa c.sn c.sc, .slice c.ea c.en c.ec] 25)) := (Below.refl _ w).alloc (Nat.le_refl _) _
  have hlX := hl.below hbX
  have hvX := hv.below hbX h2
  obtain ⟨X, hX⟩ : ∃ X, X = w.alloc (.cells #[.int .i64 c.R, .int .i64 c.Rev, .string c.f, .slice c.sa c.sn c.sc, .slice c.ea c.en c.ec] 25) := ⟨_, rfl⟩
  rw [← hX] at hbX hlX hvX
  have eR := hl.R
  have eV := hl.Rev
  have ef := hl.f
  have efs := hl.fs
  have esn := hl.sn
  have een := hl.en
  by_cases g1 : v.R < 1
  · have d1 : decide (c.R < 1) = true := decide_eq_true (by omega)
    have HM : Hid (M = false) := by show M = false; rw [← hM]; simp; omega
    have HB : Hid _ := hbX
    clear hM hl hlX hvX hv eR eV ef efs esn een hbX
    go_enter Tryz.func12, Tryz.ntmps12
    go_wp2
    go_ret
    exact ⟨by rw [HM.out]; rfl, by have := HB.out; rw [hX] at this; exact this⟩
  · have d1 : decide (c.R < 1) = false := decide_eq_false (by omega)
    by_cases g2 : n < v.R
    · have d2 : decide (n < c.R) = true := decide_eq_true (by omega)
      have HM : Hid (M = false) := by show M = false; rw [← hM]; simp; omega
      have HB : Hid _ := hbX
      clear hM hl hlX hvX hv eR eV ef efs esn een hbX
      go_enter Tryz.func12, Tryz.ntmps12
      go_wp2
      go_ret
      exact ⟨by rw [HM.out]; rfl, by have := HB.out; rw [hX] at this; exact this⟩
    · have d2 : decide (n < c.R) = false := decide_eq_false (by omega)
      have hM1 : (if v.Rev = 0 then sv v ⟨v.R, 0, ⟨#[]⟩, [], []⟩ else Ps.okP v.f.data.toList && (tms v.Rev && (hsOk v.sn 0 && (decide ((v.ep.length : Int) = n) && v.ep.all tms)))) = M := by
        rw [← hM, decide_eq_true (show 1 ≤ v.R by omega), decide_eq_true (show v.R ≤ n by omega)]; simp
      by_cases g3 : v.Rev = 0
      · rw [if_pos g3] at hM1
        have d3 : (c.Rev == 0) = true := by simp; omega
        have cs := zsame14 _ Any c ⟨c.R, 0, ⟨#[]⟩, none, 0, 0, none, 0, 0⟩ v ⟨v.R, 0, ⟨#[]⟩, [], []⟩ X hlX ⟨eR, rfl, rfl, by show (0 : Nat) ≤ 1000; omega, rfl, rfl, (Rds.nil _ _ _).z, (Rds.nil _ _ _).z⟩
        rw [hM1, hX] at cs
        simp only at cs
        have HB : Hid _ := hbX
        clear hM hM1 hl hlX hvX hv eR eV ef efs esn een hbX
        go_enter Tryz.func12, Tryz.ntmps12
        go_wp2_with fail
        refine cs.mono ?_
        rintro r w1 ⟨rfl, hb1⟩
        clear cs
        go_wp2
        go_ret
        exact ⟨rfl, by have := HB.out; rw [hX] at this; exact this.trans (hb1.mono (by simp))⟩
      · rw [if_neg g3] at hM1
        have d3 : (c.Rev == 0) = false := by simp; omega
        have cp := prs25 c.f X hvX.err (by rw [ef]; unfold maxLen; omega)
        have ct := tms26 c.Rev
        obtain ⟨a0, ha0⟩ := hv.seen
        obtain ⟨a2, ha2⟩ := hv.stamp
        have cS := fun (w' : World) (hb : Below w.heap.size w w') => senMay27 a0 a2 P c.sa c.sc v.sn w' ((hb.cell (p := ⟨0, 0, none⟩) (by show 0 < _; omega)).trans ha0) ((hb.cell (p := ⟨2, 0, none⟩) h2).trans ha2) (by have := (hl.below hb).heads; rwa [esn] at this)
        have cA := fun (w' : World) (hb : Below w.heap.size w w') => allT28 P c.ea c.ec v.ep w' (by have := (hl.below hb).ints; rwa [een] at this)
        have hen : c.en ≤ 1000 := by have := hl.ints.2.1; omega
        rw [← esn] at cS
        rw [← een] at cA hM1
        rw [← ef, ← eV] at hM1
        rw [hX] at cp
        generalize Ps.okP c.f.data.toList = bP at *
        generalize tms c.Rev = bT at *
        generalize hsOk v.sn 0 = bS at *
        generalize v.ep.all tms = bA at *
        have HM : Hid ((bP && (bT && (bS && (decide ((c.en : Int) = n) && bA)))) = M) := hM1
        have HW : Hid (Below w.heap.size w X) := hbX
        have HC : Hid _ := cS
        have HD : Hid _ := cA
        clear hM hM1 hl hlX hvX hv eR eV ef efs esn een hbX cS cA ha0 ha2 g1 g2 g3
        obtain ⟨R, Rev, f, sa, sn, sc, ea, en, ec⟩ := c
        simp only at *
        go_enter Tryz.func12, Tryz.ntmps12
        go_wp2_with fail
        refine cp.mono ?_
        rintro r w1 ⟨⟨o, k, l, h, t, x, m, at_, rfl⟩, hb1⟩
        clear cp
        have hs1 : w.heap.size < w1.heap.size := by have := hb1.size; simp at this; omega
        have z1 : ∀ i, w1.cell? ⟨w.heap.size, i, none⟩ = (#[.int .i64 R, .int .i64 Rev, .string f, .slice sa sn sc, .slice ea en ec] : Array Value)[i]? := fun i => by rw [hb1.cell (p := ⟨w.heap.size, i, none⟩) (by simp)]; simp
        have HB1 : Hid (Below w.heap.size w w1) := ((Below.refl _ w).alloc (Nat.le_refl _) _).trans (hb1.mono (by simp))
        clear hb1
        cases bP with
        | false =>
          go_wp2
          go_ret
          exact ⟨by have := HM.out; simp at this; rw [← this]; rfl, HB1.out.alloc HB1.out.size _⟩
        | true =>
          obtain ⟨U, hU⟩ : ∃ U, U = w1.alloc (.cells #[.int .i64 o, .int .i64 k, .int .i64 l, .int .i64 h, .string t, .slice x m m] 53) := ⟨_, rfl⟩
          have zU : ∀ i, U.cell? ⟨w.heap.size, i, none⟩ = (#[.int .i64 R, .int .i64 Rev, .string f, .slice sa sn sc, .slice ea en ec] : Array Value)[i]? := fun i => by rw [hU, World.cell?_alloc_past _ _ _ (hn := hs1)]; exact z1 i
          have sU : w.heap.size < U.heap.size := by rw [hU]; simp; omega
          have hBU : Below w.heap.size w U := by rw [hU]; exact HB1.out.alloc HB1.out.size _
          have HU : Hid (U = w1.alloc (.cells #[.int .i64 o, .int .i64 k, .int .i64 l, .int .i64 h, .string t, .slice x m m] 53)) := hU
          have c27 := HC.out U hBU
          have HBU : Hid (Below w.heap.size w U) := hBU
          clear hU hBU
          go_wp2_with fail
          rw [← HU.out]
          refine (ct U).mono ?_
          rintro r w2 ⟨rfl, rfl⟩
          clear z1 HU
          cases bT with
          | false =>
            clear c27
            go_wp2
            go_ret
            exact ⟨by have := HM.out; simp at this; rw [← this]; rfl, HBU.out⟩
          | true =>
            go_wp2_with fail
            refine c27.mono ?_
            rintro r w3 ⟨rfl, hb3⟩
            clear c27
            have z3 : ∀ i, w3.cell? ⟨w.heap.size, i, none⟩ = (#[.int .i64 R, .int .i64 Rev, .string f, .slice sa sn sc, .slice ea en ec] : Array Value)[i]? := fun i => (hb3.cell (p := ⟨w.heap.size, i, none⟩) sU).trans (zU i)
            have hB3 : Below w.heap.size w w3 := HBU.out.trans (hb3.mono HBU.out.size)
            have c28 := HD.out w3 hB3
            have HB3 : Hid (Below w.heap.size w w3) := hB3
            clear zU hb3 hB3
            cases bS with
            | false =>
              clear c28
              go_wp2
              go_ret
              exact ⟨by have := HM.out; simp at this; rw [← this]; rfl, HB3.out⟩
            | true =>
              by_cases hn : (en : Int) = n
              · have dn : ((en : Int) == n) = true := by simpa using hn
                have HN : Hid (bA = M) := by have := HM.out; rw [decide_eq_true hn] at this; show bA = M; simpa using this
                clear HM hn
                go_wp2_with fail
                refine c28.mono ?_
                rintro r w4 ⟨rfl, rfl⟩
                clear c28
                go_wp2
                go_ret
                exact ⟨by have := HN.out; subst this; first | rfl | simp, HB3.out⟩
              · have dn : ((en : Int) == n) = false := by simpa using hn
                have HN : Hid (false = M) := by have := HM.out; rw [decide_eq_false hn] at this; show false = M; simpa using this
                clear HM hn c28
                go_wp2
                go_ret
                exact ⟨by rw [← HN.out]; rfl, HB3.out⟩

end Go.Proofs.YtdeojcodbojmoaaGreatDoor
namespace Go.Proofs.YtdeojcodbojmoaaGreatDoor
namespace Rf
open Go.RowKit
set_option maxRecDepth 100000
set_option linter.unusedVariables false

/-- What failing tells: some filter, and the reader knows. -/
def FB (rb : Nat) (w : World) (r : Ending) (w' : World) : Prop := (∃ (o k l h : Int) (t : ByteArray) (x : Option Addr) (n : Nat), r = .returned (.agg #[.int .i64 o, .int .i64 k, .int .i64 l, .int .i64 h, .string t, .slice x n n])) ∧ WentB rb w w'

/-- Where key stands: its result's block, and its filter's. -/
structure Ky (w : World) (rb fb : Nat) (o k l h : Int) (W : World) : Prop where
  at_ : At w rb W
  lo : w.heap.size < fb
  hi : fb < W.heap.size
  fz : ∀ i, W.frozen? ⟨fb, i, none⟩ = false
  six : Six W fb 0 o k l h ⟨#[]⟩ none 0

theorem Ky.step {w W W' : World} {rb fb : Nat} {o k l h : Int} (y : Ky w rb fb o k l h W) (hlt : rb < w.heap.size) (hk : Kept (Save rb) W W') : Ky w rb fb o k l h W' :=
  have hk' : Kept (But rb) W W' := hk
  have ne : But rb fb := by have := y.lo; unfold But; omega
  ⟨y.at_.step hlt hk', y.lo, Nat.lt_of_lt_of_le y.hi hk.size, fun i => (hk'.frozen y.hi ne).trans (y.fz i), y.six.kept (P := But rb) ne hk'⟩

theorem Ky.new {w w1 : World} {rb : Nat} {k : Int} (h : At w rb w1) : Ky w rb w1.heap.size 0 k 0 0 (w1.alloc (.cells #[.int .i64 0, .int .i64 k, .int .i64 0, .int .i64 0, .string ⟨#[]⟩, .slice none 0 0] 53)) :=
  ⟨h.alloc _, h.s, by simp, fun i => by simp, by unfold Six; simp⟩

theorem Ky.keep {w W : World} {rb fb : Nat} {o k l h : Int} (y : Ky w rb fb o k l h W) (i : Nat) (u : Value) : At w rb (W.setCell ⟨fb, i, none⟩ u) :=
  y.at_.step' (P := fun b => b ≠ fb) (by show w.heap.size ≠ fb; have := y.lo; omega) (fun b hb _ => by show b ≠ fb; have := y.lo; omega) ((Kept.refl _ W).setCell (p := ⟨fb, i, none⟩) (fun b _ hb => hb) u)

theorem Ky.set0 {w W : World} {rb fb : Nat} {o k l h : Int} (y : Ky w rb fb o k l h W) (v : Int) : Ky w rb fb v k l h (W.setCell ⟨fb, 0, none⟩ (.int .i64 v)) := by
  obtain ⟨y0, y1, y2, y3, y4, y5⟩ := y.six
  refine ⟨y.keep 0 _, y.lo, by have := y.hi; simpa using this, fun i => by simpa using y.fz i, World.cell?_setCell_same _ _ _ y0, ?_, ?_, ?_, ?_, ?_⟩
  all_goals (rw [World.cell?_setCell_other _ _ _ _ (by simp)]; assumption)
theorem Ky.set2 {w W : World} {rb fb : Nat} {o k l h : Int} (y : Ky w rb fb o k l h W) (v : Int) : Ky w rb fb o k v h (W.setCell ⟨fb, 2, none⟩ (.int .i64 v)) := by
  obtain ⟨y0, y1, y2, y3, y4, y5⟩ := y.six
  refine ⟨y.keep 2 _, y.lo, by have := y.hi; simpa using this, fun i => by simpa using y.fz i, ?_, ?_, World.cell?_setCell_same _ _ _ y2, ?_, ?_, ?_⟩
  all_goals (rw [World.cell?_setCell_other _ _ _ _ (by simp)]; assumption)
theorem Ky.set3 {w W : World} {rb fb : Nat} {o k l h : Int} (y : Ky w rb fb o k l h W) (v : Int) : Ky w rb fb o k l v (W.setCell ⟨fb, 3, none⟩ (.int .i64 v)) := by
  obtain ⟨y0, y1, y2, y3, y4, y5⟩ := y.six
  refine ⟨y.keep 3 _, y.lo, by have := y.hi; simpa using this, fun i => by simpa using y.fz i, ?_, ?_, ?_, World.cell?_setCell_same _ _ _ y3, ?_, ?_⟩
  all_goals (rw [World.cell?_setCell_other _ _ _ _ (by simp)]; assumption)

theorem Bd.set {w : World} {rb b i : Nat} (h : Bd w rb) (hb : rb < b) (u : Value) : Bd (w.setCell ⟨b, i, none⟩ u) rb := h.below ((Below.refl _ w).setCell hb _)
theorem Bd.drewN {w : World} {rb n : Nat} (h : Bd w rb) : Bd (w.drewN n) rb := h.below (drewN_below _ w n)
theorem kept_drewN {P : Nat → Prop} {w : World} (n : Nat) : Kept P w (w.drewN n) := ⟨rfl, rfl, rfl, Nat.le_refl _, fun _ _ _ => rfl⟩

set_option maxHeartbeats 4000000 in
/-- No number behind @. -/
theorem key_no1 (rb : Nat) (ws : List Wd.Word) (p : Nat) (w : World) (h : Rd w rb ws p) (h1 : Ps.num ws p 4 = none) : Calls Tryz.prog 88 #[.pointer (some ⟨rb, 0, none⟩)] w (FB rb w) := by
  have hlt := h.lt
  have c1 := num_no97 rb ws p 4 (w.alloc (.cells #[.int .i64 0, .int .i64 0, .int .i64 0, .int .i64 0, .string ⟨#[]⟩, .slice none 0 0] 53)) (h.below ((Below.refl _ w).alloc hlt _)) h1
  clear h1
  go_enter Tryz.func88, Tryz.ntmps88
  go_wp2_with fail
  refine c1.mono ?_
  rintro r w1 ⟨rfl, hb1, hk1⟩
  clear c1
  have hA1 : At w rb w1 := (At.start w rb).step hlt hk1
  have hY : Ky w rb w1.heap.size 0 0 0 0 (w1.alloc (.cells #[.int .i64 0, .int .i64 0, .int .i64 0, .int .i64 0, .string ⟨#[]⟩, .slice none 0 0] 53)) := Ky.new hA1
  have hbd : Bd (w1.alloc (.cells #[.int .i64 0, .int .i64 0, .int .i64 0, .int .i64 0, .string ⟨#[]⟩, .slice none 0 0] 53)) rb := hb1.below ((Below.refl _ w1).alloc hb1.lt _)
  have c2 := mark_bad rb ⟨#[61]⟩ _ hbd
  have HY : Hid (Ky w rb w1.heap.size 0 0 0 0 (w1.alloc (.cells #[.int .i64 0, .int .i64 0, .int .i64 0, .int .i64 0, .string ⟨#[]⟩, .slice none 0 0] 53))) := hY
  have HBD : Hid (Bd (w1.alloc (.cells #[.int .i64 0, .int .i64 0, .int .i64 0, .int .i64 0, .string ⟨#[]⟩, .slice none 0 0] 53)) rb) := hbd
  clear hA1 hb1 hk1 hY hbd
  go_wp2_with fail
  refine c2.mono ?_
  rintro r w2 ⟨rfl, n2, hw2⟩
  clear c2
  have hB2 : Bd w2 rb := by rw [hw2]; exact HBD.out.drewN
  have hY2 : Ky w rb w1.heap.size 0 0 0 0 w2 := by rw [hw2]; exact HY.out.step hlt (kept_drewN _)
  have c3 := mark_bad rb ⟨#[58]⟩ w2 hB2
  have HY2 : Hid (Ky w rb w1.heap.size 0 0 0 0 w2) := hY2
  have HB2 : Hid (Bd w2 rb) := hB2
  clear hw2 hB2 hY2 HY HBD
  go_wp2_with fail
  refine c3.mono ?_
  rintro r w3 ⟨rfl, n3, hw3⟩
  clear c3
  have hB3 : Bd w3 rb := by rw [hw3]; exact HB2.out.drewN
  have hY3 : Ky w rb w1.heap.size 0 0 0 0 w3 := by rw [hw3]; exact HY2.out.step hlt (kept_drewN _)
  obtain ⟨_, ao, len, cap, pp, en, po, _, _, _, q1, _⟩ := id hB3
  have c4 := fail_bad rb w3 pp hB3
  have HY3 : Hid (Ky w rb w1.heap.size 0 0 0 0 w3) := hY3
  have HB3 : Hid (Bd w3 rb) := hB3
  have sl := hY3.lo
  clear hw3 hB3 hY3 HY2 HB2
  go_wp2_with fail
  refine c4.mono ?_
  rintro r w4 ⟨rfl, rfl⟩
  clear c4
  have z1 := HY3.out.at_.z
  have f1 := HY3.out.at_.f
  have s1 := HY3.out.at_.s
  obtain ⟨y0, y1, y2, y3, y4, y5⟩ := HY3.out.six
  simp only [Nat.zero_add] at y0 y1 y2 y3 y4 y5
  have ne1 : w.heap.size ≠ w1.heap.size := by omega
  have ne2 : w1.heap.size ≠ w.heap.size := by omega
  clear q1
  go_wp2
  refine bodyPost_ret (v := .agg #[.int .i64 0, .int .i64 0, .int .i64 0, .int .i64 0, .string ⟨#[]⟩, .slice none 0 0]) (by simp [results, Tryz.results88, go_sem, z1]) rfl ⟨⟨_, _, _, _, _, _, _, rfl⟩, HB3.out.below (below_six hlt), kept_six HY3.out.at_.k⟩

end Rf
end Go.Proofs.YtdeojcodbojmoaaGreatDoor
namespace Go.Proofs.YtdeojcodbojmoaaGreatDoor
namespace Rf
open Go.RowKit
set_option maxRecDepth 100000
set_option linter.unusedVariables false

set_option maxHeartbeats 4000000 in
theorem key_no7 (rb : Nat) (ws : List Wd.Word) (p : Nat) (w : World) (h : Rd w rb ws p) (k : Int) (h1 : Ps.num ws p 4 = some k) (h2 : Ps.isMark ws (p + 1) 61 = false) (h3 : Ps.isMark ws (p + 1) 58 = false) : Calls Tryz.prog 88 #[.pointer (some ⟨rb, 0, none⟩)] w (FB rb w) := by
  have hlt := h.lt
  have hl60 := h.1
  go_enter Tryz.func88, Tryz.ntmps88
  go_wp2_with fail
  refine (num38 rb ws p 4 k (w.alloc (.cells #[.int .i64 0, .int .i64 0, .int .i64 0, .int .i64 0, .string ⟨#[]⟩, .slice none 0 0] 53)) (h.below ((Below.refl _ w).alloc hlt _)) h1).mono ?_
  rintro r w1 ⟨rfl, hr1, hk1⟩
  have hY : Ky w rb w1.heap.size 0 k 0 0 (w1.alloc (.cells #[.int .i64 0, .int .i64 k, .int .i64 0, .int .i64 0, .string ⟨#[]⟩, .slice none 0 0] 53)) := Ky.new ((At.start w rb).step hlt hk1)
  have hR : Rd (w1.alloc (.cells #[.int .i64 0, .int .i64 k, .int .i64 0, .int .i64 0, .string ⟨#[]⟩, .slice none 0 0] 53)) rb ws (p + 1) := hr1.below ((Below.refl _ w1).alloc hr1.lt _)
  obtain ⟨V1, hV1⟩ : ∃ V, V = w1.alloc (.cells #[.int .i64 0, .int .i64 k, .int .i64 0, .int .i64 0, .string ⟨#[]⟩, .slice none 0 0] 53) := ⟨_, rfl⟩
  have HV1 : Hid (V1 = w1.alloc (.cells #[.int .i64 0, .int .i64 k, .int .i64 0, .int .i64 0, .string ⟨#[]⟩, .slice none 0 0] 53)) := hV1
  rw [← hV1] at hY hR
  clear hV1 hr1 hk1
  go_wp2_with fail
  rw [← HV1.out]
  clear HV1
  refine ((fun w (h : Rd w rb ws (p + 1)) => by have c := mark31 rb ws (p + 1) 61 ⟨#[61]⟩ rfl w h; rw [h2] at c; exact c : ∀ w, Rd w rb ws (p + 1) → Calls Tryz.prog 64 #[.pointer (some ⟨rb, 0, none⟩), .string ⟨#[61]⟩] w fun e w' => e = .returned (.bool false) ∧ WentR rb ws (p + 1) w w') _ hR).mono ?_
  rintro r w12 ⟨rfl, hw⟩
  replace hY : Ky w rb w1.heap.size 0 k 0 0 w12 := hY.step hlt hw.2
  replace hR := hw.1
  clear hw
  obtain ⟨y0, y1, y2, y3, y4, y5⟩ := hY.six
  simp only [Nat.zero_add] at y0 y1 y2 y3 y4 y5
  have ff := hY.fz
  have slo := hY.lo
  have shi := hY.hi
  have HY : Hid (Ky w rb w1.heap.size 0 k 0 0 w12) := hY
  have HR : Hid (Rd w12 rb ws (p + 1)) := hR
  clear hY hR
  go_wp2_with fail
  have hY := HY.out
  have hR := HR.out
  clear HY HR
  clear y0 y1 y2 y3 y4 y5 ff shi
  refine ((fun w (h : Rd w rb ws (p + 1)) => by have c := mark31 rb ws (p + 1) 58 ⟨#[58]⟩ rfl w h; rw [h3] at c; exact c : ∀ w, Rd w rb ws (p + 1) → Calls Tryz.prog 64 #[.pointer (some ⟨rb, 0, none⟩), .string ⟨#[58]⟩] w fun e w' => e = .returned (.bool false) ∧ WentR rb ws (p + 1) w w') _ hR).mono ?_
  rintro r w13 ⟨rfl, hw⟩
  replace hY : Ky w rb w1.heap.size 0 k 0 0 w13 := hY.step hlt hw.2
  replace hR := hw.1
  clear hw
  obtain ⟨y0, y1, y2, y3, y4, y5⟩ := hY.six
  simp only [Nat.zero_add] at y0 y1 y2 y3 y4 y5
  have ff := hY.fz
  have slo := hY.lo
  have shi := hY.hi
  have HY : Hid (Ky w rb w1.heap.size 0 k 0 0 w13) := hY
  have HR : Hid (Rd w13 rb ws (p + 1)) := hR
  clear hY hR
  obtain ⟨_, hp1, _, _, _, _, _, _, _, q1, _⟩ := HR.out
  go_wp2_with fail
  have hY := HY.out
  have hR := HR.out
  clear HY HR
  clear y0 y1 y2 y3 y4 y5 ff shi
  clear q1
  refine (fail44 rb ws (p + 1) (p + 1) _ hR (by omega)).mono ?_
  rintro r w14 ⟨rfl, hw⟩
  replace hY : Ky w rb w1.heap.size 0 k 0 0 w14 := hY.step hlt hw.2
  replace hR := hw.1
  clear hw
  obtain ⟨y0, y1, y2, y3, y4, y5⟩ := hY.six
  simp only [Nat.zero_add] at y0 y1 y2 y3 y4 y5
  have ff := hY.fz
  have slo := hY.lo
  have shi := hY.hi
  have z1 := hY.at_.z
  have f1 := hY.at_.f
  have s1 := hY.at_.s
  have ne1 : w.heap.size ≠ w1.heap.size := by omega
  have ne2 : w1.heap.size ≠ w.heap.size := by omega
  have HY : Hid (Ky w rb w1.heap.size 0 k 0 0 w14) := hY
  have HR : Hid (Bd w14 rb) := hR
  clear hY hR
  go_wp2
  refine bodyPost_ret (v := .agg #[.int .i64 0, .int .i64 k, .int .i64 0, .int .i64 0, .string ⟨#[]⟩, .slice none 0 0]) (by simp [results, Tryz.results88, go_sem, z1]) rfl ⟨⟨_, _, _, _, _, _, _, rfl⟩, ?_, ?_⟩
  · exact (HR.out).below (below_six hlt)
  · exact kept_six HY.out.at_.k

end Rf
end Go.Proofs.YtdeojcodbojmoaaGreatDoor
namespace Go.Proofs.YtdeojcodbojmoaaGreatDoor
namespace Rf
open Go.RowKit
set_option maxRecDepth 100000
set_option linter.unusedVariables false

set_option maxHeartbeats 4000000 in
theorem key_no2 (rb : Nat) (ws : List Wd.Word) (p : Nat) (w : World) (h : Rd w rb ws p) (k : Int) (h1 : Ps.num ws p 4 = some k) (h2 : Ps.isMark ws (p + 1) 61 = true) (h3 : Ps.num ws (p + 2) 100 = none) : Calls Tryz.prog 88 #[.pointer (some ⟨rb, 0, none⟩)] w (FB rb w) := by
  have hlt := h.lt
  have hl60 := h.1
  go_enter Tryz.func88, Tryz.ntmps88
  go_wp2_with fail
  refine (num38 rb ws p 4 k (w.alloc (.cells #[.int .i64 0, .int .i64 0, .int .i64 0, .int .i64 0, .string ⟨#[]⟩, .slice none 0 0] 53)) (h.below ((Below.refl _ w).alloc hlt _)) h1).mono ?_
  rintro r w1 ⟨rfl, hr1, hk1⟩
  have hY : Ky w rb w1.heap.size 0 k 0 0 (w1.alloc (.cells #[.int .i64 0, .int .i64 k, .int .i64 0, .int .i64 0, .string ⟨#[]⟩, .slice none 0 0] 53)) := Ky.new ((At.start w rb).step hlt hk1)
  have hR : Rd (w1.alloc (.cells #[.int .i64 0, .int .i64 k, .int .i64 0, .int .i64 0, .string ⟨#[]⟩, .slice none 0 0] 53)) rb ws (p + 1) := hr1.below ((Below.refl _ w1).alloc hr1.lt _)
  obtain ⟨V1, hV1⟩ : ∃ V, V = w1.alloc (.cells #[.int .i64 0, .int .i64 k, .int .i64 0, .int .i64 0, .string ⟨#[]⟩, .slice none 0 0] 53) := ⟨_, rfl⟩
  have HV1 : Hid (V1 = w1.alloc (.cells #[.int .i64 0, .int .i64 k, .int .i64 0, .int .i64 0, .string ⟨#[]⟩, .slice none 0 0] 53)) := hV1
  rw [← hV1] at hY hR
  clear hV1 hr1 hk1
  go_wp2_with fail
  rw [← HV1.out]
  clear HV1
  refine ((fun w (h : Rd w rb ws (p + 1)) => by have c := mark31 rb ws (p + 1) 61 ⟨#[61]⟩ rfl w h; rw [h2] at c; exact c : ∀ w, Rd w rb ws (p + 1) → Calls Tryz.prog 64 #[.pointer (some ⟨rb, 0, none⟩), .string ⟨#[61]⟩] w fun e w' => e = .returned (.bool true) ∧ WentR rb ws (p + 1 + 1) w w') _ hR).mono ?_
  rintro r w12 ⟨rfl, hw⟩
  replace hY : Ky w rb w1.heap.size 0 k 0 0 w12 := hY.step hlt hw.2
  replace hR := hw.1
  clear hw
  obtain ⟨y0, y1, y2, y3, y4, y5⟩ := hY.six
  simp only [Nat.zero_add] at y0 y1 y2 y3 y4 y5
  have ff := hY.fz
  have slo := hY.lo
  have shi := hY.hi
  have HY : Hid (Ky w rb w1.heap.size 0 k 0 0 w12) := hY
  have HR : Hid (Rd w12 rb ws (p + 1 + 1)) := hR
  clear hY hR
  go_wp2_with fail
  obtain ⟨V3, hV3⟩ : ∃ V, V = (w12).setCell ⟨w1.heap.size, 0, none⟩ (.int .i64 2) := ⟨_, rfl⟩
  rw [← hV3]
  have hY : Ky w rb w1.heap.size 2 k 0 0 V3 := by rw [hV3]; exact (HY.out).set0 2
  have hR : Rd V3 rb ws (p + 1 + 1) := by rw [hV3]; exact HR.out.below ((Below.refl _ _).setCell (p := ⟨w1.heap.size, 0, none⟩) (by show rb + 1 ≤ w1.heap.size; omega) _)
  clear hV3 HY HR
  clear y0 y1 y2 y3 y4 y5 ff shi
  refine (num_no97 rb ws (p + 1 + 1) 100 _ hR h3).mono ?_
  rintro r w14 ⟨rfl, hw⟩
  replace hY : Ky w rb w1.heap.size 2 k 0 0 w14 := hY.step hlt hw.2
  replace hR := hw.1
  clear hw
  obtain ⟨y0, y1, y2, y3, y4, y5⟩ := hY.six
  simp only [Nat.zero_add] at y0 y1 y2 y3 y4 y5
  have ff := hY.fz
  have slo := hY.lo
  have shi := hY.hi
  have z1 := hY.at_.z
  have f1 := hY.at_.f
  have s1 := hY.at_.s
  have ne1 : w.heap.size ≠ w1.heap.size := by omega
  have ne2 : w1.heap.size ≠ w.heap.size := by omega
  have HY : Hid (Ky w rb w1.heap.size 2 k 0 0 w14) := hY
  have HR : Hid (Bd w14 rb) := hR
  clear hY hR
  go_wp2
  refine bodyPost_ret (v := .agg #[.int .i64 2, .int .i64 k, .int .i64 0, .int .i64 0, .string ⟨#[]⟩, .slice none 0 0]) (by simp [results, Tryz.results88, go_sem, z1]) rfl ⟨⟨_, _, _, _, _, _, _, rfl⟩, ?_, ?_⟩
  · exact Bd.below (Bd.set (Bd.set HR.out (b := w1.heap.size) (i := 2) (by omega) (.int .i64 0)) (b := w1.heap.size) (i := 3) (by omega) (.int .i64 0)) (below_six hlt)
  · exact kept_six ((HY.out.set2 0).set3 0).at_.k

end Rf
end Go.Proofs.YtdeojcodbojmoaaGreatDoor
namespace Go.Proofs.YtdeojcodbojmoaaGreatDoor
namespace Rf
open Go.RowKit
set_option maxRecDepth 100000
set_option linter.unusedVariables false

set_option maxHeartbeats 4000000 in
theorem key_no3 (rb : Nat) (ws : List Wd.Word) (p : Nat) (w : World) (h : Rd w rb ws p) (k : Int) (h1 : Ps.num ws p 4 = some k) (h2 : Ps.isMark ws (p + 1) 61 = false) (h3 : Ps.isMark ws (p + 1) 58 = true) (h4 : Ps.num ws (p + 2) 100 = none) : Calls Tryz.prog 88 #[.pointer (some ⟨rb, 0, none⟩)] w (FB rb w) := by
  have hlt := h.lt
  have hl60 := h.1
  go_enter Tryz.func88, Tryz.ntmps88
  go_wp2_with fail
  refine (num38 rb ws p 4 k (w.alloc (.cells #[.int .i64 0, .int .i64 0, .int .i64 0, .int .i64 0, .string ⟨#[]⟩, .slice none 0 0] 53)) (h.below ((Below.refl _ w).alloc hlt _)) h1).mono ?_
  rintro r w1 ⟨rfl, hr1, hk1⟩
  have hY : Ky w rb w1.heap.size 0 k 0 0 (w1.alloc (.cells #[.int .i64 0, .int .i64 k, .int .i64 0, .int .i64 0, .string ⟨#[]⟩, .slice none 0 0] 53)) := Ky.new ((At.start w rb).step hlt hk1)
  have hR : Rd (w1.alloc (.cells #[.int .i64 0, .int .i64 k, .int .i64 0, .int .i64 0, .string ⟨#[]⟩, .slice none 0 0] 53)) rb ws (p + 1) := hr1.below ((Below.refl _ w1).alloc hr1.lt _)
  obtain ⟨V1, hV1⟩ : ∃ V, V = w1.alloc (.cells #[.int .i64 0, .int .i64 k, .int .i64 0, .int .i64 0, .string ⟨#[]⟩, .slice none 0 0] 53) := ⟨_, rfl⟩
  have HV1 : Hid (V1 = w1.alloc (.cells #[.int .i64 0, .int .i64 k, .int .i64 0, .int .i64 0, .string ⟨#[]⟩, .slice none 0 0] 53)) := hV1
  rw [← hV1] at hY hR
  clear hV1 hr1 hk1
  go_wp2_with fail
  rw [← HV1.out]
  clear HV1
  refine ((fun w (h : Rd w rb ws (p + 1)) => by have c := mark31 rb ws (p + 1) 61 ⟨#[61]⟩ rfl w h; rw [h2] at c; exact c : ∀ w, Rd w rb ws (p + 1) → Calls Tryz.prog 64 #[.pointer (some ⟨rb, 0, none⟩), .string ⟨#[61]⟩] w fun e w' => e = .returned (.bool false) ∧ WentR rb ws (p + 1) w w') _ hR).mono ?_
  rintro r w12 ⟨rfl, hw⟩
  replace hY : Ky w rb w1.heap.size 0 k 0 0 w12 := hY.step hlt hw.2
  replace hR := hw.1
  clear hw
  obtain ⟨y0, y1, y2, y3, y4, y5⟩ := hY.six
  simp only [Nat.zero_add] at y0 y1 y2 y3 y4 y5
  have ff := hY.fz
  have slo := hY.lo
  have shi := hY.hi
  have HY : Hid (Ky w rb w1.heap.size 0 k 0 0 w12) := hY
  have HR : Hid (Rd w12 rb ws (p + 1)) := hR
  clear hY hR
  go_wp2_with fail
  have hY := HY.out
  have hR := HR.out
  clear HY HR
  clear y0 y1 y2 y3 y4 y5 ff shi
  refine ((fun w (h : Rd w rb ws (p + 1)) => by have c := mark31 rb ws (p + 1) 58 ⟨#[58]⟩ rfl w h; rw [h3] at c; exact c : ∀ w, Rd w rb ws (p + 1) → Calls Tryz.prog 64 #[.pointer (some ⟨rb, 0, none⟩), .string ⟨#[58]⟩] w fun e w' => e = .returned (.bool true) ∧ WentR rb ws (p + 1 + 1) w w') _ hR).mono ?_
  rintro r w13 ⟨rfl, hw⟩
  replace hY : Ky w rb w1.heap.size 0 k 0 0 w13 := hY.step hlt hw.2
  replace hR := hw.1
  clear hw
  obtain ⟨y0, y1, y2, y3, y4, y5⟩ := hY.six
  simp only [Nat.zero_add] at y0 y1 y2 y3 y4 y5
  have ff := hY.fz
  have slo := hY.lo
  have shi := hY.hi
  have HY : Hid (Ky w rb w1.heap.size 0 k 0 0 w13) := hY
  have HR : Hid (Rd w13 rb ws (p + 1 + 1)) := hR
  clear hY hR
  go_wp2_with fail
  obtain ⟨V4, hV4⟩ : ∃ V, V = (w13).setCell ⟨w1.heap.size, 0, none⟩ (.int .i64 3) := ⟨_, rfl⟩
  rw [← hV4]
  have hY : Ky w rb w1.heap.size 3 k 0 0 V4 := by rw [hV4]; exact (HY.out).set0 3
  have hR : Rd V4 rb ws (p + 1 + 1) := by rw [hV4]; exact HR.out.below ((Below.refl _ _).setCell (p := ⟨w1.heap.size, 0, none⟩) (by show rb + 1 ≤ w1.heap.size; omega) _)
  clear hV4 HY HR
  clear y0 y1 y2 y3 y4 y5 ff shi
  refine (num_no97 rb ws (p + 1 + 1) 100 _ hR h4).mono ?_
  rintro r w15 ⟨rfl, hw⟩
  replace hY : Ky w rb w1.heap.size 3 k 0 0 w15 := hY.step hlt hw.2
  replace hR := hw.1
  clear hw
  obtain ⟨y0, y1, y2, y3, y4, y5⟩ := hY.six
  simp only [Nat.zero_add] at y0 y1 y2 y3 y4 y5
  have ff := hY.fz
  have slo := hY.lo
  have shi := hY.hi
  have HY : Hid (Ky w rb w1.heap.size 3 k 0 0 w15) := hY
  have HR : Hid (Bd w15 rb) := hR
  clear hY hR
  go_wp2_with fail
  obtain ⟨V6, hV6⟩ : ∃ V, V = (w15).setCell ⟨w1.heap.size, 2, none⟩ (.int .i64 0) := ⟨_, rfl⟩
  rw [← hV6]
  have hY : Ky w rb w1.heap.size 3 k 0 0 V6 := by rw [hV6]; exact (HY.out).set2 0
  have hR : Bd V6 rb := by rw [hV6]; exact HR.out.below ((Below.refl _ _).setCell (p := ⟨w1.heap.size, 2, none⟩) (by show rb + 1 ≤ w1.heap.size; omega) _)
  clear hV6 HY HR
  clear y0 y1 y2 y3 y4 y5 ff shi
  refine (mark_bad rb ⟨#[45]⟩ _ hR).mono ?_
  rintro r w17 ⟨rfl, n, hn⟩
  replace hY : Ky w rb w1.heap.size 3 k 0 0 w17 := by rw [hn]; exact hY.step hlt (kept_drewN _)
  replace hR : Bd w17 rb := by rw [hn]; exact hR.drewN
  clear hn
  obtain ⟨y0, y1, y2, y3, y4, y5⟩ := hY.six
  simp only [Nat.zero_add] at y0 y1 y2 y3 y4 y5
  have ff := hY.fz
  have slo := hY.lo
  have shi := hY.hi
  have HY : Hid (Ky w rb w1.heap.size 3 k 0 0 w17) := hY
  have HR : Hid (Bd w17 rb) := hR
  clear hY hR
  obtain ⟨_, ao9, len9, cap9, pp9, en9, po9, _, _, q0, q1, q2, q3, q4⟩ := HR.out
  go_wp2_with fail
  have hY := HY.out
  have hR := HR.out
  clear HY HR
  clear y0 y1 y2 y3 y4 y5 ff shi
  clear q0 q1 q2 q3 q4
  refine (fail_bad rb _ _ hR).mono ?_
  rintro r w18 ⟨rfl, rfl⟩
  replace hY : Ky w rb w1.heap.size 3 k 0 0 w18 := hY
  obtain ⟨y0, y1, y2, y3, y4, y5⟩ := hY.six
  simp only [Nat.zero_add] at y0 y1 y2 y3 y4 y5
  have ff := hY.fz
  have slo := hY.lo
  have shi := hY.hi
  have HY : Hid (Ky w rb w1.heap.size 3 k 0 0 w18) := hY
  have HR : Hid (Bd w18 rb) := hR
  clear hY hR
  go_wp2_with fail
  have hY := HY.out
  have hR := HR.out
  clear HY HR
  clear y0 y1 y2 y3 y4 y5 ff shi
  refine (num_bad rb 100 _ hR).mono ?_
  rintro r w19 ⟨rfl, rfl⟩
  replace hY : Ky w rb w1.heap.size 3 k 0 0 w19 := hY
  obtain ⟨y0, y1, y2, y3, y4, y5⟩ := hY.six
  simp only [Nat.zero_add] at y0 y1 y2 y3 y4 y5
  have ff := hY.fz
  have slo := hY.lo
  have shi := hY.hi
  have z1 := hY.at_.z
  have f1 := hY.at_.f
  have s1 := hY.at_.s
  have ne1 : w.heap.size ≠ w1.heap.size := by omega
  have ne2 : w1.heap.size ≠ w.heap.size := by omega
  have HY : Hid (Ky w rb w1.heap.size 3 k 0 0 w19) := hY
  have HR : Hid (Bd w19 rb) := hR
  clear hY hR
  obtain ⟨_, ao9, len9, cap9, pp9, en9, po9, _, _, q0, q1, q2, q3, q4⟩ := HR.out
  go_wp2
  refine bodyPost_ret (v := .agg #[.int .i64 3, .int .i64 k, .int .i64 0, .int .i64 0, .string ⟨#[]⟩, .slice none 0 0]) (by simp [results, Tryz.results88, go_sem, z1]) rfl ⟨⟨_, _, _, _, _, _, _, rfl⟩, ?_, ?_⟩
  · exact Bd.below (Bd.set HR.out (b := w1.heap.size) (i := 3) (by omega) (.int .i64 0)) (below_six hlt)
  · exact kept_six (HY.out.set3 0).at_.k

end Rf
end Go.Proofs.YtdeojcodbojmoaaGreatDoor
namespace Go.Proofs.YtdeojcodbojmoaaGreatDoor
namespace Rf
open Go.RowKit
set_option maxRecDepth 100000
set_option linter.unusedVariables false

set_option maxHeartbeats 4000000 in
theorem key_no4 (rb : Nat) (ws : List Wd.Word) (p : Nat) (w : World) (h : Rd w rb ws p) (k : Int) (h1 : Ps.num ws p 4 = some k) (h2 : Ps.isMark ws (p + 1) 61 = false) (h3 : Ps.isMark ws (p + 1) 58 = true) (a : Int) (h4 : Ps.num ws (p + 2) 100 = some a) (h5 : Ps.isMark ws (p + 3) 45 = false) : Calls Tryz.prog 88 #[.pointer (some ⟨rb, 0, none⟩)] w (FB rb w) := by
  have hlt := h.lt
  have hl60 := h.1
  go_enter Tryz.func88, Tryz.ntmps88
  go_wp2_with fail
  refine (num38 rb ws p 4 k (w.alloc (.cells #[.int .i64 0, .int .i64 0, .int .i64 0, .int .i64 0, .string ⟨#[]⟩, .slice none 0 0] 53)) (h.below ((Below.refl _ w).alloc hlt _)) h1).mono ?_
  rintro r w1 ⟨rfl, hr1, hk1⟩
  have hY : Ky w rb w1.heap.size 0 k 0 0 (w1.alloc (.cells #[.int .i64 0, .int .i64 k, .int .i64 0, .int .i64 0, .string ⟨#[]⟩, .slice none 0 0] 53)) := Ky.new ((At.start w rb).step hlt hk1)
  have hR : Rd (w1.alloc (.cells #[.int .i64 0, .int .i64 k, .int .i64 0, .int .i64 0, .string ⟨#[]⟩, .slice none 0 0] 53)) rb ws (p + 1) := hr1.below ((Below.refl _ w1).alloc hr1.lt _)
  obtain ⟨V1, hV1⟩ : ∃ V, V = w1.alloc (.cells #[.int .i64 0, .int .i64 k, .int .i64 0, .int .i64 0, .string ⟨#[]⟩, .slice none 0 0] 53) := ⟨_, rfl⟩
  have HV1 : Hid (V1 = w1.alloc (.cells #[.int .i64 0, .int .i64 k, .int .i64 0, .int .i64 0, .string ⟨#[]⟩, .slice none 0 0] 53)) := hV1
  rw [← hV1] at hY hR
  clear hV1 hr1 hk1
  go_wp2_with fail
  rw [← HV1.out]
  clear HV1
  refine ((fun w (h : Rd w rb ws (p + 1)) => by have c := mark31 rb ws (p + 1) 61 ⟨#[61]⟩ rfl w h; rw [h2] at c; exact c : ∀ w, Rd w rb ws (p + 1) → Calls Tryz.prog 64 #[.pointer (some ⟨rb, 0, none⟩), .string ⟨#[61]⟩] w fun e w' => e = .returned (.bool false) ∧ WentR rb ws (p + 1) w w') _ hR).mono ?_
  rintro r w12 ⟨rfl, hw⟩
  replace hY : Ky w rb w1.heap.size 0 k 0 0 w12 := hY.step hlt hw.2
  replace hR := hw.1
  clear hw
  obtain ⟨y0, y1, y2, y3, y4, y5⟩ := hY.six
  simp only [Nat.zero_add] at y0 y1 y2 y3 y4 y5
  have ff := hY.fz
  have slo := hY.lo
  have shi := hY.hi
  have HY : Hid (Ky w rb w1.heap.size 0 k 0 0 w12) := hY
  have HR : Hid (Rd w12 rb ws (p + 1)) := hR
  clear hY hR
  go_wp2_with fail
  have hY := HY.out
  have hR := HR.out
  clear HY HR
  clear y0 y1 y2 y3 y4 y5 ff shi
  refine ((fun w (h : Rd w rb ws (p + 1)) => by have c := mark31 rb ws (p + 1) 58 ⟨#[58]⟩ rfl w h; rw [h3] at c; exact c : ∀ w, Rd w rb ws (p + 1) → Calls Tryz.prog 64 #[.pointer (some ⟨rb, 0, none⟩), .string ⟨#[58]⟩] w fun e w' => e = .returned (.bool true) ∧ WentR rb ws (p + 1 + 1) w w') _ hR).mono ?_
  rintro r w13 ⟨rfl, hw⟩
  replace hY : Ky w rb w1.heap.size 0 k 0 0 w13 := hY.step hlt hw.2
  replace hR := hw.1
  clear hw
  obtain ⟨y0, y1, y2, y3, y4, y5⟩ := hY.six
  simp only [Nat.zero_add] at y0 y1 y2 y3 y4 y5
  have ff := hY.fz
  have slo := hY.lo
  have shi := hY.hi
  have HY : Hid (Ky w rb w1.heap.size 0 k 0 0 w13) := hY
  have HR : Hid (Rd w13 rb ws (p + 1 + 1)) := hR
  clear hY hR
  go_wp2_with fail
  obtain ⟨V4, hV4⟩ : ∃ V, V = (w13).setCell ⟨w1.heap.size, 0, none⟩ (.int .i64 3) := ⟨_, rfl⟩
  rw [← hV4]
  have hY : Ky w rb w1.heap.size 3 k 0 0 V4 := by rw [hV4]; exact (HY.out).set0 3
  have hR : Rd V4 rb ws (p + 1 + 1) := by rw [hV4]; exact HR.out.below ((Below.refl _ _).setCell (p := ⟨w1.heap.size, 0, none⟩) (by show rb + 1 ≤ w1.heap.size; omega) _)
  clear hV4 HY HR
  clear y0 y1 y2 y3 y4 y5 ff shi
  refine (num38 rb ws (p + 1 + 1) 100 a _ hR h4).mono ?_
  rintro r w15 ⟨rfl, hw⟩
  replace hY : Ky w rb w1.heap.size 3 k 0 0 w15 := hY.step hlt hw.2
  replace hR := hw.1
  clear hw
  obtain ⟨y0, y1, y2, y3, y4, y5⟩ := hY.six
  simp only [Nat.zero_add] at y0 y1 y2 y3 y4 y5
  have ff := hY.fz
  have slo := hY.lo
  have shi := hY.hi
  have HY : Hid (Ky w rb w1.heap.size 3 k 0 0 w15) := hY
  have HR : Hid (Rd w15 rb ws (p + 1 + 1 + 1)) := hR
  clear hY hR
  go_wp2_with fail
  obtain ⟨V6, hV6⟩ : ∃ V, V = (w15).setCell ⟨w1.heap.size, 2, none⟩ (.int .i64 a) := ⟨_, rfl⟩
  rw [← hV6]
  have hY : Ky w rb w1.heap.size 3 k a 0 V6 := by rw [hV6]; exact (HY.out).set2 a
  have hR : Rd V6 rb ws (p + 1 + 1 + 1) := by rw [hV6]; exact HR.out.below ((Below.refl _ _).setCell (p := ⟨w1.heap.size, 2, none⟩) (by show rb + 1 ≤ w1.heap.size; omega) _)
  clear hV6 HY HR
  clear y0 y1 y2 y3 y4 y5 ff shi
  refine ((fun w (h : Rd w rb ws (p + 1 + 1 + 1)) => by have c := mark31 rb ws (p + 1 + 1 + 1) 45 ⟨#[45]⟩ rfl w h; rw [h5] at c; exact c : ∀ w, Rd w rb ws (p + 1 + 1 + 1) → Calls Tryz.prog 64 #[.pointer (some ⟨rb, 0, none⟩), .string ⟨#[45]⟩] w fun e w' => e = .returned (.bool false) ∧ WentR rb ws (p + 1 + 1 + 1) w w') _ hR).mono ?_
  rintro r w17 ⟨rfl, hw⟩
  replace hY : Ky w rb w1.heap.size 3 k a 0 w17 := hY.step hlt hw.2
  replace hR := hw.1
  clear hw
  obtain ⟨y0, y1, y2, y3, y4, y5⟩ := hY.six
  simp only [Nat.zero_add] at y0 y1 y2 y3 y4 y5
  have ff := hY.fz
  have slo := hY.lo
  have shi := hY.hi
  have HY : Hid (Ky w rb w1.heap.size 3 k a 0 w17) := hY
  have HR : Hid (Rd w17 rb ws (p + 1 + 1 + 1)) := hR
  clear hY hR
  obtain ⟨_, hp1, _, ao9, cap9, en9, po9, b9, q0, q1, q2, q3, q4, _, _⟩ := HR.out
  go_wp2_with fail
  have hY := HY.out
  have hR := HR.out
  clear HY HR
  clear y0 y1 y2 y3 y4 y5 ff shi
  clear q0 q1 q2 q3 q4
  refine (fail44 rb ws (p + 1 + 1 + 1) (p + 1 + 1 + 1) _ hR (by omega)).mono ?_
  rintro r w18 ⟨rfl, hw⟩
  replace hY : Ky w rb w1.heap.size 3 k a 0 w18 := hY.step hlt hw.2
  replace hR := hw.1
  clear hw
  obtain ⟨y0, y1, y2, y3, y4, y5⟩ := hY.six
  simp only [Nat.zero_add] at y0 y1 y2 y3 y4 y5
  have ff := hY.fz
  have slo := hY.lo
  have shi := hY.hi
  have HY : Hid (Ky w rb w1.heap.size 3 k a 0 w18) := hY
  have HR : Hid (Bd w18 rb) := hR
  clear hY hR
  go_wp2_with fail
  have hY := HY.out
  have hR := HR.out
  clear HY HR
  clear y0 y1 y2 y3 y4 y5 ff shi
  refine (num_bad rb 100 _ hR).mono ?_
  rintro r w19 ⟨rfl, rfl⟩
  replace hY : Ky w rb w1.heap.size 3 k a 0 w19 := hY
  obtain ⟨y0, y1, y2, y3, y4, y5⟩ := hY.six
  simp only [Nat.zero_add] at y0 y1 y2 y3 y4 y5
  have ff := hY.fz
  have slo := hY.lo
  have shi := hY.hi
  have z1 := hY.at_.z
  have f1 := hY.at_.f
  have s1 := hY.at_.s
  have ne1 : w.heap.size ≠ w1.heap.size := by omega
  have ne2 : w1.heap.size ≠ w.heap.size := by omega
  have HY : Hid (Ky w rb w1.heap.size 3 k a 0 w19) := hY
  have HR : Hid (Bd w19 rb) := hR
  clear hY hR
  obtain ⟨_, ao9, len9, cap9, pp9, en9, po9, _, _, q0, q1, q2, q3, q4⟩ := HR.out
  go_wp2
  refine bodyPost_ret (v := .agg #[.int .i64 3, .int .i64 k, .int .i64 a, .int .i64 0, .string ⟨#[]⟩, .slice none 0 0]) (by simp [results, Tryz.results88, go_sem, z1]) rfl ⟨⟨_, _, _, _, _, _, _, rfl⟩, ?_, ?_⟩
  · exact Bd.below (Bd.set HR.out (b := w1.heap.size) (i := 3) (by omega) (.int .i64 0)) (below_six hlt)
  · exact kept_six (HY.out.set3 0).at_.k

end Rf
end Go.Proofs.YtdeojcodbojmoaaGreatDoor
namespace Go.Proofs.YtdeojcodbojmoaaGreatDoor
namespace Rf
open Go.RowKit
set_option maxRecDepth 100000
set_option linter.unusedVariables false

set_option maxHeartbeats 4000000 in
theorem key_no5 (rb : Nat) (ws : List Wd.Word) (p : Nat) (w : World) (h : Rd w rb ws p) (k : Int) (h1 : Ps.num ws p 4 = some k) (h2 : Ps.isMark ws (p + 1) 61 = false) (h3 : Ps.isMark ws (p + 1) 58 = true) (a : Int) (h4 : Ps.num ws (p + 2) 100 = some a) (h5 : Ps.isMark ws (p + 3) 45 = true) (h6 : Ps.num ws (p + 4) 100 = none) : Calls Tryz.prog 88 #[.pointer (some ⟨rb, 0, none⟩)] w (FB rb w) := by
  have hlt := h.lt
  have hl60 := h.1
  go_enter Tryz.func88, Tryz.ntmps88
  go_wp2_with fail
  refine (num38 rb ws p 4 k (w.alloc (.cells #[.int .i64 0, .int .i64 0, .int .i64 0, .int .i64 0, .string ⟨#[]⟩, .slice none 0 0] 53)) (h.below ((Below.refl _ w).alloc hlt _)) h1).mono ?_
  rintro r w1 ⟨rfl, hr1, hk1⟩
  have hY : Ky w rb w1.heap.size 0 k 0 0 (w1.alloc (.cells #[.int .i64 0, .int .i64 k, .int .i64 0, .int .i64 0, .string ⟨#[]⟩, .slice none 0 0] 53)) := Ky.new ((At.start w rb).step hlt hk1)
  have hR : Rd (w1.alloc (.cells #[.int .i64 0, .int .i64 k, .int .i64 0, .int .i64 0, .string ⟨#[]⟩, .slice none 0 0] 53)) rb ws (p + 1) := hr1.below ((Below.refl _ w1).alloc hr1.lt _)
  obtain ⟨V1, hV1⟩ : ∃ V, V = w1.alloc (.cells #[.int .i64 0, .int .i64 k, .int .i64 0, .int .i64 0, .string ⟨#[]⟩, .slice none 0 0] 53) := ⟨_, rfl⟩
  have HV1 : Hid (V1 = w1.alloc (.cells #[.int .i64 0, .int .i64 k, .int .i64 0, .int .i64 0, .string ⟨#[]⟩, .slice none 0 0] 53)) := hV1
  rw [← hV1] at hY hR
  clear hV1 hr1 hk1
  go_wp2_with fail
  rw [← HV1.out]
  clear HV1
  refine ((fun w (h : Rd w rb ws (p + 1)) => by have c := mark31 rb ws (p + 1) 61 ⟨#[61]⟩ rfl w h; rw [h2] at c; exact c : ∀ w, Rd w rb ws (p + 1) → Calls Tryz.prog 64 #[.pointer (some ⟨rb, 0, none⟩), .string ⟨#[61]⟩] w fun e w' => e = .returned (.bool false) ∧ WentR rb ws (p + 1) w w') _ hR).mono ?_
  rintro r w12 ⟨rfl, hw⟩
  replace hY : Ky w rb w1.heap.size 0 k 0 0 w12 := hY.step hlt hw.2
  replace hR := hw.1
  clear hw
  obtain ⟨y0, y1, y2, y3, y4, y5⟩ := hY.six
  simp only [Nat.zero_add] at y0 y1 y2 y3 y4 y5
  have ff := hY.fz
  have slo := hY.lo
  have shi := hY.hi
  have HY : Hid (Ky w rb w1.heap.size 0 k 0 0 w12) := hY
  have HR : Hid (Rd w12 rb ws (p + 1)) := hR
  clear hY hR
  go_wp2_with fail
  have hY := HY.out
  have hR := HR.out
  clear HY HR
  clear y0 y1 y2 y3 y4 y5 ff shi
  refine ((fun w (h : Rd w rb ws (p + 1)) => by have c := mark31 rb ws (p + 1) 58 ⟨#[58]⟩ rfl w h; rw [h3] at c; exact c : ∀ w, Rd w rb ws (p + 1) → Calls Tryz.prog 64 #[.pointer (some ⟨rb, 0, none⟩), .string ⟨#[58]⟩] w fun e w' => e = .returned (.bool true) ∧ WentR rb ws (p + 1 + 1) w w') _ hR).mono ?_
  rintro r w13 ⟨rfl, hw⟩
  replace hY : Ky w rb w1.heap.size 0 k 0 0 w13 := hY.step hlt hw.2
  replace hR := hw.1
  clear hw
  obtain ⟨y0, y1, y2, y3, y4, y5⟩ := hY.six
  simp only [Nat.zero_add] at y0 y1 y2 y3 y4 y5
  have ff := hY.fz
  have slo := hY.lo
  have shi := hY.hi
  have HY : Hid (Ky w rb w1.heap.size 0 k 0 0 w13) := hY
  have HR : Hid (Rd w13 rb ws (p + 1 + 1)) := hR
  clear hY hR
  go_wp2_with fail
  obtain ⟨V4, hV4⟩ : ∃ V, V = (w13).setCell ⟨w1.heap.size, 0, none⟩ (.int .i64 3) := ⟨_, rfl⟩
  rw [← hV4]
  have hY : Ky w rb w1.heap.size 3 k 0 0 V4 := by rw [hV4]; exact (HY.out).set0 3
  have hR : Rd V4 rb ws (p + 1 + 1) := by rw [hV4]; exact HR.out.below ((Below.refl _ _).setCell (p := ⟨w1.heap.size, 0, none⟩) (by show rb + 1 ≤ w1.heap.size; omega) _)
  clear hV4 HY HR
  clear y0 y1 y2 y3 y4 y5 ff shi
  refine (num38 rb ws (p + 1 + 1) 100 a _ hR h4).mono ?_
  rintro r w15 ⟨rfl, hw⟩
  replace hY : Ky w rb w1.heap.size 3 k 0 0 w15 := hY.step hlt hw.2
  replace hR := hw.1
  clear hw
  obtain ⟨y0, y1, y2, y3, y4, y5⟩ := hY.six
  simp only [Nat.zero_add] at y0 y1 y2 y3 y4 y5
  have ff := hY.fz
  have slo := hY.lo
  have shi := hY.hi
  have HY : Hid (Ky w rb w1.heap.size 3 k 0 0 w15) := hY
  have HR : Hid (Rd w15 rb ws (p + 1 + 1 + 1)) := hR
  clear hY hR
  go_wp2_with fail
  obtain ⟨V6, hV6⟩ : ∃ V, V = (w15).setCell ⟨w1.heap.size, 2, none⟩ (.int .i64 a) := ⟨_, rfl⟩
  rw [← hV6]
  have hY : Ky w rb w1.heap.size 3 k a 0 V6 := by rw [hV6]; exact (HY.out).set2 a
  have hR : Rd V6 rb ws (p + 1 + 1 + 1) := by rw [hV6]; exact HR.out.below ((Below.refl _ _).setCell (p := ⟨w1.heap.size, 2, none⟩) (by show rb + 1 ≤ w1.heap.size; omega) _)
  clear hV6 HY HR
  clear y0 y1 y2 y3 y4 y5 ff shi
  refine ((fun w (h : Rd w rb ws (p + 1 + 1 + 1)) => by have c := mark31 rb ws (p + 1 + 1 + 1) 45 ⟨#[45]⟩ rfl w h; rw [h5] at c; exact c : ∀ w, Rd w rb ws (p + 1 + 1 + 1) → Calls Tryz.prog 64 #[.pointer (some ⟨rb, 0, none⟩), .string ⟨#[45]⟩] w fun e w' => e = .returned (.bool true) ∧ WentR rb ws (p + 1 + 1 + 1 + 1) w w') _ hR).mono ?_
  rintro r w17 ⟨rfl, hw⟩
  replace hY : Ky w rb w1.heap.size 3 k a 0 w17 := hY.step hlt hw.2
  replace hR := hw.1
  clear hw
  obtain ⟨y0, y1, y2, y3, y4, y5⟩ := hY.six
  simp only [Nat.zero_add] at y0 y1 y2 y3 y4 y5
  have ff := hY.fz
  have slo := hY.lo
  have shi := hY.hi
  have HY : Hid (Ky w rb w1.heap.size 3 k a 0 w17) := hY
  have HR : Hid (Rd w17 rb ws (p + 1 + 1 + 1 + 1)) := hR
  clear hY hR
  go_wp2_with fail
  have hY := HY.out
  have hR := HR.out
  clear HY HR
  clear y0 y1 y2 y3 y4 y5 ff shi
  refine (num_no97 rb ws (p + 1 + 1 + 1 + 1) 100 _ hR h6).mono ?_
  rintro r w18 ⟨rfl, hw⟩
  replace hY : Ky w rb w1.heap.size 3 k a 0 w18 := hY.step hlt hw.2
  replace hR := hw.1
  clear hw
  obtain ⟨y0, y1, y2, y3, y4, y5⟩ := hY.six
  simp only [Nat.zero_add] at y0 y1 y2 y3 y4 y5
  have ff := hY.fz
  have slo := hY.lo
  have shi := hY.hi
  have z1 := hY.at_.z
  have f1 := hY.at_.f
  have s1 := hY.at_.s
  have ne1 : w.heap.size ≠ w1.heap.size := by omega
  have ne2 : w1.heap.size ≠ w.heap.size := by omega
  have HY : Hid (Ky w rb w1.heap.size 3 k a 0 w18) := hY
  have HR : Hid (Bd w18 rb) := hR
  clear hY hR
  obtain ⟨_, ao9, len9, cap9, pp9, en9, po9, _, _, q0, q1, q2, q3, q4⟩ := HR.out
  go_wp2
  refine bodyPost_ret (v := .agg #[.int .i64 3, .int .i64 k, .int .i64 a, .int .i64 0, .string ⟨#[]⟩, .slice none 0 0]) (by simp [results, Tryz.results88, go_sem, z1]) rfl ⟨⟨_, _, _, _, _, _, _, rfl⟩, ?_, ?_⟩
  · exact Bd.below (Bd.set HR.out (b := w1.heap.size) (i := 3) (by omega) (.int .i64 0)) (below_six hlt)
  · exact kept_six (HY.out.set3 0).at_.k

end Rf
end Go.Proofs.YtdeojcodbojmoaaGreatDoor
namespace Go.Proofs.YtdeojcodbojmoaaGreatDoor
namespace Rf
open Go.RowKit
set_option maxRecDepth 100000
set_option linter.unusedVariables false

set_option maxHeartbeats 4000000 in
theorem key_no6 (rb : Nat) (ws : List Wd.Word) (p : Nat) (w : World) (h : Rd w rb ws p) (k : Int) (h1 : Ps.num ws p 4 = some k) (h2 : Ps.isMark ws (p + 1) 61 = false) (h3 : Ps.isMark ws (p + 1) 58 = true) (a b : Int) (h4 : Ps.num ws (p + 2) 100 = some a) (h5 : Ps.isMark ws (p + 3) 45 = true) (h6 : Ps.num ws (p + 4) 100 = some b) (h7 : b < a) : Calls Tryz.prog 88 #[.pointer (some ⟨rb, 0, none⟩)] w (FB rb w) := by
  have hlt := h.lt
  have hl60 := h.1
  go_enter Tryz.func88, Tryz.ntmps88
  go_wp2_with fail
  refine (num38 rb ws p 4 k (w.alloc (.cells #[.int .i64 0, .int .i64 0, .int .i64 0, .int .i64 0, .string ⟨#[]⟩, .slice none 0 0] 53)) (h.below ((Below.refl _ w).alloc hlt _)) h1).mono ?_
  rintro r w1 ⟨rfl, hr1, hk1⟩
  have hY : Ky w rb w1.heap.size 0 k 0 0 (w1.alloc (.cells #[.int .i64 0, .int .i64 k, .int .i64 0, .int .i64 0, .string ⟨#[]⟩, .slice none 0 0] 53)) := Ky.new ((At.start w rb).step hlt hk1)
  have hR : Rd (w1.alloc (.cells #[.int .i64 0, .int .i64 k, .int .i64 0, .int .i64 0, .string ⟨#[]⟩, .slice none 0 0] 53)) rb ws (p + 1) := hr1.below ((Below.refl _ w1).alloc hr1.lt _)
  obtain ⟨V1, hV1⟩ : ∃ V, V = w1.alloc (.cells #[.int .i64 0, .int .i64 k, .int .i64 0, .int .i64 0, .string ⟨#[]⟩, .slice none 0 0] 53) := ⟨_, rfl⟩
  have HV1 : Hid (V1 = w1.alloc (.cells #[.int .i64 0, .int .i64 k, .int .i64 0, .int .i64 0, .string ⟨#[]⟩, .slice none 0 0] 53)) := hV1
  rw [← hV1] at hY hR
  clear hV1 hr1 hk1
  go_wp2_with fail
  rw [← HV1.out]
  clear HV1
  refine ((fun w (h : Rd w rb ws (p + 1)) => by have c := mark31 rb ws (p + 1) 61 ⟨#[61]⟩ rfl w h; rw [h2] at c; exact c : ∀ w, Rd w rb ws (p + 1) → Calls Tryz.prog 64 #[.pointer (some ⟨rb, 0, none⟩), .string ⟨#[61]⟩] w fun e w' => e = .returned (.bool false) ∧ WentR rb ws (p + 1) w w') _ hR).mono ?_
  rintro r w12 ⟨rfl, hw⟩
  replace hY : Ky w rb w1.heap.size 0 k 0 0 w12 := hY.step hlt hw.2
  replace hR := hw.1
  clear hw
  obtain ⟨y0, y1, y2, y3, y4, y5⟩ := hY.six
  simp only [Nat.zero_add] at y0 y1 y2 y3 y4 y5
  have ff := hY.fz
  have slo := hY.lo
  have shi := hY.hi
  have HY : Hid (Ky w rb w1.heap.size 0 k 0 0 w12) := hY
  have HR : Hid (Rd w12 rb ws (p + 1)) := hR
  clear hY hR
  go_wp2_with fail
  have hY := HY.out
  have hR := HR.out
  clear HY HR
  clear y0 y1 y2 y3 y4 y5 ff shi
  refine ((fun w (h : Rd w rb ws (p + 1)) => by have c := mark31 rb ws (p + 1) 58 ⟨#[58]⟩ rfl w h; rw [h3] at c; exact c : ∀ w, Rd w rb ws (p + 1) → Calls Tryz.prog 64 #[.pointer (some ⟨rb, 0, none⟩), .string ⟨#[58]⟩] w fun e w' => e = .returned (.bool true) ∧ WentR rb ws (p + 1 + 1) w w') _ hR).mono ?_
  rintro r w13 ⟨rfl, hw⟩
  replace hY : Ky w rb w1.heap.size 0 k 0 0 w13 := hY.step hlt hw.2
  replace hR := hw.1
  clear hw
  obtain ⟨y0, y1, y2, y3, y4, y5⟩ := hY.six
  simp only [Nat.zero_add] at y0 y1 y2 y3 y4 y5
  have ff := hY.fz
  have slo := hY.lo
  have shi := hY.hi
  have HY : Hid (Ky w rb w1.heap.size 0 k 0 0 w13) := hY
  have HR : Hid (Rd w13 rb ws (p + 1 + 1)) := hR
  clear hY hR
  go_wp2_with fail
  obtain ⟨V4, hV4⟩ : ∃ V, V = (w13).setCell ⟨w1.heap.size, 0, none⟩ (.int .i64 3) := ⟨_, rfl⟩
  rw [← hV4]
  have hY : Ky w rb w1.heap.size 3 k 0 0 V4 := by rw [hV4]; exact (HY.out).set0 3
  have hR : Rd V4 rb ws (p + 1 + 1) := by rw [hV4]; exact HR.out.below ((Below.refl _ _).setCell (p := ⟨w1.heap.size, 0, none⟩) (by show rb + 1 ≤ w1.heap.size; omega) _)
  clear hV4 HY HR
  clear y0 y1 y2 y3 y4 y5 ff shi
  refine (num38 rb ws (p + 1 + 1) 100 a _ hR h4).mono ?_
  rintro r w15 ⟨rfl, hw⟩
  replace hY : Ky w rb w1.heap.size 3 k 0 0 w15 := hY.step hlt hw.2
  replace hR := hw.1
  clear hw
  obtain ⟨y0, y1, y2, y3, y4, y5⟩ := hY.six
  simp only [Nat.zero_add] at y0 y1 y2 y3 y4 y5
  have ff := hY.fz
  have slo := hY.lo
  have shi := hY.hi
  have HY : Hid (Ky w rb w1.heap.size 3 k 0 0 w15) := hY
  have HR : Hid (Rd w15 rb ws (p + 1 + 1 + 1)) := hR
  clear hY hR
  go_wp2_with fail
  obtain ⟨V6, hV6⟩ : ∃ V, V = (w15).setCell ⟨w1.heap.size, 2, none⟩ (.int .i64 a) := ⟨_, rfl⟩
  rw [← hV6]
  have hY : Ky w rb w1.heap.size 3 k a 0 V6 := by rw [hV6]; exact (HY.out).set2 a
  have hR : Rd V6 rb ws (p + 1 + 1 + 1) := by rw [hV6]; exact HR.out.below ((Below.refl _ _).setCell (p := ⟨w1.heap.size, 2, none⟩) (by show rb + 1 ≤ w1.heap.size; omega) _)
  clear hV6 HY HR
  clear y0 y1 y2 y3 y4 y5 ff shi
  refine ((fun w (h : Rd w rb ws (p + 1 + 1 + 1)) => by have c := mark31 rb ws (p + 1 + 1 + 1) 45 ⟨#[45]⟩ rfl w h; rw [h5] at c; exact c : ∀ w, Rd w rb ws (p + 1 + 1 + 1) → Calls Tryz.prog 64 #[.pointer (some ⟨rb, 0, none⟩), .string ⟨#[45]⟩] w fun e w' => e = .returned (.bool true) ∧ WentR rb ws (p + 1 + 1 + 1 + 1) w w') _ hR).mono ?_
  rintro r w17 ⟨rfl, hw⟩
  replace hY : Ky w rb w1.heap.size 3 k a 0 w17 := hY.step hlt hw.2
  replace hR := hw.1
  clear hw
  obtain ⟨y0, y1, y2, y3, y4, y5⟩ := hY.six
  simp only [Nat.zero_add] at y0 y1 y2 y3 y4 y5
  have ff := hY.fz
  have slo := hY.lo
  have shi := hY.hi
  have HY : Hid (Ky w rb w1.heap.size 3 k a 0 w17) := hY
  have HR : Hid (Rd w17 rb ws (p + 1 + 1 + 1 + 1)) := hR
  clear hY hR
  go_wp2_with fail
  have hY := HY.out
  have hR := HR.out
  clear HY HR
  clear y0 y1 y2 y3 y4 y5 ff shi
  refine (num38 rb ws (p + 1 + 1 + 1 + 1) 100 b _ hR h6).mono ?_
  rintro r w18 ⟨rfl, hw⟩
  replace hY : Ky w rb w1.heap.size 3 k a 0 w18 := hY.step hlt hw.2
  replace hR := hw.1
  clear hw
  obtain ⟨y0, y1, y2, y3, y4, y5⟩ := hY.six
  simp only [Nat.zero_add] at y0 y1 y2 y3 y4 y5
  have ff := hY.fz
  have slo := hY.lo
  have shi := hY.hi
  have HY : Hid (Ky w rb w1.heap.size 3 k a 0 w18) := hY
  have HR : Hid (Rd w18 rb ws (p + 1 + 1 + 1 + 1 + 1)) := hR
  clear hY hR
  obtain ⟨_, hp1, _, ao9, cap9, en9, po9, b9, q0, q1, q2, q3, q4, _, _⟩ := HR.out
  have dab : decide (b < a) = true := decide_eq_true h7
  have hwr : IntKind.i64.wrap (((p + 1 + 1 + 1 + 1 + 1 : Nat) : Int) - 1) = ((p + 1 + 1 + 1 + 1 : Nat) : Int) := by simp only [IntKind.wrap, IntKind.signed, IntKind.bits]; simp; omega
  go_wp2_with fail
  obtain ⟨V9, hV9⟩ : ∃ V, V = (w18).setCell ⟨w1.heap.size, 3, none⟩ (.int .i64 b) := ⟨_, rfl⟩
  rw [← hV9]
  have hY : Ky w rb w1.heap.size 3 k a b V9 := by rw [hV9]; exact (HY.out).set3 b
  have hR : Rd V9 rb ws (p + 1 + 1 + 1 + 1 + 1) := by rw [hV9]; exact HR.out.below ((Below.refl _ _).setCell (p := ⟨w1.heap.size, 3, none⟩) (by show rb + 1 ≤ w1.heap.size; omega) _)
  clear hV9 HY HR
  clear y0 y1 y2 y3 y4 y5 ff shi
  clear q0 q1 q2 q3 q4
  refine (fail44 rb ws (p + 1 + 1 + 1 + 1 + 1) (p + 1 + 1 + 1 + 1) _ hR (by omega)).mono ?_
  rintro r w20 ⟨rfl, hw⟩
  replace hY : Ky w rb w1.heap.size 3 k a b w20 := hY.step hlt hw.2
  replace hR := hw.1
  clear hw
  obtain ⟨y0, y1, y2, y3, y4, y5⟩ := hY.six
  simp only [Nat.zero_add] at y0 y1 y2 y3 y4 y5
  have ff := hY.fz
  have slo := hY.lo
  have shi := hY.hi
  have z1 := hY.at_.z
  have f1 := hY.at_.f
  have s1 := hY.at_.s
  have ne1 : w.heap.size ≠ w1.heap.size := by omega
  have ne2 : w1.heap.size ≠ w.heap.size := by omega
  have HY : Hid (Ky w rb w1.heap.size 3 k a b w20) := hY
  have HR : Hid (Bd w20 rb) := hR
  clear hY hR
  go_wp2
  refine bodyPost_ret (v := .agg #[.int .i64 3, .int .i64 k, .int .i64 a, .int .i64 b, .string ⟨#[]⟩, .slice none 0 0]) (by simp [results, Tryz.results88, go_sem, z1]) rfl ⟨⟨_, _, _, _, _, _, _, rfl⟩, ?_, ?_⟩
  · exact (HR.out).below (below_six hlt)
  · exact kept_six HY.out.at_.k

end Rf
end Go.Proofs.YtdeojcodbojmoaaGreatDoor
namespace Go.Proofs.YtdeojcodbojmoaaGreatDoor
namespace Rf
open Go.RowKit
set_option maxRecDepth 100000
set_option linter.unusedVariables false

/-- key, where it fails. -/
theorem key_fail (rb : Nat) (ws : List Wd.Word) (p : Nat) (w : World) (h : Rd w rb ws p) (hk : Ps.key ws p = none) : Calls Tryz.prog 88 #[.pointer (some ⟨rb, 0, none⟩)] w (FB rb w) := by
  unfold Ps.key at hk
  cases h1 : Ps.num ws p 4 with
  | none => exact key_no1 rb ws p w h h1
  | some k =>
    rw [h1] at hk
    simp only at hk
    by_cases h61 : Ps.isMark ws (p + 1) 61 = true
    · rw [if_pos h61] at hk
      cases h2 : Ps.num ws (p + 2) 100 with
      | none => exact key_no2 rb ws p w h k h1 h61 h2
      | some a => rw [h2] at hk; cases hk
    · rw [if_neg h61] at hk
      have h61' : Ps.isMark ws (p + 1) 61 = false := by simpa using h61
      by_cases h58 : Ps.isMark ws (p + 1) 58 = true
      · rw [if_pos h58] at hk
        cases h2 : Ps.num ws (p + 2) 100 with
        | none => exact key_no3 rb ws p w h k h1 h61' h58 h2
        | some a =>
          rw [h2] at hk
          simp only at hk
          by_cases h45 : Ps.isMark ws (p + 3) 45 = true
          · rw [if_pos h45] at hk
            cases h3 : Ps.num ws (p + 4) 100 with
            | none => exact key_no5 rb ws p w h k h1 h61' h58 a h2 h45 h3
            | some b =>
              rw [h3] at hk
              simp only at hk
              by_cases hab : a ≤ b
              · rw [if_pos hab] at hk; cases hk
              · exact key_no6 rb ws p w h k h1 h61' h58 a b h2 h45 h3 (by omega)
          · exact key_no4 rb ws p w h k h1 h61' h58 a h2 (by simpa using h45)
      · exact key_no7 rb ws p w h k h1 h61' (by simpa using h58)

end Rf
end Go.Proofs.YtdeojcodbojmoaaGreatDoor
namespace Go.Proofs.YtdeojcodbojmoaaGreatDoor
namespace Rf
open Go.RowKit
set_option maxRecDepth 100000
set_option linter.unusedVariables false

set_option maxHeartbeats 4000000 in
theorem not_bang_no (rb : Nat) (ws : List Wd.Word) (p : Nat) (w : World) (h : Rd w rb ws p) (e33 : Ps.isMark ws p 33 = true) (c : ∀ w, Rd w rb ws (p + 1) → Calls Tryz.prog 76 #[.pointer (some ⟨rb, 0, none⟩)] w (FB rb w)) : Calls Tryz.prog 76 #[.pointer (some ⟨rb, 0, none⟩)] w (FB rb w) := by
  have hlt := h.lt
  have hl60 := h.1
  have hR0 : Rd (w.alloc (.cells #[.int .i64 0, .int .i64 0, .int .i64 0, .int .i64 0, .string ⟨#[]⟩, .slice none 0 0] 53)) rb ws p := h.below ((Below.refl _ w).alloc hlt _)
  have hA0 : At w rb (w.alloc (.cells #[.int .i64 0, .int .i64 0, .int .i64 0, .int .i64 0, .string ⟨#[]⟩, .slice none 0 0] 53)) := At.start w rb
  have c33 : ∀ w, Rd w rb ws p → Calls Tryz.prog 64 #[.pointer (some ⟨rb, 0, none⟩), .string ⟨#[33]⟩] w fun e w' => e = .returned (.bool true) ∧ WentR rb ws (p + 1) w w' := fun w h => by have c := mark31 rb ws p 33 ⟨#[33]⟩ rfl w h; rw [e33] at c; exact c
  clear e33
  go_enter Tryz.func76, Tryz.ntmps76
  have HA : Hid (At w rb (w.alloc (.cells #[.int .i64 0, .int .i64 0, .int .i64 0, .int .i64 0, .string ⟨#[]⟩, .slice none 0 0] 53))) := hA0
  have HR : Hid (Rd (w.alloc (.cells #[.int .i64 0, .int .i64 0, .int .i64 0, .int .i64 0, .string ⟨#[]⟩, .slice none 0 0] 53)) rb ws p) := hR0
  clear hA0 hR0
  go_wp2_with fail
  refine (c33 _ HR.out).mono ?_
  rintro e w33 ⟨rfl, hw33⟩
  have hA33 : At w rb w33 := HA.out.step hlt hw33.2
  have hR33 := hw33.1
  clear hw33 c33 HA HR
  replace c := c w33 hR33
  have HA1 : Hid (At w rb w33) := hA33
  clear hA33 hR33
  go_wp2_with fail
  refine c.mono ?_
  rintro r w1 ⟨⟨o1, k1, l1, h1, t1, x1, n1, rfl⟩, hw1⟩
  clear c
  obtain ⟨U, hU⟩ : ∃ U, U = w1.alloc (.cells #[.int .i64 o1, .int .i64 k1, .int .i64 l1, .int .i64 h1, .string t1, .slice x1 n1 n1] 53) := ⟨_, rfl⟩
  have HU : Hid (U = w1.alloc (.cells #[.int .i64 o1, .int .i64 k1, .int .i64 l1, .int .i64 h1, .string t1, .slice x1 n1 n1] 53)) := hU
  have HA : Hid (At w rb U) := by rw [hU]; exact (HA1.out.step hlt hw1.2).alloc _
  have HR : Hid (Bd U rb) := by rw [hU]; exact hw1.1.below ((Below.refl _ w1).alloc hw1.1.lt _)
  clear hw1 HA1 hU
  simp only []
  iterate 4 (first | go_skip | go_guarded | go_step | go_upon | go_simp)
  rw [← HU.out]
  clear HU
  have z1 := HA.out.z
  have f1 := HA.out.f
  have s1 := HA.out.s
  go_wp2
  refine bodyPost_ret (v := .agg #[.int .i64 7, .int .i64 0, .int .i64 0, .int .i64 0, .string ⟨#[]⟩, .slice (some ⟨w1.heap.size, 0, none⟩) 1 1]) (by simp [results, Tryz.results76, go_sem, z1]) rfl ⟨⟨_, _, _, _, _, _, _, rfl⟩, Bd.below HR.out (below_six hlt), kept_six HA.out.k⟩

end Rf
end Go.Proofs.YtdeojcodbojmoaaGreatDoor
