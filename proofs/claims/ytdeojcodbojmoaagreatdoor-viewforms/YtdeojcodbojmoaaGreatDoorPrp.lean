/- pars.Parse of any text: whether it is a filter's. -/
import Derived.Test.YtdeojcodbojmoaaGreatDoorPrs
import Derived.BigRegion
namespace Go.Proofs.YtdeojcodbojmoaaGreatDoor
open Go.RowKit
set_option maxRecDepth 100000
set_option linter.unusedVariables false

set_option maxHeartbeats 4000000 in
/-- pars.Parse. -/
theorem prs25 (s : ByteArray) (w : World) (he : ErrT w) (hs : s.size ≤ maxLen) : Calls Tryz.prog 25 #[.string s] w fun r w' => (∃ (o k l h : Int) (t : ByteArray) (x : Option Addr) (n : Nat) (a : Int), r = .returned (.tuple #[.agg #[.int .i64 o, .int .i64 k, .int .i64 l, .int .i64 h, .string t, .slice x n n], .int .i64 a, .bool (Ps.okP s.data.toList)])) ∧ Below w.heap.size w w' := by
  have h1 := he.lt
  have hat0 : At w w.heap.size (w.alloc (.cells #[.int .i64 0, .int .i64 0, .int .i64 0, .int .i64 0, .string ⟨#[]⟩, .slice none 0 0] 53)) := At.start w _
  have c1 := prs38 s _ (he.below hat0.bel h1) hs
  go_enter Tryz.func25, Tryz.ntmps25
  go_wp2_with fail
  refine c1.mono ?_
  rintro r w1 ⟨o, k, l, h, t, x, n, ev, rfl, hev, hb1⟩
  clear c1
  have hA1 : At w w.heap.size w1 := hat0.step' (P := Any) trivial (fun _ _ _ => trivial) (Kept.of_below hb1)
  have z1 := hA1.z
  have f1 := hA1.f
  have s1 := hA1.s
  obtain ⟨U, hU⟩ : ∃ U, U = ((((((w1.setCell ⟨w.heap.size, 0, none⟩ (.int .i64 o)).setCell ⟨w.heap.size, 1, none⟩ (.int .i64 k)).setCell ⟨w.heap.size, 2, none⟩ (.int .i64 l)).setCell ⟨w.heap.size, 3, none⟩ (.int .i64 h)).setCell ⟨w.heap.size, 4, none⟩ (.string t)).setCell ⟨w.heap.size, 5, none⟩ (.slice x n n)).alloc (.cells #[.int .i64 0] 69) := ⟨_, rfl⟩
  have HU : Hid (U = _) := hU
  have y := six_of_set w1 w.heap.size o k l h t x n (z1 0) (z1 1) (z1 2) (z1 3) (z1 4) (z1 5)
  have sixU : Six U w.heap.size 0 o k l h t x n := y.of (fun i => by rw [hU]; exact World.cell?_alloc_past _ _ _ (hn := by simpa using s1))
  have fU : ∀ i, U.frozen? ⟨w.heap.size, i, none⟩ = false := fun i => by rw [hU, World.frozen?_alloc_past _ _ _ (hn := by simpa using s1)]; simpa using f1 i
  have mU : U.cell? ⟨w1.heap.size, 0, none⟩ = some (.int .i64 0) := by rw [hU, World.cell?_alloc_at _ _ _ _ (by simp)]; rfl
  have gen : ∀ X : World, X.heap.size = w1.heap.size → (X.alloc (.cells #[.int .i64 0] 69)).frozen? ⟨w1.heap.size, 0, none⟩ = false := fun X e => by rw [← e]; simp
  have gU : U.frozen? ⟨w1.heap.size, 0, none⟩ = false := by rw [hU]; exact gen _ (by simp)
  have hBU : Below w.heap.size w U := by rw [hU]; exact (bel_six hA1.bel).alloc (by have := hA1.bel.size; simpa using this) _
  have hsU : w1.heap.size < U.heap.size := by rw [hU]; simp
  have HB : Hid (Below w.heap.size w U ∧ Six U w.heap.size 0 o k l h t x n ∧ ∀ i, U.frozen? ⟨w.heap.size, i, none⟩ = false) := ⟨hBU, sixU, fU⟩
  rcases hev with ⟨hok, rfl⟩ | ⟨hok, m, T, v, rfl, hm⟩
  · have HOK : Hid (Ps.okP s.data.toList = true) := hok
    clear gen hU hb1 hA1 hat0 y sixU fU mU gU hBU hok he
    go_wp2_with fail
    rw [← HU.out]
    refine (as39 _ _).mono ?_
    rintro r w2 ⟨rfl, rfl⟩
    clear z1 f1 s1 HU
    obtain ⟨y0, y1, y2, y3, y4, y5⟩ := HB.out.2.1
    simp only [Nat.zero_add] at y0 y1 y2 y3 y4 y5
    have ff := HB.out.2.2
    go_wp2
    refine bodyPost_ret (v := .tuple #[.agg #[.int .i64 o, .int .i64 k, .int .i64 l, .int .i64 h, .string t, .slice x n n], .int .i64 0, .bool true]) (by simp [results, Tryz.results25, go_sem, y0, y1, y2, y3, y4, y5]) rfl ⟨⟨o, k, l, h, t, x, n, 0, by rw [HOK.out]⟩, bel_six HB.out.1⟩
  · have HOK : Hid (Ps.okP s.data.toList = false) := hok
    have c2 := as39_69 m (.iface T v) w1.heap.size _ U (he.below hBU h1) hm mU gU
    clear gen hU hb1 hA1 hat0 y sixU fU mU gU hBU hok he hm
    go_wp2_with fail
    rw [← HU.out]
    refine c2.mono ?_
    rintro r w2 ⟨rfl, ⟨a, ha⟩, hk2⟩
    clear c2 z1 f1 HU
    have six2 := HB.out.2.1.kept (P := But w1.heap.size) (by unfold But; omega) hk2
    obtain ⟨y0, y1, y2, y3, y4, y5⟩ := six2
    simp only [Nat.zero_add] at y0 y1 y2 y3 y4 y5
    have ff : ∀ i, w2.frozen? ⟨w.heap.size, i, none⟩ = false := fun i => (hk2.frozen (by omega) (by unfold But; omega)).trans (HB.out.2.2 i)
    have HB2 : Hid (Below w.heap.size w w2) := HB.out.1.trans (hk2.below HB.out.1.size (fun k hk => by unfold But; omega))
    have ne1 : w.heap.size ≠ w1.heap.size := by omega
    have ne2 : w1.heap.size ≠ w.heap.size := by omega
    clear hk2 HB
    go_wp2_with fail
    go_region
    all_goals (
      go_wp2
      refine bodyPost_ret (v := .tuple #[.agg #[.int .i64 0, .int .i64 0, .int .i64 0, .int .i64 0, .string ⟨#[]⟩, .slice none 0 0], .int .i64 a, .bool false]) (by simp [results, Tryz.results25, go_sem, y0, y1, y2, y3, y4, y5]) rfl ⟨⟨0, 0, 0, 0, ⟨#[]⟩, none, 0, a, by rw [HOK.out]⟩, ?_⟩
      first | exact (bel_six HB2.out).drew | exact bel_six HB2.out)

end Go.Proofs.YtdeojcodbojmoaaGreatDoor
