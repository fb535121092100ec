/- cardamomref4.Parse: a filter out of a text, where the text is one. -/
import Derived.Test.YtflpdekifkcfkabDeep
import Derived.Test.YtflpdekifkcfkabWords
namespace Go.Proofs.Ytflpdekifkcfkab
open Go.RowKit
set_option linter.unusedVariables false

/-- A new reader. -/
theorem rd_made {w : World} {base cap : Nat} {ao : Option Addr} {ws : List Wd.Word} (en : Int) (hl : ws.length ≤ 60) (hk : ∀ x ∈ ws, (x.kind = 1 ∨ x.kind = 2) ∨ x.kind = 3) (h : w.ownsRow base 89 4 (.slice ao ws.length cap) ws.length (cellsOf ws)) :
    Rd (w.alloc (.cells #[.slice ao ws.length cap, .int .i64 0, .int .i64 en, .bool false, .int .i64 0] 75)) w.heap.size ws 0 := by
  refine ⟨hl, Nat.zero_le _, fun o => by simp, ao, cap, en, 0, (match ao with | some a => a.block | none => 0), by simp, by simp, by simp, by simp, by simp, fun h0 => ?_, fun j x hx => ?_⟩
  · rcases wown_form h with ⟨_, h1⟩ | ⟨g, cap', e⟩
    · omega
    · cases e
      exact ⟨rfl, (h.lt g rfl).2⟩
  · have hj : j < ws.length := (List.getElem?_eq_some_iff.1 hx).1
    rcases wown_form h with ⟨_, h1⟩ | ⟨g, cap', e⟩
    · omega
    · cases e
      have hg := (h.lt g rfl).2
      refine ⟨?_, ?_, ?_, hk x (List.mem_of_getElem? hx)⟩
      · rw [World.cell?_alloc_past _ _ _ (hn := hg)]
        exact (h.cellAt (j * 4) (by omega)).trans ((cellsOf_get ws j 0 x hx (by omega)).trans rfl)
      · rw [World.cell?_alloc_past _ _ _ (hn := hg)]
        exact (h.cellAt (j * 4 + 1) (by omega)).trans ((cellsOf_get ws j 1 x hx (by omega)).trans rfl)
      · rw [World.cell?_alloc_past _ _ _ (hn := hg)]
        exact (h.cellAt (j * 4 + 2) (by omega)).trans ((cellsOf_get ws j 2 x hx (by omega)).trans rfl)

set_option maxRecDepth 100000 in
set_option maxHeartbeats 4000000 in
theorem parse15 (s : ByteArray) (ws : List Wd.Word) (n : Nat) (f : Ev.Ft) (hs : s.size ≤ 80) (hw : Wd.all s.data.toList = (ws, 0, true)) (hl : ws.length ≤ 60) (hk : ∀ x ∈ ws, (x.kind = 1 ∨ x.kind = 2) ∨ x.kind = 3) (hp : Ps.pars ws n .or 0 = some (f, ws.length)) (hd : f.deep ≤ 6) (w : World) :
    Calls Try.prog 19 #[.string s] w fun e w' => ∃ (o k l h : Int) (t : ByteArray) (x : Option Addr) (m : Nat), e = .returned (.tuple #[.agg #[.int .i64 o, .int .i64 k, .int .i64 l, .int .i64 h, .string t, .slice x m m], .int .i64 0, .bool true]) ∧ Lies Any w' f o k l h t x m ∧ Below w.heap.size w w' := by
  have c1 := fun w => words_any s w (by unfold maxLen; omega)
  rw [hw] at c1
  simp only at c1
  clear hw
  go_enter Try.func19, Try.ntmps19
  go_wp2_with fail
  refine (c1 _).mono ?_
  rintro e w1 ⟨v, rfl, hown, hb1⟩
  obtain ⟨ao, cap, rfl⟩ := wown_slice hown
  have z1 : ∀ o, w1.cell? ⟨w.heap.size, o, none⟩ = (w.alloc (.cells #[.int .i64 0, .int .i64 0, .int .i64 0, .int .i64 0, .string ⟨#[]⟩, .slice none 0 0] 26)).cell? ⟨w.heap.size, o, none⟩ := fun o => hb1.cell (p := ⟨w.heap.size, o, none⟩) (by simp)
  have zf1 : ∀ o, w1.frozen? ⟨w.heap.size, o, none⟩ = false := fun o => (hb1.frozen (p := ⟨w.heap.size, o, none⟩) (by simp)).trans (by simp)
  have s1 : w.heap.size < w1.heap.size := by have := hb1.size; simp at this; omega
  have hb1' : Below w.heap.size w w1 := ((Below.refl _ w).alloc (Nat.le_refl _) _).trans (hb1.mono (by simp))
  clear c1 hb1
  go_wp2_with fail
  obtain ⟨V, hV⟩ : ∃ V, V = w1.alloc (.cells #[.slice ao ws.length cap, .int .i64 0, .int .i64 s.size, .bool false, .int .i64 0] 75) := ⟨_, rfl⟩
  rw [← hV]
  have hRd : Rd V w1.heap.size ws 0 := by rw [hV]; exact rd_made _ hl hk hown
  have hbV : Below w1.heap.size w1 V := by rw [hV]; exact (Below.refl _ _).alloc (Nat.le_refl _) _
  have sV : w1.heap.size < V.heap.size := by rw [hV]; simp
  clear hV hown
  have c2 := (reads_all w1.heap.size ws n n 0 f ws.length V (Nat.le_refl _) hRd).2.2 hp
  unfold FR at c2
  refine c2.mono ?_
  rintro e w2 ⟨o1, k1, l1, h1, t1, x1, n1, rfl, ly, hw2⟩
  have z2 : ∀ o, w2.cell? ⟨w.heap.size, o, none⟩ = (w.alloc (.cells #[.int .i64 0, .int .i64 0, .int .i64 0, .int .i64 0, .string ⟨#[]⟩, .slice none 0 0] 26)).cell? ⟨w.heap.size, o, none⟩ := fun o => (hw2.2.cell (by omega) (by unfold Save; omega)).trans ((hbV.cell (p := ⟨w.heap.size, o, none⟩) s1).trans (z1 o))
  have zf2 : ∀ o, w2.frozen? ⟨w.heap.size, o, none⟩ = false := fun o => (hw2.2.frozen (by omega) (by unfold Save; omega)).trans ((hbV.frozen (p := ⟨w.heap.size, o, none⟩) s1).trans (zf1 o))
  have hb2 : Below w.heap.size w w2 := (hb1'.trans (hbV.mono (Nat.le_of_lt s1))).trans (hw2.2.below (by omega) (fun k hk => by unfold Save; omega))
  have hR2 := hw2.1
  have s2 : w1.heap.size < w2.heap.size := hR2.lt
  have ly2 : Lies Any w2 f o1 k1 l1 h1 t1 x1 n1 := Lies.mono (P := Past V.heap.size) (fun _ _ _ => trivial) f ly
  have lyP : Lies (Past V.heap.size) w2 f o1 k1 l1 h1 t1 x1 n1 := ly
  clear c2 hRd hw2 hb1' hbV z1 zf1 ly
  obtain ⟨g1, g2, gf, ao', cap', en, po, b, q0, q1, q2, q3, q4, g3, g4⟩ := hR2
  clear g1 g2 gf g3 g4
  obtain ⟨V2, hV2⟩ : ∃ V, V = w2.alloc (.cells #[.int .i64 o1, .int .i64 k1, .int .i64 l1, .int .i64 h1, .string t1, .slice x1 n1 n1] 26) := ⟨_, rfl⟩
  have hbV2 : Below w2.heap.size w2 V2 := by rw [hV2]; exact (Below.refl _ _).alloc (Nat.le_refl _) _
  have hSix : Six V2 w2.heap.size 0 o1 k1 l1 h1 t1 x1 n1 := by rw [hV2]; unfold Six; simp
  have sV2 : w2.heap.size < V2.heap.size := by rw [hV2]; simp
  have c3 := deep26 f V2 o1 k1 l1 h1 t1 x1 n1 (by omega) (ly2.below hbV2)
  have hdI : decide ((6 : Int) < (f.deep : Int)) = false := decide_eq_false (by omega)
  have hdN : decide (6 < f.deep) = false := decide_eq_false (by omega)
  generalize f.deep = dp at *
  go_wp2_with fail
  rw [← hV2]
  have HV2 : Hid _ := hV2
  clear hV2
  refine c3.mono ?_
  rintro e w3 ⟨rfl, hb3⟩
  have hbw : Below w2.heap.size w2 w3 := hbV2.trans (hb3.mono (Nat.le_of_lt sV2))
  have hSix3 : Six w3 w2.heap.size 0 o1 k1 l1 h1 t1 x1 n1 := hSix.of (fun i => hb3.cell (p := ⟨w2.heap.size, i, none⟩) sV2)
  have z3 : ∀ o, w3.cell? ⟨w.heap.size, o, none⟩ = (w.alloc (.cells #[.int .i64 0, .int .i64 0, .int .i64 0, .int .i64 0, .string ⟨#[]⟩, .slice none 0 0] 26)).cell? ⟨w.heap.size, o, none⟩ := fun o => (hbw.cell (p := ⟨w.heap.size, o, none⟩) (by show w.heap.size < _; omega)).trans (z2 o)
  have zf3 : ∀ o, w3.frozen? ⟨w.heap.size, o, none⟩ = false := fun o => (hbw.frozen (p := ⟨w.heap.size, o, none⟩) (by show w.heap.size < _; omega)).trans (zf2 o)
  have ly3 : Lies (Past V.heap.size) w3 f o1 k1 l1 h1 t1 x1 n1 := Lies.kept (Kept.of_below hbw) f lyP
  obtain ⟨y0, y1, y2, y3, y4, y5⟩ := hSix3
  simp only [Nat.zero_add] at y0 y1 y2 y3 y4 y5
  have hne : w2.heap.size ≠ w.heap.size := by omega
  have hne' : w.heap.size ≠ w2.heap.size := by omega
  have hbw3 : Below w.heap.size w w3 := hb2.trans (hbw.mono (by omega))
  clear hSix c3 hb3 hbV2 ly2 lyP z2 zf2 q0 q1 q2 q3 q4 hb2 hbw HV2
  go_wp2
  refine bodyPost_ret (v := .tuple #[.agg #[.int .i64 o1, .int .i64 k1, .int .i64 l1, .int .i64 h1, .string t1, .slice x1 n1 n1], .int .i64 0, .bool true]) (by simp [results, Try.results19, go_sem, *]) rfl ⟨o1, k1, l1, h1, t1, x1, n1, rfl, Lies.mono (P := Past V.heap.size) (fun _ _ _ => trivial) f (Lies.kept ?_ f ly3), ?_⟩
  · repeat (refine Kept.setCell ?_ (fun k hk hq => by unfold Past at hq; simp; omega) _)
    exact Kept.refl _ _
  · repeat (refine Below.setCell ?_ (by simp) _)
    exact hbw3

end Go.Proofs.Ytflpdekifkcfkab
