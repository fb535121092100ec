/- pars.Parse of any text: whether it is a filter's. -/
import Derived.Test.YtdeojcodbojmoaaGreatDoorChl
namespace Go.Proofs.YtdeojcodbojmoaaGreatDoor
open Go.RowKit
set_option maxRecDepth 100000
set_option linter.unusedVariables false

/-- A reader of the words of a text. -/
theorem rdr_of_own {w : World} {base : Nat} {v : Value} {ws : List Wd.Word} (h : w.ownsRow base 120 4 v ws.length (cellsOf ws)) (hl : ws.length ≤ 60) (e : Int) : (∃ ao cap, v = .slice ao ws.length cap) ∧ Rdr (w.alloc (.cells #[v, .int .i64 e] 92)) w.heap.size ws 0 e := by
  obtain ⟨_, h⟩ := h
  rcases h with ⟨e1, h0⟩ | ⟨g, c, cur, e1, hg, hh, h1, h2, h3, h4⟩
  · subst e1
    rw [h0]
    refine ⟨⟨none, 0, rfl⟩, by simp, by omega, hl, none, 0, 0, by simp [h0], by omega, by unfold maxLen; omega, by simp, fun h => by omega⟩
  · subst e1
    have hgl : g < w.heap.size := by
      rcases Nat.lt_or_ge g w.heap.size with hlt | hge
      · exact hlt
      · rw [Array.getElem?_eq_none hge] at hh; cases hh
    refine ⟨⟨_, _, rfl⟩, by simp, by omega, hl, some ⟨g, 0, none⟩, c, g, by simp, by omega, h2, by simp, fun _ => ⟨rfl, hgl, fun j u hu => ?_⟩⟩
    rw [World.cell?_alloc_past _ _ _ (hn := hgl)]
    have hj : j < ws.length * 4 := by
      have := (List.getElem?_eq_some_iff.1 hu).1
      rw [← h4, List.length_take] at this
      omega
    have e2 : w.cell? ⟨g, j, none⟩ = cur[j]? := by simp [World.cell?, hh]
    rw [e2, ← Array.getElem?_toList]
    rw [← h4, List.getElem?_take, if_pos hj] at hu
    exact hu

/-- What parse tells. -/
def PS (ok : Bool) (w : World) (r : Ending) (w' : World) : Prop := ∃ o k l h t x n ev, r = .returned (.tuple #[.agg #[.int .i64 o, .int .i64 k, .int .i64 l, .int .i64 h, .string t, .slice x n n], ev]) ∧ ((ok = true ∧ ev = .nilIface) ∨ (ok = false ∧ ∃ m T v, ev = .iface T v ∧ Mis m (.iface T v))) ∧ Below w.heap.size w w'

theorem ps_no {w w' : World} {o k l h : Int} {t : ByteArray} {x : Option Addr} {n m : Nat} {T : TypeId} {v : Value} (hm : Mis m (.iface T v)) (hb : Below w.heap.size w w') : PS false w (.returned (.tuple #[.agg #[.int .i64 o, .int .i64 k, .int .i64 l, .int .i64 h, .string t, .slice x n n], .iface T v])) w' := ⟨o, k, l, h, t, x, n, _, rfl, .inr ⟨rfl, m, T, v, rfl, hm⟩, hb⟩
theorem ps_yes {w w' : World} {o k l h : Int} {t : ByteArray} {x : Option Addr} {n : Nat} (hb : Below w.heap.size w w') : PS true w (.returned (.tuple #[.agg #[.int .i64 o, .int .i64 k, .int .i64 l, .int .i64 h, .string t, .slice x n n], .nilIface])) w' := ⟨o, k, l, h, t, x, n, _, rfl, .inl ⟨rfl, rfl⟩, hb⟩

theorem At.bel {w W : World} (h : At w w.heap.size W) : Below w.heap.size w W := h.k.below (Nat.le_refl _) (fun k hk => by unfold But; omega)
theorem At.up {w W W' : World} {rb : Nat} (h : At w w.heap.size W) (hr : w.heap.size < rb) (k : Kept (But rb) W W') : At w w.heap.size W' :=
  h.step' (P := But rb) (by unfold But; omega) (fun k hk _ => by unfold But; omega) k
theorem bel_six {w W : World} (h : Below w.heap.size w W) {u0 u1 u2 u3 u4 u5 : Value} : Below w.heap.size w ((((((W.setCell ⟨w.heap.size, 0, none⟩ u0).setCell ⟨w.heap.size, 1, none⟩ u1).setCell ⟨w.heap.size, 2, none⟩ u2).setCell ⟨w.heap.size, 3, none⟩ u3).setCell ⟨w.heap.size, 4, none⟩ u4).setCell ⟨w.heap.size, 5, none⟩ u5) :=
  (((((h.setCell (Nat.le_refl _) _).setCell (Nat.le_refl _) _).setCell (Nat.le_refl _) _).setCell (Nat.le_refl _) _).setCell (Nat.le_refl _) _).setCell (Nat.le_refl _) _

set_option maxHeartbeats 2000000 in
theorem prs_no (s : ByteArray) (w : World) (hs : s.size ≤ maxLen) (ha : (Wd.all s.data.toList).2.2 = false) : Calls Tryz.prog 38 #[.string s] w (PS false w) := by
  have c1 := all_any s (w.alloc (.cells #[.int .i64 0, .int .i64 0, .int .i64 0, .int .i64 0, .string ⟨#[]⟩, .slice none 0 0] 53)) hs
  have hat0 : At w w.heap.size (w.alloc (.cells #[.int .i64 0, .int .i64 0, .int .i64 0, .int .i64 0, .string ⟨#[]⟩, .slice none 0 0] 53)) := At.start w _
  rw [ha] at c1
  clear ha
  generalize (Wd.all s.data.toList).2.1 = at_ at *
  generalize (Wd.all s.data.toList).1 = ws at *
  go_enter Tryz.func38, Tryz.ntmps38
  go_wp2_with fail
  refine c1.mono ?_
  rintro r w1 ⟨v, rfl, hown, hb1⟩
  clear c1
  have HA1 : Hid (At w w.heap.size w1) := hat0.step' (P := Any) trivial (fun _ _ _ => trivial) (Kept.of_below hb1)
  clear hb1 hown hat0
  go_wp2_with fail
  refine (within_one _ _ _ _).mono ?_
  rintro r w2 ⟨rfl, rfl⟩
  have HA := HA1
  have z1 := HA.out.z
  have f1 := HA.out.f
  have s1 := HA.out.s
  go_wp2
  refine bodyPost_ret (v := .tuple #[.agg #[.int .i64 0, .int .i64 0, .int .i64 0, .int .i64 0, .string ⟨#[]⟩, .slice none 0 0], .iface 124 (.agg #[.string ⟨#[119, 111, 114, 100, 115]⟩, .iface 69 (.agg #[.int .i64 at_])])]) (by simp [results, Tryz.results38, go_sem, z1]) rfl (ps_no ((mis_zero _).one _) (bel_six HA.out.bel))

end Go.Proofs.YtdeojcodbojmoaaGreatDoor
