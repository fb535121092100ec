/- A version that came in, opened. -/
import Derived.Test.YtopkeembbopbmaaDoorVn
import Derived.WalkKit
import Derived.ProofKit
import Derived.OpenShut
import Derived.Deep.Slices
import Derived.Deep.Strs
import Derived.Deep.Fields
namespace Go.Proofs.YtopkeembbopbmaaDoor
open Go.ChangeShapes Go.WideShapes Go.ChangeAt Go.WideElems Go.Deep Go.RowKit
set_option maxRecDepth 100000
set_option linter.unusedVariables false

theorem eight_of {α : Type} {cs : Array α} (h : cs.size = 8) : ∃ c0 c1 c2 c3 c4 c5 c6 c7, cs = #[c0, c1, c2, c3, c4, c5, c6, c7] := by
  obtain ⟨l⟩ := cs
  match l, h with
  | [c0, c1, c2, c3, c4, c5, c6, c7], _ => exact ⟨c0, c1, c2, c3, c4, c5, c6, c7, rfl⟩

section
variable {H : Type} {enc : TypeId × Value → H} {P : Program} {w : World} {base : Nat} {spare : Nat → Bool} {held : Bool}

theorem trod_six {t : TypeId} {f0 f1 f2 f3 f4 f5 : Field} {fuel : Nat} {cs : List Value} {x : DataW H × List MemPlace} (ht : P.underlying t = some (.struct #[f0, f1, f2, f3, f4, f5])) (h : DataW.trod enc P w base spare held fuel t cs = some x) :
    ∃ y0 y1 y2 y3 y4 y5 n, DataW.trod enc P w base spare held n f0.type ((cs.drop f0.offset).take (P.cellsOf f0.type)) = some y0 ∧
      DataW.trod enc P w base spare held n f1.type ((cs.drop f1.offset).take (P.cellsOf f1.type)) = some y1 ∧ DataW.trod enc P w base spare held n f2.type ((cs.drop f2.offset).take (P.cellsOf f2.type)) = some y2 ∧
      DataW.trod enc P w base spare held n f3.type ((cs.drop f3.offset).take (P.cellsOf f3.type)) = some y3 ∧ DataW.trod enc P w base spare held n f4.type ((cs.drop f4.offset).take (P.cellsOf f4.type)) = some y4 ∧
      DataW.trod enc P w base spare held n f5.type ((cs.drop f5.offset).take (P.cellsOf f5.type)) = some y5 := by
  obtain ⟨xs, n, _, rfl, hl, hlen, hf⟩ := DataW.trod_struct ht h
  match xs, hlen with
  | [y0, y1, y2, y3, y4, y5], _ => exact ⟨y0, y1, y2, y3, y4, y5, n, by simpa using hf 0 f0 rfl, by simpa using hf 1 f1 rfl, by simpa using hf 2 f2 rfl, by simpa using hf 3 f3 rfl, by simpa using hf 4 f4 rfl, by simpa using hf 5 f5 rfl⟩

theorem addr_plain {W : World} {a : Addr} {u : Value} (h : W.cell? a = some u) : ∃ b off, a = ⟨b, off, none⟩ ∧ b < W.heap.size := by
  obtain ⟨b, off, spot⟩ := a
  have hs : spot = none := by simpa using World.cell?_spot h
  subst hs
  exact ⟨b, off, rfl, World.block_lt_of_cell? W ⟨b, off, none⟩ h⟩

theorem plain_add (b off j : Nat) : Addr.add ⟨b, off, none⟩ j = ⟨b, off + j, none⟩ := by unfold Addr.add; by_cases h : j = 0 <;> simp [h]
end

section
variable {H : Type} {enc : TypeId × Value → H} {w : World} {spare : Nat → Bool} {held : Bool}

theorem cells3 : Tryd.prog.cellsOf 3 = 1 := by kernel_rfl
theorem cells4 : Tryd.prog.cellsOf 4 = 1 := by kernel_rfl
theorem cells23 : Tryd.prog.cellsOf 23 = 3 := by kernel_rfl
theorem cells42 : Tryd.prog.cellsOf 42 = 2 := by kernel_rfl
theorem cells26 : Tryd.prog.cellsOf 26 = 8 := by kernel_rfl
theorem cells_9 : Tryd.prog.cellsOf 9 = 1 := by kernel_rfl
theorem cells24 : Tryd.prog.cellsOf 24 = 1 := by kernel_rfl

/-- One attribute. -/
theorem attr_open {fuel : Nat} {cs : List Value} {x : DataW H × List MemPlace} (h : DataW.trod enc Tryd.prog w 0 spare held fuel 42 cs = some x) : ∃ p : Int × Int, cs = [.int .i64 p.1, .int .i64 p.2] := by
  obtain ⟨y0, y1, n, _, hl, h0, h1⟩ := trod_struct2 Tryd.underlying42 h
  rw [cells42] at hl
  match cs, hl with
  | [c0, c1], _ =>
    simp only [cells3] at h0 h1
    obtain ⟨d, e0, _, _⟩ := DataW.trod_int Tryd.underlying3 h0
    obtain ⟨e, e1, _, _⟩ := DataW.trod_int Tryd.underlying3 h1
    simp at e0 e1
    subst e0 e1
    exact ⟨(d, e), rfl⟩

/-- A row of attributes. -/
theorem attrs_open {fuel : Nat} {cs : List Value} {x : DataW H × List MemPlace} (h : DataW.trod enc Tryd.prog w 0 spare held fuel 24 cs = some x) :
    ∃ ao n cap, cs = [.slice ao n cap] ∧ n ≤ maxLen ∧ (n ≤ 1000 → ∃ al : List (Int × Int), At w ao n al) := by
  rcases open_slice Tryd.underlying24 h with ⟨rfl, _⟩ | ⟨a, len, cap, m, k, D, Pl, rfl, _, hl, hm, hmm, _, hx⟩
  · exact ⟨none, 0, 0, rfl, Nat.zero_le _, fun _ => ⟨[], At.none _ _⟩⟩
  · refine ⟨some a, len, cap, rfl, Nat.le_trans hl hm, fun hn => ?_⟩
    have hlm : len ≤ m := by rw [hmm]; split <;> omega
    have hex : ∀ i : Fin len, ∃ p : Int × Int, w.cells? 0 (a.add (i.1 * 2)) 2 = some [.int .i64 p.1, .int .i64 p.2] := fun i => by
      obtain ⟨cs', h1, h2⟩ := hx i.1 (by omega)
      rw [cells42] at h1
      obtain ⟨p, rfl⟩ := attr_open h2
      exact ⟨p, h1⟩
    obtain ⟨F, hF⟩ := Classical.axiomOfChoice hex
    refine ⟨List.ofFn F, by simp, hn, fun h0 => ?_⟩
    have hc : ∀ (i : Nat) (hi : i < len) (q : Nat), q < 2 → w.cell? ((a.add (i * 2)).add q) = ([.int .i64 (F ⟨i, hi⟩).1, .int .i64 (F ⟨i, hi⟩).2] : List Value)[q]? := fun i hi q hq => (World.cells?_some (hF ⟨i, hi⟩)).2.2 q hq
    have h00 := hc 0 h0 0 (by omega)
    have e00 : (a.add (0 * 2)).add 0 = a := by simp [Addr.add]
    rw [e00] at h00
    obtain ⟨b, off, rfl, hb⟩ := addr_plain (u := .int .i64 (F ⟨0, h0⟩).1) (h00.trans rfl)
    refine ⟨b, off, rfl, fun j hj => ?_⟩
    have e : (List.ofFn F).getD j (0, 0) = F ⟨j, hj⟩ := by
      rw [List.getD_eq_getElem?_getD, List.getElem?_eq_getElem (by simpa using hj)]
      simp
    have k0 := hc j hj 0 (by omega)
    have k1 := hc j hj 1 (by omega)
    rw [plain_add, plain_add] at k0 k1
    rw [e]
    exact ⟨k0.trans rfl, k1.trans rfl⟩

/-- A version. -/
theorem version_open {r : Reach} {b0 : Nat} {v : Value} {d : DataW H} {p : List MemPlace} (hv : Value.okWide Tryd.prog w r b0 26 v) (h : DataW.Trod enc Tryd.prog w 0 spare held 26 v d p) :
    ∃ u : Vn, v = u.val ∧ u.len ≤ maxLen ∧ u.tag.size ≤ maxLen ∧ u.body.size ≤ maxLen ∧ (u.len ≤ 1000 → ∃ al, Has w u al) := by
  obtain ⟨cs, rfl, hsz⟩ := okWide_struct Tryd.underlying26 hv
  obtain ⟨c0, c1, c2, c3, c4, c5, c6, c7, rfl⟩ := eight_of (hsz.trans cells26)
  obtain ⟨fuel, hf⟩ := h
  obtain ⟨y0, y1, y2, y3, y4, y5, n, h0, h1, h2, h3, h4, h5⟩ := trod_six Tryd.underlying26 hf
  simp only [cells3, cells4, cells_9, cells23, cells24, Value.cells] at h0 h1 h2 h3 h4 h5
  obtain ⟨it, e0, _, _⟩ := DataW.trod_int Tryd.underlying3 h0
  obtain ⟨z0, z1, z2, m, _, _, g0, g1, g2⟩ := trod_struct3 Tryd.underlying23 h1
  simp only [cells3] at g0 g1 g2
  obtain ⟨L, k0, _, _⟩ := DataW.trod_int Tryd.underlying3 g0
  obtain ⟨R, k1, _, _⟩ := DataW.trod_int Tryd.underlying3 g1
  obtain ⟨N, k2, _, _⟩ := DataW.trod_int Tryd.underlying3 g2
  obtain ⟨dead, e2, _⟩ := DataW.trod_bool Tryd.underlying4 h2
  obtain ⟨ao, len, cap, e3, hl, hA⟩ := attrs_open h3
  obtain ⟨tag, e4, _, s4⟩ := DataW.trod_string Tryd.underlying9 h4
  obtain ⟨body, e5, _, s5⟩ := DataW.trod_string Tryd.underlying9 h5
  simp at e0 k0 k1 k2 e2 e3 e4 e5
  subst e0 k0 k1 k2 e2 e3 e4 e5
  exact ⟨⟨it, L, R, N, dead, ao, len, cap, tag, body⟩, rfl, hl, s4, s5, hA⟩
end

end Go.Proofs.YtopkeembbopbmaaDoor
