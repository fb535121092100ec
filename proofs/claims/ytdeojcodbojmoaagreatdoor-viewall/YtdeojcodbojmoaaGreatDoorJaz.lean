/- A view that came in, opened. -/
import Derived.Test.YtdeojcodbojmoaaGreatDoorJau
import Derived.WalkKit
import Derived.ProofKit
import Derived.OpenShut
import Derived.Deep.Slices
import Derived.Deep.Strs
import Derived.Deep.Fields
namespace Go.Proofs.YtdeojcodbojmoaaGreatDoor
open Go.ChangeShapes Go.WideShapes Go.ChangeAt Go.WideElems Go.Deep Go.RowKit
set_option maxRecDepth 100000
set_option linter.unusedVariables false

theorem five_of {α : Type} {cs : Array α} (h : cs.size = 5) : ∃ c0 c1 c2 c3 c4, cs = #[c0, c1, c2, c3, c4] := by
  obtain ⟨l⟩ := cs
  match l, h with
  | [c0, c1, c2, c3, c4], _ => exact ⟨c0, c1, c2, c3, c4, rfl⟩

section
variable {H : Type} {enc : TypeId × Value → H} {P : Program} {w : World} {base : Nat} {spare : Nat → Bool} {held : Bool}

theorem trod_five {t : TypeId} {f0 f1 f2 f3 f4 : Field} {fuel : Nat} {cs : List Value} {x : DataW H × List MemPlace} (ht : P.underlying t = some (.struct #[f0, f1, f2, f3, f4])) (h : DataW.trod enc P w base spare held fuel t cs = some x) :
    ∃ y0 y1 y2 y3 y4 n, DataW.trod enc P w base spare held n f0.type ((cs.drop f0.offset).take (P.cellsOf f0.type)) = some y0 ∧
      DataW.trod enc P w base spare held n f1.type ((cs.drop f1.offset).take (P.cellsOf f1.type)) = some y1 ∧ DataW.trod enc P w base spare held n f2.type ((cs.drop f2.offset).take (P.cellsOf f2.type)) = some y2 ∧
      DataW.trod enc P w base spare held n f3.type ((cs.drop f3.offset).take (P.cellsOf f3.type)) = some y3 ∧ DataW.trod enc P w base spare held n f4.type ((cs.drop f4.offset).take (P.cellsOf f4.type)) = some y4 := by
  obtain ⟨xs, n, _, rfl, hl, hlen, hf⟩ := DataW.trod_struct ht h
  match xs, hlen with
  | [y0, y1, y2, y3, y4], _ => exact ⟨y0, y1, y2, y3, y4, n, by simpa using hf 0 f0 rfl, by simpa using hf 1 f1 rfl, by simpa using hf 2 f2 rfl, by simpa using hf 3 f3 rfl, by simpa using hf 4 f4 rfl⟩

/-- A slice's address is a plain one where there is a cell. -/
theorem addr_plain {W : World} {a : Addr} {u : Value} (h : W.cell? a = some u) : ∃ b off, a = ⟨b, off, none⟩ ∧ b < W.heap.size := by
  obtain ⟨b, off, spot⟩ := a
  have hs : spot = none := by simpa using World.cell?_spot h
  subst hs
  exact ⟨b, off, rfl, World.block_lt_of_cell? W ⟨b, off, none⟩ h⟩

theorem plain_add (b off j : Nat) : Addr.add ⟨b, off, none⟩ j = ⟨b, off + j, none⟩ := by unfold Addr.add; by_cases h : j = 0 <;> simp [h]
end

section
variable {H : Type} {enc : TypeId × Value → H} {w : World} {spare : Nat → Bool} {held : Bool}

theorem cells3 : Tryz.prog.cellsOf 3 = 1 := by kernel_rfl
theorem cells43 : Tryz.prog.cellsOf 43 = 3 := by kernel_rfl
theorem cells45 : Tryz.prog.cellsOf 45 = 4 := by kernel_rfl
theorem cells25 : Tryz.prog.cellsOf 25 = 5 := by kernel_rfl
theorem cells_9 : Tryz.prog.cellsOf 9 = 1 := by kernel_rfl
theorem cells22 : Tryz.prog.cellsOf 22 = 1 := by kernel_rfl
theorem cells23 : Tryz.prog.cellsOf 23 = 1 := by kernel_rfl

theorem list_four {α : Type} {cs : List α} (h : cs.length = 4) : ∃ c0 c1 c2 c3, cs = [c0, c1, c2, c3] := by
  match cs, h with
  | [c0, c1, c2, c3], _ => exact ⟨c0, c1, c2, c3, rfl⟩

/-- A head. -/
theorem head_open {fuel : Nat} {cs : List Value} {x : DataW H × List MemPlace} (h : DataW.trod enc Tryz.prog w 0 spare held fuel 45 cs = some x) : ∃ hd : Hd, cs = hd.vals := by
  obtain ⟨y0, y1, n, _, hl, h0, h1⟩ := trod_struct2 Tryz.underlying45 h
  rw [cells45] at hl
  obtain ⟨c0, c1, c2, c3, rfl⟩ := list_four hl
  simp only [cells3, cells43] at h0 h1
  obtain ⟨it, e0, _, _⟩ := DataW.trod_int Tryz.underlying3 h0
  obtain ⟨z0, z1, z2, m, _, _, g0, g1, g2⟩ := trod_struct3 Tryz.underlying43 h1
  simp only [cells3] at g0 g1 g2
  obtain ⟨L, e1, _, _⟩ := DataW.trod_int Tryz.underlying3 g0
  obtain ⟨R, e2, _, _⟩ := DataW.trod_int Tryz.underlying3 g1
  obtain ⟨N, e3, _, _⟩ := DataW.trod_int Tryz.underlying3 g2
  simp at e0 e1 e2 e3
  subst e0 e1 e2 e3
  exact ⟨⟨it, L, R, N⟩, rfl⟩

/-- A row of heads. -/
theorem heads_open {fuel : Nat} {cs : List Value} {x : DataW H × List MemPlace} (h : DataW.trod enc Tryz.prog w 0 spare held fuel 22 cs = some x) :
    ∃ ao n cap, cs = [.slice ao n cap] ∧ (n ≤ 1000 → ∃ l : List Hd, n = l.length ∧ Rdz (fun b => b < w.heap.size) w 4 ao n (hcells l)) := by
  rcases open_slice Tryz.underlying22 h with ⟨rfl, _⟩ | ⟨a, len, cap, m, k, D, Pl, rfl, _, hl, hm, hmm, _, hx⟩
  · exact ⟨none, 0, 0, rfl, fun _ => ⟨[], rfl, rfl, by omega, fun h => by omega⟩⟩
  · refine ⟨some a, len, cap, rfl, fun hn => ?_⟩
    have hlm : len ≤ m := by rw [hmm]; split <;> omega
    have hex : ∀ i : Fin len, ∃ hd : Hd, w.cells? 0 (a.add (i.1 * 4)) 4 = some hd.vals := fun i => by
      obtain ⟨cs', h1, h2⟩ := hx i.1 (by omega)
      rw [cells45] at h1
      obtain ⟨hd, rfl⟩ := head_open h2
      exact ⟨hd, h1⟩
    obtain ⟨F, hF⟩ := Classical.axiomOfChoice hex
    refine ⟨List.ofFn F, by simp, by rw [hcells_length]; simp, hn, fun h0 => ?_⟩
    have hc : ∀ (i : Nat) (hi : i < len) (q : Nat), q < 4 → w.cell? ((a.add (i * 4)).add q) = (F ⟨i, hi⟩).vals[q]? := fun i hi q hq => (World.cells?_some (hF ⟨i, hi⟩)).2.2 q hq
    have h00 := hc 0 h0 0 (by omega)
    have e00 : (a.add (0 * 4)).add 0 = a := by simp [Addr.add]
    rw [e00] at h00
    obtain ⟨b, off, rfl, hb⟩ := addr_plain (u := .int .i64 (F ⟨0, h0⟩).it) (h00.trans rfl)
    refine ⟨b, off, rfl, hb, hb, fun j u hu => ?_⟩
    have hj : j < len * 4 := by have := (List.getElem?_eq_some_iff.1 hu).1; rw [hcells_length] at this; simpa using this
    have hi : j / 4 < len := by omega
    have e := hcells_get (List.ofFn F) (j / 4) (j % 4) (by simpa using hi) (Nat.mod_lt _ (by omega))
    have ej : j / 4 * 4 + j % 4 = j := Nat.div_add_mod' j 4
    rw [ej, hu] at e
    have := hc (j / 4) hi (j % 4) (Nat.mod_lt _ (by omega))
    rw [plain_add, plain_add, Nat.add_assoc, ej] at this
    rw [this, e]
    simp

/-- A row of numbers. -/
theorem ints_open {fuel : Nat} {cs : List Value} {x : DataW H × List MemPlace} (h : DataW.trod enc Tryz.prog w 0 spare held fuel 23 cs = some x) :
    ∃ ao n cap, cs = [.slice ao n cap] ∧ (n ≤ 1000 → ∃ l : List Int, n = l.length ∧ Rdz (fun b => b < w.heap.size) w 1 ao n (icells l)) := by
  rcases open_slice Tryz.underlying23 h with ⟨rfl, _⟩ | ⟨a, len, cap, m, k, D, Pl, rfl, _, hl, hm, hmm, _, hx⟩
  · exact ⟨none, 0, 0, rfl, fun _ => ⟨[], rfl, rfl, by omega, fun h => by omega⟩⟩
  · refine ⟨some a, len, cap, rfl, fun hn => ?_⟩
    have hlm : len ≤ m := by rw [hmm]; split <;> omega
    have hex : ∀ i : Fin len, ∃ e : Int, w.cell? (a.add i.1) = some (.int .i64 e) := fun i => by
      obtain ⟨cs', h1, h2⟩ := hx i.1 (by omega)
      rw [cells3, Nat.mul_one] at h1
      obtain ⟨e, rfl, _⟩ := DataW.trod_int Tryz.underlying3 h2
      have := (World.cells?_some h1).2.2 0 (by omega)
      exact ⟨e, by simpa [Addr.add] using this⟩
    obtain ⟨F, hF⟩ := Classical.axiomOfChoice hex
    refine ⟨List.ofFn F, by simp, by rw [icells_length]; simp, hn, fun h0 => ?_⟩
    have h00 := hF ⟨0, h0⟩
    have e00 : a.add 0 = a := by simp [Addr.add]
    rw [e00] at h00
    obtain ⟨b, off, rfl, hb⟩ := addr_plain h00
    refine ⟨b, off, rfl, hb, hb, fun j u hu => ?_⟩
    have hj : j < len := by have := (List.getElem?_eq_some_iff.1 hu).1; rw [icells_length] at this; simpa using this
    have := hF ⟨j, hj⟩
    rw [plain_add] at this
    rw [this]
    simp [icells, hj] at hu
    rw [hu]

/-- A view. -/
theorem view_open {r : Reach} {b0 : Nat} {v : Value} {d : DataW H} {p : List MemPlace} (hv : Value.okWide Tryz.prog w r b0 25 v) (h : DataW.Trod enc Tryz.prog w 0 spare held 25 v d p) :
    ∃ c : Vc, v = .agg #[.int .i64 c.R, .int .i64 c.Rev, .string c.f, .slice c.sa c.sn c.sc, .slice c.ea c.en c.ec] ∧ (c.f.size ≤ 1000 → c.sn ≤ 1000 → c.en ≤ 1000 → ∃ vw, Lz (fun b => b < w.heap.size) w c vw) := by
  obtain ⟨cs, rfl, hsz⟩ := okWide_struct Tryz.underlying25 hv
  obtain ⟨c0, c1, c2, c3, c4, rfl⟩ := five_of (hsz.trans cells25)
  obtain ⟨fuel, hf⟩ := h
  obtain ⟨y0, y1, y2, y3, y4, n, h0, h1, h2, h3, h4⟩ := trod_five Tryz.underlying25 hf
  simp only [cells3, cells_9, cells22, cells23, Value.cells] at h0 h1 h2 h3 h4
  obtain ⟨R, e0, _, _⟩ := DataW.trod_int Tryz.underlying3 h0
  obtain ⟨Rev, e1, _, _⟩ := DataW.trod_int Tryz.underlying3 h1
  obtain ⟨f, e2, _, _⟩ := DataW.trod_string Tryz.underlying9 h2
  obtain ⟨sa, sn, sc, e3, hS⟩ := heads_open h3
  obtain ⟨ea, en, ec, e4, hE⟩ := ints_open h4
  simp at e0 e1 e2 e3 e4
  subst e0 e1 e2 e3 e4
  refine ⟨⟨R, Rev, f, sa, sn, sc, ea, en, ec⟩, rfl, fun a1 a2 a3 => ?_⟩
  obtain ⟨l, q1, q2⟩ := hS a2
  obtain ⟨m, q3, q4⟩ := hE a3
  exact ⟨⟨R, Rev, f, l, m⟩, rfl, rfl, rfl, a1, q1, q3, q2, q4⟩
end

end Go.Proofs.YtdeojcodbojmoaaGreatDoor
