/- A block of texts: sorted, compacted, grown behind. -/
import Derived.Test.YtflpdekifkcfkabConcat
import Derived.Test.YtflpdekifkcfkabNots
import Derived.Test.YtflpdekifkcfkabRise
import Derived.Sort.Grow
namespace Go.Proofs.Ytflpdekifkcfkab
open Go.RowKit Go.Sort
set_option linter.unusedVariables false

/-- Block g shows these texts. -/
def Tb (w : World) (g : Nat) (l : List (List UInt8)) : Prop := ∃ c : Array Value, w.heap[g]? = some (.cells c 9 (0, 0)) ∧ ∀ j (hj : j < l.length), c[j]? = some (encStr l[j])

theorem Tb.lt {w : World} {g : Nat} {l : List (List UInt8)} (h : Tb w g l) : g < w.heap.size := by
  obtain ⟨c, hc, _⟩ := h
  by_cases hlt : g < w.heap.size
  · exact hlt
  · rw [Array.getElem?_eq_none (by omega)] at hc; cases hc

theorem Tb.block {w w' : World} {g : Nat} {l : List (List UInt8)} (h : Tb w g l) (e : w'.heap[g]? = w.heap[g]?) : Tb w' g l := by
  obtain ⟨c, hc, r⟩ := h
  exact ⟨c, e.trans hc, r⟩

theorem Tb.cell {w : World} {g : Nat} {l : List (List UInt8)} (h : Tb w g l) (j : Nat) (hj : j < l.length) : w.cell? ⟨g, j, none⟩ = some (encStr l[j]) := by
  obtain ⟨c, hc, r⟩ := h
  simp [World.cell?, hc, r j hj]

theorem Tb.free {w : World} {g : Nat} {l : List (List UInt8)} (h : Tb w g l) (j : Nat) : w.frozen? ⟨g, j, none⟩ = false := by
  obtain ⟨c, hc, r⟩ := h
  simp [World.frozen?, hc]

theorem Tb.holds {w : World} {g : Nat} {l : List (List UInt8)} (h : Tb w g l) : Holds encStr w g 0 l.toArray := by
  intro j hj
  have hj' : j < l.length := by simpa using hj
  refine ⟨?_, ?_⟩
  · rw [Nat.zero_add, h.cell j hj', getElem!_pos l.toArray j hj]; simp
  · rw [Nat.zero_add, h.free]

theorem Tb.put {w : World} {g : Nat} {l : List (List UInt8)} (h : Tb w g l) (m : List (List UInt8)) (hm : m.length = l.length) : Tb (putRow encStr w g 0 m.toArray) g m := by
  obtain ⟨c, hc, r⟩ := h
  refine ⟨putCells encStr 0 m.toArray c, ?_, fun j hj => ?_⟩
  · simp [putRow, mapBlock, Array.getElem?_modify, hc, onCells]
  · have := r j (by omega)
    simp [putCells, this, hj]

theorem Tb.pre {w : World} {g : Nat} {l m : List (List UInt8)} (h : Tb w g (l ++ m)) : Tb w g l := by
  obtain ⟨c, hc, r⟩ := h
  refine ⟨c, hc, fun j hj => ?_⟩
  rw [r j (by simp; omega), List.getElem_append_left hj]

theorem Tb.grow {w : World} {g : Nat} {l : List (List UInt8)} (h : Tb w g l) (os : Array Obj) : Tb (grow w os) g l := by
  have hlt := h.lt
  refine h.block ?_
  show (w.heap ++ os)[g]? = _
  rw [Array.getElem?_append_left hlt]

theorem Tb.set {w : World} {g : Nat} {l : List (List UInt8)} (h : Tb w g l) (j : Nat) (hj : j < l.length) : Tb (w.setCell ⟨g, j, none⟩ (encStr l[j])) g l := by
  obtain ⟨c, hc, r⟩ := h
  refine ⟨c.setIfInBounds j (encStr l[j]), ?_, fun i hi => ?_⟩
  · rw [Go.Sort.setCell_eq]
    simp [mapBlock, Array.getElem?_modify, hc, onCells]
  · rw [Array.getElem?_setIfInBounds]
    by_cases e : j = i
    · subst e
      have := r j hj
      have hlt : j < c.size := by
        by_cases hlt : j < c.size
        · exact hlt
        · rw [Array.getElem?_eq_none (by omega)] at this; cases this
      rw [if_pos rfl, if_pos hlt]
    · rw [if_neg e]; exact r i hi

theorem below_put {B : Nat} {a w : World} {g : Nat} (h : Below B a w) (hg : B ≤ g) (d : Array (List UInt8)) : Below B a (putRow encStr w g 0 d) := by
  refine h.trans ⟨rfl, rfl, rfl, by simp, fun k hk => ?_⟩
  have : g ≠ k := by omega
  simp [Go.Sort.putRow, mapBlock, Array.getElem?_modify, this]

theorem below_ahead {B : Nat} {a w : World} (h : Below B a w) (n : Nat) : Below B a (Go.Sort.ahead w n) := h.trans ⟨rfl, rfl, rfl, Nat.le_refl _, fun _ _ => rfl⟩

theorem below_growS {B : Nat} {a w : World} (h : Below B a w) (hB : B ≤ w.heap.size) (os : Array Obj) : Below B a (Go.Sort.grow w os) := by
  refine h.trans ⟨rfl, rfl, rfl, by simp [Go.Sort.grow], fun k hk => ?_⟩
  show (w.heap ++ os)[k]? = _
  rw [Array.getElem?_append_left (by omega)]

/-- Texts that a slice shows, in a block of texts. -/
structure Nt (B : Nat) (w : World) (ao : Option Addr) (cap : Nat) (l : List (List UInt8)) : Prop where
  nil : ao = none → l.length = 0 ∧ cap = 0
  row : 0 < l.length → ∃ b, ao = some ⟨b, 0, none⟩ ∧ B ≤ b ∧ Tb w b l

theorem Nt.txts {B : Nat} {w : World} {ao : Option Addr} {cap : Nat} {l : List (List UInt8)} (h : Nt B w ao cap l) : Txts Any w ao l := by
  intro hl
  obtain ⟨b, e, _, t⟩ := h.row hl
  exact ⟨b, e, trivial, t.lt, fun j hj => t.cell j hj⟩

theorem Nt.keep {B : Nat} {w w' : World} {ao : Option Addr} {cap : Nat} {l : List (List UInt8)} (h : Nt B w ao cap l) (e : ∀ b c, B ≤ b → w.heap[b]? = some (.cells c 9 (0, 0)) → w'.heap[b]? = w.heap[b]?) : Nt B w' ao cap l := by
  refine ⟨h.nil, fun hl => ?_⟩
  obtain ⟨b, e1, hb, t⟩ := h.row hl
  obtain ⟨c, hc, _⟩ := id t
  exact ⟨b, e1, hb, t.block (e b c hb hc)⟩

theorem Nt.below {B : Nat} {w w' : World} {ao : Option Addr} {cap : Nat} {l : List (List UInt8)} (h : Nt B w ao cap l) (hb : Below w.heap.size w w') : Nt B w' ao cap l := by
  refine h.keep (fun b c _ hc => hb.block b ?_)
  by_cases hlt : b < w.heap.size
  · exact hlt
  · rw [Array.getElem?_eq_none (by omega)] at hc; cases hc

theorem Nt.mono {B B' : Nat} {w : World} {ao : Option Addr} {cap : Nat} {l : List (List UInt8)} (h : Nt B w ao cap l) (hB : B' ≤ B) : Nt B' w ao cap l := by
  refine ⟨h.nil, fun hl => ?_⟩
  obtain ⟨b, e1, hb, t⟩ := h.row hl
  exact ⟨b, e1, Nat.le_trans hB hb, t⟩

theorem Nt.empty (B : Nat) (w : World) : Nt B w none 0 [] := ⟨fun _ => ⟨rfl, rfl⟩, fun h => by simp at h⟩

theorem Nt.src {B : Nat} {w : World} {ao : Option Addr} {cap : Nat} {l : List (List UInt8)} (h : Nt B w ao cap l) : Src w 1 ao l.length cap (l.map encStr) := by
  refine ⟨by simp, h.nil, fun ad e j u hj => ?_, fun ad e h0 => ?_, fun u hu => ?_⟩
  · have hj' : j < l.length := by
      rw [List.getElem?_map] at hj
      by_cases hlt : j < l.length
      · exact hlt
      · rw [List.getElem?_eq_none (by omega)] at hj; cases hj
    obtain ⟨b, e1, _, t⟩ := h.row (by omega)
    rw [e] at e1
    cases e1
    rw [List.getElem?_map, List.getElem?_eq_getElem hj'] at hj
    cases hj
    have := t.cell j hj'
    simp only [Addr.add]
    split
    · rename_i h0; subst h0; simpa using this
    · simpa using this
  · obtain ⟨b, e1, _, t⟩ := h.row h0
    rw [e] at e1
    cases e1
    exact t.lt
  · rw [List.mem_map] at hu
    obtain ⟨x, _, rfl⟩ := hu
    rfl

end Go.Proofs.Ytflpdekifkcfkab
