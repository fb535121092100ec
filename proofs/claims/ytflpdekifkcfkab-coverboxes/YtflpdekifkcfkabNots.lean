/- Texts cloned; a tag that begins with one of some. -/
import Derived.Test.YtflpdekifkcfkabShelf
import Derived.Test.YtflpdekifkcfkabLeaves
import Derived.Test.YtflpdekifkcfkabBrow
import Derived.Sort.EncStr
namespace Go.Proofs.Ytflpdekifkcfkab
open Go.RowKit
set_option linter.unusedVariables false

theorem clone56 (s : ByteArray) (w : World) (hs : s.size ≤ 1000) :
    Calls Try.prog 67 #[.string s] w fun e w' => e = .returned (.string s) ∧ Below w.heap.size w w' :=
  AnyPu.stringslite_Clone Try.laysClone s w (by omega)

set_option maxHeartbeats 400000 in
theorem clone38 (s : ByteArray) (w : World) (hs : s.size ≤ 1000) :
    Calls Try.prog 62 #[.string s] w fun e w' => e = .returned (.string s) ∧ Below w.heap.size w w' := by
  have c := fun w => clone56 s w hs
  go_enter Try.func62, Try.ntmps62
  go_wp2_with fail
  refine (c _).mono ?_
  rintro e w' ⟨rfl, hb⟩
  go_wp2
  go_ret
  exact ⟨rfl, hb⟩

/-- Texts that lie in a row, in a block of P. -/
def Txts (P : Nat → Prop) (w : World) (ao : Option Addr) (l : List (List UInt8)) : Prop :=
  0 < l.length → ∃ b, ao = some ⟨b, 0, none⟩ ∧ P b ∧ b < w.heap.size ∧ ∀ j (hj : j < l.length), w.cell? ⟨b, j, none⟩ = some (.string (Ev.bts l[j]))

theorem Txts.kept {P : Nat → Prop} {w w' : World} {ao : Option Addr} {l : List (List UInt8)} (h : Txts P w ao l) (hk : Kept P w w') : Txts P w' ao l := by
  intro hl
  obtain ⟨b, e, hp, hb, hc⟩ := h hl
  exact ⟨b, e, hp, Nat.lt_of_lt_of_le hb hk.size, fun j hj => (hk.cell hb hp).trans (hc j hj)⟩

theorem Txts.mono {P P' : Nat → Prop} {w : World} {ao : Option Addr} {l : List (List UInt8)} (h : Txts P w ao l) (hp' : ∀ b, b < w.heap.size → P b → P' b) : Txts P' w ao l := by
  intro hl
  obtain ⟨b, e, hp, hb, hc⟩ := h hl
  exact ⟨b, e, hp' b hb hp, hb, hc⟩

theorem Txts.below {w w' : World} {ao : Option Addr} {l : List (List UInt8)} (h : Txts Any w ao l) (hb : Below w.heap.size w w') : Txts Any w' ao l := h.kept (Kept.of_below hb)

theorem bts_size (l : List UInt8) : (Ev.bts l).size = l.length := by simp [Ev.bts, ByteArray.size]

set_option maxHeartbeats 400000 in
/-- The function value: does the text that is kept begin with what is handed in? -/
theorem closure51 (tb : Nat) (s p : ByteArray) (w : World) (hs : s.size ≤ 1000) (hp : p.size ≤ 1000) (hc : w.cell? ⟨tb, 0, none⟩ = some (.string s)) :
    Calls Try.prog 77 #[.string p, .pointer (some ⟨tb, 0, none⟩)] w fun e w' => e = .returned (.bool (Ev.begins s p)) ∧ w' = w := by
  have c := fun w => prefix28 s p w hs hp
  go_enter Try.func77, Try.ntmps77
  go_wp2_with fail
  refine (c _).mono ?_
  rintro e w' ⟨rfl, rfl⟩
  go_wp2
  go_ret
  exact ⟨rfl, rfl⟩

end Go.Proofs.Ytflpdekifkcfkab
