/- What the walk is told of bytes that came in. -/
import Derived.Test.YtflpdekifkcfkabProg
import Derived.WalkKit
import Derived.ProofKit
import Derived.OpenShut
import Derived.Handy
namespace Go.Proofs.Ytflpdekifkcfkab
open Go.ChangeShapes Go.WideShapes Go.ChangeAt Go.RowKit

/-- A slice of integers that came in. -/
def IsRow (k : IntKind) (w : World) (a : Option Addr) (len cap : Nat) (zs : List Int) : Prop :=
  (a = none ∧ len = 0 ∧ cap = 0 ∧ zs = []) ∨
  ∃ x, a = some x ∧ len ≤ cap ∧ cap ≤ maxLen ∧ zs.length = cap ∧ (∀ i, i < zs.length → w.cell? (x.add i) = some (.int k (zs.getD i 0))) ∧ ∀ n ∈ zs, (Lit.int k n).wf = true

/-- Each element is a byte that is read. -/
def Reads8 (w : World) (a : Option Addr) (len : Nat) : Prop :=
  len ≤ maxLen ∧ ∃ (b off : Nat) (zs : Nat → Int), (0 < len → a = some ⟨b, off, none⟩ ∧ b < w.heap.size) ∧ ∀ j, j < len → w.cell? ⟨b, off + j, none⟩ = some (.int .u8 (zs j)) ∧ 0 ≤ zs j ∧ zs j ≤ 255

theorem reads_of {w : World} {a : Option Addr} {len cap : Nat} {zs : List Int} (h : IsRow .u8 w a len cap zs) : Reads8 w a len := by
  rcases h with ⟨_, rfl, _, _⟩ | ⟨x, rfl, h1, h2, h3, h4, h5⟩
  · exact ⟨Nat.zero_le _, 0, 0, fun _ => 0, fun h => by omega, fun j hj => by omega⟩
  · refine ⟨Nat.le_trans h1 h2, ?_⟩
    by_cases h0 : 0 < len
    · obtain ⟨b, off, rfl, hc⟩ := ints_at h4 (by omega)
      refine ⟨b, off, fun j => zs.getD j 0, fun _ => ⟨rfl, ?_⟩, fun j hj => ⟨hc j (by omega), ?_⟩⟩
      · have := World.block_lt_of_cell? w ⟨b, off + 0, none⟩ (hc 0 (by omega)); exact this
      · have hj' : j < zs.length := by omega
        have e : zs.getD j 0 = zs[j] := by rw [List.getD_eq_getElem?_getD, List.getElem?_eq_getElem hj']; rfl
        show 0 ≤ zs.getD j 0 ∧ zs.getD j 0 ≤ 255
        rw [e]
        exact bounds_u8 (h5 _ (List.getElem_mem hj'))
    · exact ⟨0, 0, fun _ => 0, fun h => by omega, fun j hj => by omega⟩

end Go.Proofs.Ytflpdekifkcfkab
