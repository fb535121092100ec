/- What was handed in reads as it did. -/
import Derived.Test.YtflpdekifkcfkabRow
import Derived.Test.YtflpdekifkcfkabFilt
import Derived.Test.YtflpdekifkcfkabRef
namespace Go.Proofs.Ytflpdekifkcfkab
open Go.RowKit
set_option linter.unusedVariables false

theorem reads_below {w w' : World} {ao : Option Addr} {len : Nat} (h : Reads8 w ao len) (hb : Below w.heap.size w w') : Reads8 w' ao len := by
  obtain ⟨hl, b, off, zs, hao, hc⟩ := h
  refine ⟨hl, b, off, zs, fun h0 => ⟨(hao h0).1, Nat.lt_of_lt_of_le (hao h0).2 hb.size⟩, fun j hj => ⟨?_, (hc j hj).2⟩⟩
  exact (hb.cell (hao (by omega)).2).trans (hc j hj).1

end Go.Proofs.Ytflpdekifkcfkab
