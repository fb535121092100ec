/- What the condition on the package's variable gives the walks, and a world that meets it. -/
import Derived.Test.YthlgfejdmigifaaDoorRows
import Derived.ProofKit
import Derived.LaidMore
import Derived.LaidHandle
import Derived.LaidLaws
import Derived.Stop.LaidErr
import Derived.Stop.Joined
import Derived.OpenShut
namespace Go.Proofs.YthlgfejdmigifaaDoor
open Go.ChangeShapes Go.WideShapes Go.ChangeAt Go.RowKit
set_option maxRecDepth 100000

/-- The variables that the rows list. -/
def laid1 : List (String × DataW Unit) := [("cardamom/bits.errNone", Rows.laid_cardamom_bits_errNone)]

theorem gNone : Tryd.prog.globalNamed "cardamom/bits.errNone" = some 0 := by kernel_rfl
theorem tNone : (Tryd.prog.globals[0]?).map (·.type) = some 39 := by kernel_rfl

/-- The door's own heap meets the condition. -/
theorem door_met (os : Os) (args : Array Value) : laidMetH Tryd.prog laid1 ((World.doorLaid Tryd.prog 57 os).forCall (fun _ _ => 0) ⟨#[], args, []⟩).memory :=
  laidMetH_of_parts3 (fuel := 8) (laidMet_of_run' 8 (by kernel_rfl) (by kernel_rfl)) (by kernel_rfl) (by kernel_rfl)

theorem star : "*" ++ "errors.errorString" = "*errors.errorString" := by decide +kernel
theorem row62 (u : TypeId) (h : Tryd.prog.typeName? 3 u = some "*errors.errorString") : u = 62 :=
  typeName_ptr_named (nm := "errors.errorString") (by rw [star]; kernel_rfl) (by kernel_rfl) (by decide) u (by rw [star]; exact h)
theorem cells87 : Tryd.prog.cellsOf 87 = 1 := by kernel_rfl
theorem cells9 : Tryd.prog.cellsOf 9 = 1 := by kernel_rfl

/-- The sentinel of package bits is there. -/
theorem of_laid {W : World} (h : laidMetH Tryd.prog laid1 W) : ∃ a, W.cell? ⟨0, 0, none⟩ = some (.iface 62 (.pointer (some a))) := by
  have h' : laidMet Tryd.prog [("cardamom/bits.errNone", Rows.laid_cardamom_bits_errNone)] W := h
  obtain ⟨a, s, hv, _⟩ := laid_sentinel h' gNone tNone Tryd.underlying39 row62 Tryd.underlying62 Tryd.underlying87 rfl rfl Tryd.underlying9 cells87 cells9
  exact ⟨a, by simpa using World.var?_cell gNone hv 0⟩

end Go.Proofs.YthlgfejdmigifaaDoor
