/- What the condition on the package's variables gives the walks, and a world that meets it. -/
import Derived.Test.YtdeojcodbojmoaaGreatDoorRows
import Derived.ProofKit
import Derived.LaidMore
import Derived.LaidHandle
import Derived.LaidLaws
import Derived.Stop.LaidErr
import Derived.Stop.Joined
import Derived.OpenShut
namespace Go.Proofs.YtdeojcodbojmoaaGreatDoor
open Go.ChangeShapes Go.WideShapes Go.ChangeAt Go.RowKit
set_option maxRecDepth 100000

/-- The variables that the rows list. -/
def laid6 : List (String × DataW Unit) := [("math/bits.deBruijn32tab", Rows.laid_math_bits_deBruijn32tab), ("math/bits.deBruijn64tab", Rows.laid_math_bits_deBruijn64tab), ("internal/strconv.uint64pow10", Rows.laid_internal_strconv_uint64pow10), ("errors.errorType", Rows.laid_errors_errorType), ("cardamom/stamp.errMayNot", Rows.laid_cardamom_stamp_errMayNot), ("cardamom/seen.errMayNot", Rows.laid_cardamom_seen_errMayNot)]

theorem gSeen : Tryz.prog.globalNamed "cardamom/seen.errMayNot" = some 0 := by kernel_rfl
theorem tSeen : (Tryz.prog.globals[0]?).map (·.type) = some 65 := by kernel_rfl

/-- The door's own heap meets the condition. -/
theorem door_met (os : Os) (args : Array Value) : laidMetH Tryz.prog laid6 ((World.doorLaid Tryz.prog 69 os).forCall (fun _ _ => 0) ⟨#[], args, []⟩).memory :=
  laidMetH_of_parts3 (fuel := 8) (laidMet_of_run' 8 (by kernel_rfl) (by kernel_rfl)) (by kernel_rfl) (by kernel_rfl)

theorem star : "*" ++ "errors.errorString" = "*errors.errorString" := by decide +kernel
theorem row185 (u : TypeId) (h : Tryz.prog.typeName? 3 u = some "*errors.errorString") : u = 185 :=
  typeName_ptr_named (nm := "errors.errorString") (by rw [star]; kernel_rfl) (by kernel_rfl) (by decide) u (by rw [star]; exact h)
theorem cells204 : Tryz.prog.cellsOf 204 = 1 := by kernel_rfl
theorem cells9 : Tryz.prog.cellsOf 9 = 1 := by kernel_rfl

/-- The sentinel of package seen is there. -/
theorem of_laid {W : World} (h : laidMetH Tryz.prog laid6 W) : ∃ a, W.cell? ⟨0, 0, none⟩ = some (.iface 185 (.pointer (some a))) := by
  have h' : laidMet Tryz.prog [("math/bits.deBruijn32tab", Rows.laid_math_bits_deBruijn32tab), ("math/bits.deBruijn64tab", Rows.laid_math_bits_deBruijn64tab), ("internal/strconv.uint64pow10", Rows.laid_internal_strconv_uint64pow10), ("cardamom/stamp.errMayNot", Rows.laid_cardamom_stamp_errMayNot), ("cardamom/seen.errMayNot", Rows.laid_cardamom_seen_errMayNot)] W ∧ handlesMet Tryz.prog [("errors.errorType", Rows.laid_errors_errorType)] W := h
  obtain ⟨a, s, hv, _⟩ := laid_sentinel h'.1.tail.tail.tail.tail gSeen tSeen Tryz.underlying65 row185 Tryz.underlying185 Tryz.underlying204 rfl rfl Tryz.underlying9 cells204 cells9
  exact ⟨a, by simpa using World.var?_cell gSeen hv 0⟩

end Go.Proofs.YtdeojcodbojmoaaGreatDoor
