/- What the condition on the packages' variables gives the walks, and a world that meets it. -/
import Derived.Test.YtopkeembbopbmaaDoorRows
import Derived.Test.YtopkeembbopbmaaDoorMay
import Derived.ProofKit
import Derived.LaidMore
import Derived.LaidHandle
import Derived.LaidLaws
import Derived.Stop.LaidErr
import Derived.Stop.Joined
import Derived.OpenShut
namespace Go.Proofs.YtopkeembbopbmaaDoor
open Go.ChangeShapes Go.WideShapes Go.ChangeAt Go.RowKit
set_option maxRecDepth 100000
set_option linter.unusedVariables false

/-- The variables that the rows list. -/
def laid3 : List (String × DataW Unit) := [("errors.errorType", Rows.laid_errors_errorType), ("cardamom/bits.errNone", Rows.laid_cardamom_bits_errNone), ("cardamom/stamp.errMayNot", Rows.laid_cardamom_stamp_errMayNot)]

theorem gNone : Tryd.prog.globalNamed "cardamom/bits.errNone" = some 1 := by kernel_rfl
theorem tNone : (Tryd.prog.globals[1]?).map (·.type) = some 50 := by kernel_rfl
theorem gStamp : Tryd.prog.globalNamed "cardamom/stamp.errMayNot" = some 2 := by kernel_rfl
theorem tStamp : (Tryd.prog.globals[2]?).map (·.type) = some 50 := by kernel_rfl
theorem gErr : Tryd.prog.globalNamed "errors.errorType" = some 0 := by kernel_rfl
theorem rtErr : (Tryd.prog.cutTypes.find? (·.1 == "internal/reflectlite.rtype")).map (·.2) = some 99 := by kernel_rfl
theorem oneErr : ((List.range 166).filter fun t => Tryd.prog.rowNamed t [101, 114, 114, 111, 114]) = [50] := by kernel_rfl
theorem sizeErr : Tryd.prog.types.size = 166 := by kernel_rfl

/-- The door's own heap meets the condition. -/
theorem door_met (os : Os) (args : Array Value) : laidMetH Tryd.prog laid3 ((World.doorLaid Tryd.prog 113 os).forCall (fun _ _ => 0) ⟨#[], args, []⟩).memory :=
  laidMetH_of_parts3 (fuel := 8) (laidMet_of_run' 8 (by kernel_rfl) (by kernel_rfl)) (by kernel_rfl) (by kernel_rfl)

theorem star : "*" ++ "errors.errorString" = "*errors.errorString" := by decide +kernel
theorem row135 (u : TypeId) (h : Tryd.prog.typeName? 3 u = some "*errors.errorString") : u = 135 :=
  typeName_ptr_named (nm := "errors.errorString") (by rw [star]; kernel_rfl) (by kernel_rfl) (by decide) u (by rw [star]; exact h)
theorem cells155 : Tryd.prog.cellsOf 155 = 1 := by kernel_rfl
theorem cells_9 : Tryd.prog.cellsOf 9 = 1 := by kernel_rfl

/-- The variables are there. -/
theorem vars_of_laid {W : World} (h : laidMetH Tryd.prog laid3 W) : ∃ a b, Vars W a b := by
  have h' : laidMet Tryd.prog [("cardamom/bits.errNone", Rows.laid_cardamom_bits_errNone), ("cardamom/stamp.errMayNot", Rows.laid_cardamom_stamp_errMayNot)] W ∧ handlesMet Tryd.prog [("errors.errorType", Rows.laid_errors_errorType)] W := h
  obtain ⟨a, s, hv, _⟩ := laid_sentinel h'.1 gNone tNone Tryd.underlying50 row135 Tryd.underlying135 Tryd.underlying155 rfl rfl Tryd.underlying9 cells155 cells_9
  obtain ⟨b, s2, hv2, _⟩ := laid_sentinel h'.1.tail gStamp tStamp Tryd.underlying50 row135 Tryd.underlying135 Tryd.underlying155 rfl rfl Tryd.underlying9 cells155 cells_9
  refine ⟨a, b, ?_, by unfold Err; simpa using World.var?_cell gNone hv 0, by simpa using World.var?_cell gStamp hv2 0⟩
  obtain ⟨name, u, ty, e1, e2, e3, e4, e5⟩ := h'.2 _ (List.mem_singleton.2 rfl)
  have en : name = [101, 114, 114, 111, 114] := (Option.some.inj e1).symm
  subst en
  obtain rfl := Option.some.inj (rtErr.symm.trans e2)
  have hm : ty ∈ (List.range 166).filter fun t => Tryd.prog.rowNamed t [101, 114, 114, 111, 114] := List.mem_filter.2 ⟨List.mem_range.2 (by rw [← sizeErr]; exact e3), e4⟩
  rw [oneErr] at hm
  obtain rfl := List.mem_singleton.1 hm
  have hh : typeHandle Tryd.prog 50 = .pointer (some ⟨3, 50, none⟩) := by kernel_rfl
  rw [hh] at e5
  unfold ErrT
  simpa using World.var?_cell gErr e5 0

end Go.Proofs.YtopkeembbopbmaaDoor
