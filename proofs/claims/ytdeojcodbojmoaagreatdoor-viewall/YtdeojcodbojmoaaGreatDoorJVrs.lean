/- What the condition on the package's variables gives: all three. -/
import Derived.Test.YtdeojcodbojmoaaGreatDoorJDor
import Derived.Test.YtdeojcodbojmoaaGreatDoorJau
namespace Go.Proofs.YtdeojcodbojmoaaGreatDoor
open Go.ChangeShapes Go.WideShapes Go.ChangeAt Go.RowKit
set_option maxRecDepth 100000
set_option linter.unusedVariables false

theorem gStamp : Tryz.prog.globalNamed "cardamom/stamp.errMayNot" = some 2 := by kernel_rfl
theorem tStamp : (Tryz.prog.globals[2]?).map (·.type) = some 65 := by kernel_rfl
theorem gErr : Tryz.prog.globalNamed "errors.errorType" = some 1 := by kernel_rfl
theorem rtErr : (Tryz.prog.cutTypes.find? (·.1 == "internal/reflectlite.rtype")).map (·.2) = some 133 := by kernel_rfl
theorem oneErr : ((List.range 215).filter fun t => Tryz.prog.rowNamed t [101, 114, 114, 111, 114]) = [65] := by kernel_rfl
theorem sizeErr : Tryz.prog.types.size = 215 := by kernel_rfl

theorem vars_of_laid {W : World} (h : laidMetH Tryz.prog laid6 W) : Vars W := by
  have hs := of_laid h
  have h' : laidMet Tryz.prog [("math/bits.deBruijn32tab", Rows.laid_math_bits_deBruijn32tab), ("math/bits.deBruijn64tab", Rows.laid_math_bits_deBruijn64tab), ("internal/strconv.uint64pow10", Rows.laid_internal_strconv_uint64pow10), ("cardamom/stamp.errMayNot", Rows.laid_cardamom_stamp_errMayNot), ("cardamom/seen.errMayNot", Rows.laid_cardamom_seen_errMayNot)] W ∧ handlesMet Tryz.prog [("errors.errorType", Rows.laid_errors_errorType)] W := h
  obtain ⟨a, s, hv, _⟩ := laid_sentinel h'.1.tail.tail.tail gStamp tStamp Tryz.underlying65 row185 Tryz.underlying185 Tryz.underlying204 rfl rfl Tryz.underlying9 cells204 cells9
  refine ⟨hs, ?_, ⟨a, by simpa using World.var?_cell gStamp hv 0⟩⟩
  obtain ⟨name, u, ty, e1, e2, e3, e4, e5⟩ := h'.2 _ (List.mem_singleton.2 rfl)
  have en : name = [101, 114, 114, 111, 114] := (Option.some.inj e1).symm
  subst en
  obtain rfl := Option.some.inj (rtErr.symm.trans e2)
  have hm : ty ∈ (List.range 215).filter fun t => Tryz.prog.rowNamed t [101, 114, 114, 111, 114] := List.mem_filter.2 ⟨List.mem_range.2 (by rw [← sizeErr]; exact e3), e4⟩
  rw [oneErr] at hm
  obtain rfl := List.mem_singleton.1 hm
  have hh : typeHandle Tryz.prog 65 = .pointer (some ⟨7, 65, none⟩) := by kernel_rfl
  rw [hh] at e5
  unfold ErrT
  simpa using World.var?_cell gErr e5 0

end Go.Proofs.YtdeojcodbojmoaaGreatDoor
