/-
  No cell of these rows narrows 'for every input' (looked for: loops, veiled, ifaces, maps, wideKeys, modest, calm, conditions, laid).
  DERIVED. THE GIVEN ROWS OF THIS SEAT. 6 by the template 'for every input the law returns true; each argument reads behind the call as it read before'; 0 by the template 'total and deterministic' (their statements: YtkfjcaifkhlngaaTotals.lean).
  GIVEN WITH THE SEED: the statements are not yours to turn. If you find one false, say at which input.
  Laid BY PROGRAM, IN A SANDBOX (cutbox-rows.mjs): the forced cells as the released guide's own fill.sh prints them over the translation 90f4b08ce22e1700… (all of the seat's roots in one cut). By AI agents, Wed Nov 11 2026. No macro, syntax, notation, axiom, sorry.
-/
import Derived.Test.YtkfjcaifkhlngaaChecked
import GoSem.Claim
import GoSem.ClaimJoined
import GoSem.ClaimMapViews
import Derived.JoinedTies
import Derived.KernelRfl
namespace Go.Proofs.Ytkfjcaifkhlngaa
/- THE CELL 'sum', in the pinned program and in every row, IS THE sha256 OF THE DUMP (.gsa) THAT YtkfjcaifkhlngaaProg.lean LOADS. Nothing in Lean hashes anything: it is a label: what it is worth is what the hold of that sum in a sandbox is worth. -/
noncomputable def Try.pinned : Pinned := { name := "ytkfjcaifkhlngaa", sum := "90f4b08ce22e170071c5633ac6f4e6d9ff71bf98438149edbcc35f8f2fe56074", checked := Try.checked }
namespace Rows
def none {H : Type} : Left H := { results := [], args := [] }

/-- 'cardamomlaw6.EvalAll': WHATEVER THE INPUT: true; the input reads as it did. -/
def evalAllSpec : ChangeSpec := { name := "evalAll", fn := fun _ => fun
  | [d1, d2] => { results := [.lit (.bool true)], args := [d1, d2] }
  | _ => none }
def evalAllRow : OpenClaim := { program := "ytkfjcaifkhlngaa", sum := "90f4b08ce22e170071c5633ac6f4e6d9ff71bf98438149edbcc35f8f2fe56074", func := "cardamom/cardamomlaw6.EvalAll", spec := "evalAll", recurses := true, apart := false }
def EvalAllSaid : Prop := evalAllRow.holds Try.pinned (OpenSpec.ofChange evalAllSpec)

/-- ITS FALSE NEIGHBOUR: 'it returns false'. Refute it at one input. -/
def evalAllWrong : ChangeSpec := { name := "evalAll", fn := fun _ => fun
  | [d1, d2] => { results := [.lit (.bool false)], args := [d1, d2] }
  | _ => none }
def EvalAllWrongFalsely : Prop := evalAllRow.holds Try.pinned (OpenSpec.ofChange evalAllWrong)

/-- 'cardamomlaw6.EvalLogic': WHATEVER THE INPUT: true; the input reads as it did. -/
def evalLogicSpec : ChangeSpec := { name := "evalLogic", fn := fun _ => fun
  | [d1, d2, d3] => { results := [.lit (.bool true)], args := [d1, d2, d3] }
  | _ => none }
def evalLogicRow : OpenClaim := { program := "ytkfjcaifkhlngaa", sum := "90f4b08ce22e170071c5633ac6f4e6d9ff71bf98438149edbcc35f8f2fe56074", func := "cardamom/cardamomlaw6.EvalLogic", spec := "evalLogic", recurses := true, apart := false }
def EvalLogicSaid : Prop := evalLogicRow.holds Try.pinned (OpenSpec.ofChange evalLogicSpec)

/-- ITS FALSE NEIGHBOUR: 'it returns false'. Refute it at one input. -/
def evalLogicWrong : ChangeSpec := { name := "evalLogic", fn := fun _ => fun
  | [d1, d2, d3] => { results := [.lit (.bool false)], args := [d1, d2, d3] }
  | _ => none }
def EvalLogicWrongFalsely : Prop := evalLogicRow.holds Try.pinned (OpenSpec.ofChange evalLogicWrong)

/-- 'cardamomlaw6.EvalBare': WHATEVER THE INPUT: true; the input reads as it did. -/
def evalBareSpec : ChangeSpec := { name := "evalBare", fn := fun _ => fun
  | [d1, d2] => { results := [.lit (.bool true)], args := [d1, d2] }
  | _ => none }
def evalBareRow : OpenClaim := { program := "ytkfjcaifkhlngaa", sum := "90f4b08ce22e170071c5633ac6f4e6d9ff71bf98438149edbcc35f8f2fe56074", func := "cardamom/cardamomlaw6.EvalBare", spec := "evalBare", recurses := true, apart := false }
def EvalBareSaid : Prop := evalBareRow.holds Try.pinned (OpenSpec.ofChange evalBareSpec)

/-- ITS FALSE NEIGHBOUR: 'it returns false'. Refute it at one input. -/
def evalBareWrong : ChangeSpec := { name := "evalBare", fn := fun _ => fun
  | [d1, d2] => { results := [.lit (.bool false)], args := [d1, d2] }
  | _ => none }
def EvalBareWrongFalsely : Prop := evalBareRow.holds Try.pinned (OpenSpec.ofChange evalBareWrong)

/-- 'cardamomlaw6.EvalRange': WHATEVER THE INPUT: true; the input reads as it did. -/
def evalRangeSpec : ChangeSpec := { name := "evalRange", fn := fun _ => fun
  | [d1, d2, d3, d4, d5] => { results := [.lit (.bool true)], args := [d1, d2, d3, d4, d5] }
  | _ => none }
def evalRangeRow : OpenClaim := { program := "ytkfjcaifkhlngaa", sum := "90f4b08ce22e170071c5633ac6f4e6d9ff71bf98438149edbcc35f8f2fe56074", func := "cardamom/cardamomlaw6.EvalRange", spec := "evalRange", recurses := true, apart := false }
def EvalRangeSaid : Prop := evalRangeRow.holds Try.pinned (OpenSpec.ofChange evalRangeSpec)

/-- ITS FALSE NEIGHBOUR: 'it returns false'. Refute it at one input. -/
def evalRangeWrong : ChangeSpec := { name := "evalRange", fn := fun _ => fun
  | [d1, d2, d3, d4, d5] => { results := [.lit (.bool false)], args := [d1, d2, d3, d4, d5] }
  | _ => none }
def EvalRangeWrongFalsely : Prop := evalRangeRow.holds Try.pinned (OpenSpec.ofChange evalRangeWrong)

/-- 'cardamomlaw6.EvalForms': WHATEVER THE INPUT: true; the input reads as it did. -/
def evalFormsSpec : ChangeSpec := { name := "evalForms", fn := fun _ => fun
  | [] => { results := [.lit (.bool true)], args := [] }
  | _ => none }
def evalFormsRow : OpenClaim := { program := "ytkfjcaifkhlngaa", sum := "90f4b08ce22e170071c5633ac6f4e6d9ff71bf98438149edbcc35f8f2fe56074", func := "cardamom/cardamomlaw6.EvalForms", spec := "evalForms", recurses := true, apart := false }
def EvalFormsSaid : Prop := evalFormsRow.holds Try.pinned (OpenSpec.ofChange evalFormsSpec)

/-- ITS FALSE NEIGHBOUR: 'it returns false'. Refute it at one input. -/
def evalFormsWrong : ChangeSpec := { name := "evalForms", fn := fun _ => fun
  | [] => { results := [.lit (.bool false)], args := [] }
  | _ => none }
def EvalFormsWrongFalsely : Prop := evalFormsRow.holds Try.pinned (OpenSpec.ofChange evalFormsWrong)

/-- 'cardamomlaw6.EvalTags': WHATEVER THE INPUT: true; the input reads as it did. -/
def evalTagsSpec : ChangeSpec := { name := "evalTags", fn := fun _ => fun
  | [d1, d2] => { results := [.lit (.bool true)], args := [d1, d2] }
  | _ => none }
def evalTagsRow : OpenClaim := { program := "ytkfjcaifkhlngaa", sum := "90f4b08ce22e170071c5633ac6f4e6d9ff71bf98438149edbcc35f8f2fe56074", func := "cardamom/cardamomlaw6.EvalTags", spec := "evalTags", recurses := true, apart := false }
def EvalTagsSaid : Prop := evalTagsRow.holds Try.pinned (OpenSpec.ofChange evalTagsSpec)

/-- ITS FALSE NEIGHBOUR: 'it returns false'. Refute it at one input. -/
def evalTagsWrong : ChangeSpec := { name := "evalTags", fn := fun _ => fun
  | [d1, d2] => { results := [.lit (.bool false)], args := [d1, d2] }
  | _ => none }
def EvalTagsWrongFalsely : Prop := evalTagsRow.holds Try.pinned (OpenSpec.ofChange evalTagsWrong)

/- THE SECOND FORM. 'bulk': how many values and letters a reading holds, each counted each time it is reached (what is shared counts as often as it is met; a slice's spare places count too). A statement '..UptoSaid' is the law's where the arguments, and the package variables that the reading takes, are together of bulk at most 1048576: NARROWER than '..Said'. Prove '..Said' where nothing that the law and all that it calls make is longer than what came in: it says more and counts as full. Else prove '..UptoSaid'. A law counts once. -/
mutual
def uptoBulk {H : Type} : DataW H → Nat
  | .lit (.string bytes) => bytes.length + 1
  | .lit _ => 1
  | .nil => 1
  | .ptr d => uptoBulk d + 1
  | .slice elems spare => uptoBulkAll elems + uptoBulkAll spare + 1
  | .agg parts => uptoBulkAll parts + 1
  | .iface _ d => uptoBulk d + 1
  | .map entries => uptoBulkEntries entries + 1
  | .held _ => 1
def uptoBulkAll {H : Type} : List (DataW H) → Nat
  | [] => 0
  | d :: r => uptoBulk d + uptoBulkAll r
def uptoBulkEntries {H : Type} : List (Lit × DataW H) → Nat
  | [] => 0
  | x :: r => uptoBulkEntry x + uptoBulkEntries r
def uptoBulkEntry {H : Type} : Lit × DataW H → Nat
  | (.string bytes, d) => bytes.length + uptoBulk d + 1
  | (_, d) => uptoBulk d + 1
 end
def uptoSmall : (H : Type) → List (DataW H) → Bool := fun _ ds => decide (uptoBulkAll ds ≤ 1048576)
def OpenSpec.upto (s : _root_.Go.ChangeSpec) : _root_.Go.OpenSpec := { _root_.Go.OpenSpec.ofChange s with cond := some uptoSmall }

/-- 'cardamomlaw6.EvalAll', WHERE WHAT IT READS IS OF BULK AT MOST 1048576: true; the input reads as it did. -/
def evalAllUptoRow : OpenClaim := { program := "ytkfjcaifkhlngaa", sum := "90f4b08ce22e170071c5633ac6f4e6d9ff71bf98438149edbcc35f8f2fe56074", func := "cardamom/cardamomlaw6.EvalAll", spec := "evalAll", recurses := true, apart := false, narrowed := true }
def EvalAllUptoSaid : Prop := evalAllUptoRow.holds Try.pinned (OpenSpec.upto evalAllSpec)

/-- 'cardamomlaw6.EvalLogic', WHERE WHAT IT READS IS OF BULK AT MOST 1048576: true; the input reads as it did. -/
def evalLogicUptoRow : OpenClaim := { program := "ytkfjcaifkhlngaa", sum := "90f4b08ce22e170071c5633ac6f4e6d9ff71bf98438149edbcc35f8f2fe56074", func := "cardamom/cardamomlaw6.EvalLogic", spec := "evalLogic", recurses := true, apart := false, narrowed := true }
def EvalLogicUptoSaid : Prop := evalLogicUptoRow.holds Try.pinned (OpenSpec.upto evalLogicSpec)

/-- 'cardamomlaw6.EvalBare', WHERE WHAT IT READS IS OF BULK AT MOST 1048576: true; the input reads as it did. -/
def evalBareUptoRow : OpenClaim := { program := "ytkfjcaifkhlngaa", sum := "90f4b08ce22e170071c5633ac6f4e6d9ff71bf98438149edbcc35f8f2fe56074", func := "cardamom/cardamomlaw6.EvalBare", spec := "evalBare", recurses := true, apart := false, narrowed := true }
def EvalBareUptoSaid : Prop := evalBareUptoRow.holds Try.pinned (OpenSpec.upto evalBareSpec)

/-- 'cardamomlaw6.EvalRange', WHERE WHAT IT READS IS OF BULK AT MOST 1048576: true; the input reads as it did. -/
def evalRangeUptoRow : OpenClaim := { program := "ytkfjcaifkhlngaa", sum := "90f4b08ce22e170071c5633ac6f4e6d9ff71bf98438149edbcc35f8f2fe56074", func := "cardamom/cardamomlaw6.EvalRange", spec := "evalRange", recurses := true, apart := false, narrowed := true }
def EvalRangeUptoSaid : Prop := evalRangeUptoRow.holds Try.pinned (OpenSpec.upto evalRangeSpec)

/-- 'cardamomlaw6.EvalForms', WHERE WHAT IT READS IS OF BULK AT MOST 1048576: true; the input reads as it did. -/
def evalFormsUptoRow : OpenClaim := { program := "ytkfjcaifkhlngaa", sum := "90f4b08ce22e170071c5633ac6f4e6d9ff71bf98438149edbcc35f8f2fe56074", func := "cardamom/cardamomlaw6.EvalForms", spec := "evalForms", recurses := true, apart := false, narrowed := true }
def EvalFormsUptoSaid : Prop := evalFormsUptoRow.holds Try.pinned (OpenSpec.upto evalFormsSpec)

/-- 'cardamomlaw6.EvalTags', WHERE WHAT IT READS IS OF BULK AT MOST 1048576: true; the input reads as it did. -/
def evalTagsUptoRow : OpenClaim := { program := "ytkfjcaifkhlngaa", sum := "90f4b08ce22e170071c5633ac6f4e6d9ff71bf98438149edbcc35f8f2fe56074", func := "cardamom/cardamomlaw6.EvalTags", spec := "evalTags", recurses := true, apart := false, narrowed := true }
def EvalTagsUptoSaid : Prop := evalTagsUptoRow.holds Try.pinned (OpenSpec.upto evalTagsSpec)

end Rows
end Go.Proofs.Ytkfjcaifkhlngaa
