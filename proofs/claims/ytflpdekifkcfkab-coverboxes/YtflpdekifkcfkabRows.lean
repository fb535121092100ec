/-
  No cell of these rows narrows 'for every input' (looked for: loops, veiled, ifaces, maps, wideKeys, modest, calm, conditions, laid).
  DERIVED. THE GIVEN ROWS OF THIS SEAT. 5 by the template 'for every input the law returns true; each argument reads behind the call as it read before'; 0 by the template 'total and deterministic' (their statements: YtflpdekifkcfkabTotals.lean).
  GIVEN WITH THE SEED: the statements are not yours to turn. If you find one false, say at which input.
  Laid BY PROGRAM, IN A SANDBOX (cutbox-rows.mjs): the forced cells as the released guide's own fill.sh prints them over the translation 1d0a638d59c2bdd8… (all of the seat's roots in one cut). By AI agents, Wed Nov 11 2026. No macro, syntax, notation, axiom, sorry.
-/
import Derived.Test.YtflpdekifkcfkabChecked
import GoSem.Claim
import GoSem.ClaimJoined
import GoSem.ClaimMapViews
import Derived.JoinedTies
import Derived.KernelRfl
namespace Go.Proofs.Ytflpdekifkcfkab
/- THE CELL 'sum', in the pinned program and in every row, IS THE sha256 OF THE DUMP (.gsa) THAT YtflpdekifkcfkabProg.lean LOADS. Nothing in Lean hashes anything: it is a label: what it is worth is what the hold of that sum in a sandbox is worth. -/
noncomputable def Try.pinned : Pinned := { name := "ytflpdekifkcfkab", sum := "1d0a638d59c2bdd85206d661271c0001d45963b85c0d5facbe82dfea5a87504d", checked := Try.checked }
namespace Rows
def none {H : Type} : Left H := { results := [], args := [] }

/-- 'cardamomlaw8.CoverAll': WHATEVER THE INPUT: true; the input reads as it did. -/
def coverAllSpec : ChangeSpec := { name := "coverAll", fn := fun _ => fun
  | [d1, d2, d3] => { results := [.lit (.bool true)], args := [d1, d2, d3] }
  | _ => none }
def coverAllRow : OpenClaim := { program := "ytflpdekifkcfkab", sum := "1d0a638d59c2bdd85206d661271c0001d45963b85c0d5facbe82dfea5a87504d", func := "cardamom/cardamomlaw8.CoverAll", spec := "coverAll", unfollowed := true, recurses := true, apart := false }
def CoverAllSaid : Prop := coverAllRow.holds Try.pinned (OpenSpec.ofChange coverAllSpec)

/-- ITS FALSE NEIGHBOUR: 'it returns false'. Refute it at one input. -/
def coverAllWrong : ChangeSpec := { name := "coverAll", fn := fun _ => fun
  | [d1, d2, d3] => { results := [.lit (.bool false)], args := [d1, d2, d3] }
  | _ => none }
def CoverAllWrongFalsely : Prop := coverAllRow.holds Try.pinned (OpenSpec.ofChange coverAllWrong)

/-- 'cardamomlaw8.CoverSound': WHATEVER THE INPUT: true; the input reads as it did. -/
def coverSoundSpec : ChangeSpec := { name := "coverSound", fn := fun _ => fun
  | [d1, d2, d3] => { results := [.lit (.bool true)], args := [d1, d2, d3] }
  | _ => none }
def coverSoundRow : OpenClaim := { program := "ytflpdekifkcfkab", sum := "1d0a638d59c2bdd85206d661271c0001d45963b85c0d5facbe82dfea5a87504d", func := "cardamom/cardamomlaw8.CoverSound", spec := "coverSound", unfollowed := true, recurses := true, apart := false }
def CoverSoundSaid : Prop := coverSoundRow.holds Try.pinned (OpenSpec.ofChange coverSoundSpec)

/-- ITS FALSE NEIGHBOUR: 'it returns false'. Refute it at one input. -/
def coverSoundWrong : ChangeSpec := { name := "coverSound", fn := fun _ => fun
  | [d1, d2, d3] => { results := [.lit (.bool false)], args := [d1, d2, d3] }
  | _ => none }
def CoverSoundWrongFalsely : Prop := coverSoundRow.holds Try.pinned (OpenSpec.ofChange coverSoundWrong)

/-- 'cardamomlaw8.CoverOrder': WHATEVER THE INPUT: true; the input reads as it did. -/
def coverOrderSpec : ChangeSpec := { name := "coverOrder", fn := fun _ => fun
  | [d1, d2, d3] => { results := [.lit (.bool true)], args := [d1, d2, d3] }
  | _ => none }
def coverOrderRow : OpenClaim := { program := "ytflpdekifkcfkab", sum := "1d0a638d59c2bdd85206d661271c0001d45963b85c0d5facbe82dfea5a87504d", func := "cardamom/cardamomlaw8.CoverOrder", spec := "coverOrder", unfollowed := true, recurses := true, apart := false }
def CoverOrderSaid : Prop := coverOrderRow.holds Try.pinned (OpenSpec.ofChange coverOrderSpec)

/-- ITS FALSE NEIGHBOUR: 'it returns false'. Refute it at one input. -/
def coverOrderWrong : ChangeSpec := { name := "coverOrder", fn := fun _ => fun
  | [d1, d2, d3] => { results := [.lit (.bool false)], args := [d1, d2, d3] }
  | _ => none }
def CoverOrderWrongFalsely : Prop := coverOrderRow.holds Try.pinned (OpenSpec.ofChange coverOrderWrong)

/-- 'cardamomlaw8.CoverForms': WHATEVER THE INPUT: true; the input reads as it did. -/
def coverFormsSpec : ChangeSpec := { name := "coverForms", fn := fun _ => fun
  | [] => { results := [.lit (.bool true)], args := [] }
  | _ => none }
def coverFormsRow : OpenClaim := { program := "ytflpdekifkcfkab", sum := "1d0a638d59c2bdd85206d661271c0001d45963b85c0d5facbe82dfea5a87504d", func := "cardamom/cardamomlaw8.CoverForms", spec := "coverForms", unfollowed := true, recurses := true, apart := false }
def CoverFormsSaid : Prop := coverFormsRow.holds Try.pinned (OpenSpec.ofChange coverFormsSpec)

/-- ITS FALSE NEIGHBOUR: 'it returns false'. Refute it at one input. -/
def coverFormsWrong : ChangeSpec := { name := "coverForms", fn := fun _ => fun
  | [] => { results := [.lit (.bool false)], args := [] }
  | _ => none }
def CoverFormsWrongFalsely : Prop := coverFormsRow.holds Try.pinned (OpenSpec.ofChange coverFormsWrong)

/-- 'cardamomlaw8.CoverBoxes': WHATEVER THE INPUT: true; the input reads as it did. -/
def coverBoxesSpec : ChangeSpec := { name := "coverBoxes", fn := fun _ => fun
  | [d1, d2] => { results := [.lit (.bool true)], args := [d1, d2] }
  | _ => none }
def coverBoxesRow : OpenClaim := { program := "ytflpdekifkcfkab", sum := "1d0a638d59c2bdd85206d661271c0001d45963b85c0d5facbe82dfea5a87504d", func := "cardamom/cardamomlaw8.CoverBoxes", spec := "coverBoxes", unfollowed := true, recurses := true, apart := false }
def CoverBoxesSaid : Prop := coverBoxesRow.holds Try.pinned (OpenSpec.ofChange coverBoxesSpec)

/-- ITS FALSE NEIGHBOUR: 'it returns false'. Refute it at one input. -/
def coverBoxesWrong : ChangeSpec := { name := "coverBoxes", fn := fun _ => fun
  | [d1, d2] => { results := [.lit (.bool false)], args := [d1, d2] }
  | _ => none }
def CoverBoxesWrongFalsely : Prop := coverBoxesRow.holds Try.pinned (OpenSpec.ofChange coverBoxesWrong)

/- THE SECOND FORM. 'bulk': how many values and letters a reading holds, each counted each time it is reached (what is shared counts as often as it is met; a slice's spare places count too). A statement '..UptoSaid' is the law's where the arguments, and the package variables that the reading takes, are together of bulk at most 1048576: NARROWER than '..Said'. Prove '..Said' where nothing that the law and all that it calls make is longer than what came in: it says more and counts as full. Else prove '..UptoSaid'. A law counts once. -/
mutual
def uptoBulk {H : Type} : DataW H → Nat
  | .lit (.string bytes) => bytes.length + 1
  | .lit _ => 1
  | .nil => 1
  | .ptr d => uptoBulk d + 1
  | .slice elems spare => uptoBulkAll elems + uptoBulkAll spare + 1
  | .agg parts => uptoBulkAll parts + 1
  | .iface _ d => uptoBulk d + 1
  | .map entries => uptoBulkEntries entries + 1
  | .held _ => 1
def uptoBulkAll {H : Type} : List (DataW H) → Nat
  | [] => 0
  | d :: r => uptoBulk d + uptoBulkAll r
def uptoBulkEntries {H : Type} : List (Lit × DataW H) → Nat
  | [] => 0
  | x :: r => uptoBulkEntry x + uptoBulkEntries r
def uptoBulkEntry {H : Type} : Lit × DataW H → Nat
  | (.string bytes, d) => bytes.length + uptoBulk d + 1
  | (_, d) => uptoBulk d + 1
 end
def uptoSmall : (H : Type) → List (DataW H) → Bool := fun _ ds => decide (uptoBulkAll ds ≤ 1048576)
def OpenSpec.upto (s : _root_.Go.ChangeSpec) : _root_.Go.OpenSpec := { _root_.Go.OpenSpec.ofChange s with cond := some uptoSmall }

/-- 'cardamomlaw8.CoverAll', WHERE WHAT IT READS IS OF BULK AT MOST 1048576: true; the input reads as it did. -/
def coverAllUptoRow : OpenClaim := { program := "ytflpdekifkcfkab", sum := "1d0a638d59c2bdd85206d661271c0001d45963b85c0d5facbe82dfea5a87504d", func := "cardamom/cardamomlaw8.CoverAll", spec := "coverAll", unfollowed := true, recurses := true, apart := false, narrowed := true }
def CoverAllUptoSaid : Prop := coverAllUptoRow.holds Try.pinned (OpenSpec.upto coverAllSpec)

/-- 'cardamomlaw8.CoverSound', WHERE WHAT IT READS IS OF BULK AT MOST 1048576: true; the input reads as it did. -/
def coverSoundUptoRow : OpenClaim := { program := "ytflpdekifkcfkab", sum := "1d0a638d59c2bdd85206d661271c0001d45963b85c0d5facbe82dfea5a87504d", func := "cardamom/cardamomlaw8.CoverSound", spec := "coverSound", unfollowed := true, recurses := true, apart := false, narrowed := true }
def CoverSoundUptoSaid : Prop := coverSoundUptoRow.holds Try.pinned (OpenSpec.upto coverSoundSpec)

/-- 'cardamomlaw8.CoverOrder', WHERE WHAT IT READS IS OF BULK AT MOST 1048576: true; the input reads as it did. -/
def coverOrderUptoRow : OpenClaim := { program := "ytflpdekifkcfkab", sum := "1d0a638d59c2bdd85206d661271c0001d45963b85c0d5facbe82dfea5a87504d", func := "cardamom/cardamomlaw8.CoverOrder", spec := "coverOrder", unfollowed := true, recurses := true, apart := false, narrowed := true }
def CoverOrderUptoSaid : Prop := coverOrderUptoRow.holds Try.pinned (OpenSpec.upto coverOrderSpec)

/-- 'cardamomlaw8.CoverForms', WHERE WHAT IT READS IS OF BULK AT MOST 1048576: true; the input reads as it did. -/
def coverFormsUptoRow : OpenClaim := { program := "ytflpdekifkcfkab", sum := "1d0a638d59c2bdd85206d661271c0001d45963b85c0d5facbe82dfea5a87504d", func := "cardamom/cardamomlaw8.CoverForms", spec := "coverForms", unfollowed := true, recurses := true, apart := false, narrowed := true }
def CoverFormsUptoSaid : Prop := coverFormsUptoRow.holds Try.pinned (OpenSpec.upto coverFormsSpec)

/-- 'cardamomlaw8.CoverBoxes', WHERE WHAT IT READS IS OF BULK AT MOST 1048576: true; the input reads as it did. -/
def coverBoxesUptoRow : OpenClaim := { program := "ytflpdekifkcfkab", sum := "1d0a638d59c2bdd85206d661271c0001d45963b85c0d5facbe82dfea5a87504d", func := "cardamom/cardamomlaw8.CoverBoxes", spec := "coverBoxes", unfollowed := true, recurses := true, apart := false, narrowed := true }
def CoverBoxesUptoSaid : Prop := coverBoxesUptoRow.holds Try.pinned (OpenSpec.upto coverBoxesSpec)

end Rows
end Go.Proofs.Ytflpdekifkcfkab
