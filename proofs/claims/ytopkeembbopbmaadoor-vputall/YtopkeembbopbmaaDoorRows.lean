/-
  NARROWER THAN 'FOR EVERY INPUT', by the rows' own cells (each row's printed sentence says how): VputAll: laid · VputBack: laid · VputApart: laid · VputForms: laid.
  DERIVED. THE GIVEN ROWS OF THIS SEAT. 4 by the template 'for every input the law returns true; each argument reads behind the call as it read before'; 0 by the template 'total and deterministic' (their statements: YtopkeembbopbmaaDoorTotals.lean).
  GIVEN WITH THE SEED: the statements are not yours to turn. If you find one false, say at which input.
  Laid BY PROGRAM, IN A SANDBOX (cutbox-rows.mjs): the forced cells as the released guide's own fill.sh prints them over the translation 5ec36f6b772134f2… (all of the seat's roots in one cut). By AI agents, Wed Nov 11 2026. No macro, syntax, notation, axiom, sorry.
-/
import Derived.Test.YtopkeembbopbmaaDoorChecked
import GoSem.Claim
import GoSem.ClaimJoined
import GoSem.ClaimMapViews
import Derived.JoinedTies
import Derived.KernelRfl
namespace Go.Proofs.YtopkeembbopbmaaDoor
/- THE CELL 'sum', in the pinned program and in every row, IS THE sha256 OF THE DUMP (.gsa) THAT YtopkeembbopbmaaDoorProg.lean LOADS. Nothing in Lean hashes anything: it is a label: what it is worth is what the hold of that sum in a sandbox is worth. -/
noncomputable def Tryd.pinned : Pinned := { name := "ytopkeembbopbmaadoor", sum := "5ec36f6b772134f245006738b396c4ca61a1fa67a32152f1954a4b86ed97edbd", checked := Tryd.checked }
namespace Rows
def none {H : Type} : Left H := { results := [], args := [] }

/- WHAT THE LISTED PACKAGE-LEVEL VARIABLES READ AS WHEN THE CALL BEGINS. Each datum BY PROGRAM (the guide's laid-datum.mjs) off the statement by which the dump's own 'gosem.cut.vars' lays the variable. In a bare row this is a premise. The card (YtopkeembbopbmaaDoorCards.lean) ties it to the program's text. -/
def laid_errors_errorType {H : Type} : DataW H := .iface "internal/reflectlite.rtype" (.agg [.ptr (.lit (.string [101, 114, 114, 111, 114]))])
def laid_cardamom_bits_errNone {H : Type} : DataW H := .iface "*errors.errorString" (.ptr (.agg [.lit (.string [98, 105, 116, 115, 58, 32, 116, 104, 101, 114, 101, 32, 105, 115, 32, 110, 111, 110, 101])]))
def laid_cardamom_stamp_errMayNot {H : Type} : DataW H := .iface "*errors.errorString" (.ptr (.agg [.lit (.string [115, 116, 97, 109, 112, 58, 32, 105, 116, 32, 109, 97, 121, 32, 110, 111, 116, 32, 98, 101])]))

/-- 'cardamomlaw18.VputAll': WHATEVER THE INPUT: true; the input reads as it did. -/
def vputAllSpec : ChangeSpec := { name := "vputAll", fn := fun _ => fun
  | [d1, d2, d3] => { results := [.lit (.bool true)], args := [d1, d2, d3] }
  | _ => none }
def vputAllRow : OpenClaim := { program := "ytopkeembbopbmaadoor", sum := "5ec36f6b772134f245006738b396c4ca61a1fa67a32152f1954a4b86ed97edbd", func := "cardamom/cardamomlaw18.VputAll", spec := "vputAll", inPlace := ["internal/reflectlite.TypeOf", "internal/reflectlite.ValueOf", "(internal/reflectlite.Value).Type", "(internal/reflectlite.Value).IsNil", "(internal/reflectlite.Value).Elem", "(internal/reflectlite.Value).Set"], unfollowed := true, recurses := true, named := ["cardamom/stamp.errMayNot", "errors.errorType", "cardamom/bits.errNone"], apart := false, laid := [("errors.errorType", laid_errors_errorType), ("cardamom/bits.errNone", laid_cardamom_bits_errNone), ("cardamom/stamp.errMayNot", laid_cardamom_stamp_errMayNot)] }
def VputAllSaid : Prop := vputAllRow.holds Tryd.pinned (OpenSpec.ofChange vputAllSpec)

/-- ITS FALSE NEIGHBOUR: 'it returns false'. Refute it at one input. -/
def vputAllWrong : ChangeSpec := { name := "vputAll", fn := fun _ => fun
  | [d1, d2, d3] => { results := [.lit (.bool false)], args := [d1, d2, d3] }
  | _ => none }
def VputAllWrongFalsely : Prop := vputAllRow.holds Tryd.pinned (OpenSpec.ofChange vputAllWrong)

/-- 'cardamomlaw18.VputBack': WHATEVER THE INPUT: true; the input reads as it did. -/
def vputBackSpec : ChangeSpec := { name := "vputBack", fn := fun _ => fun
  | [d1, d2, d3] => { results := [.lit (.bool true)], args := [d1, d2, d3] }
  | _ => none }
def vputBackRow : OpenClaim := { program := "ytopkeembbopbmaadoor", sum := "5ec36f6b772134f245006738b396c4ca61a1fa67a32152f1954a4b86ed97edbd", func := "cardamom/cardamomlaw18.VputBack", spec := "vputBack", inPlace := ["internal/reflectlite.TypeOf", "internal/reflectlite.ValueOf", "(internal/reflectlite.Value).Type", "(internal/reflectlite.Value).IsNil", "(internal/reflectlite.Value).Elem", "(internal/reflectlite.Value).Set"], unfollowed := true, recurses := true, named := ["cardamom/stamp.errMayNot", "errors.errorType", "cardamom/bits.errNone"], apart := false, laid := [("errors.errorType", laid_errors_errorType), ("cardamom/bits.errNone", laid_cardamom_bits_errNone), ("cardamom/stamp.errMayNot", laid_cardamom_stamp_errMayNot)] }
def VputBackSaid : Prop := vputBackRow.holds Tryd.pinned (OpenSpec.ofChange vputBackSpec)

/-- ITS FALSE NEIGHBOUR: 'it returns false'. Refute it at one input. -/
def vputBackWrong : ChangeSpec := { name := "vputBack", fn := fun _ => fun
  | [d1, d2, d3] => { results := [.lit (.bool false)], args := [d1, d2, d3] }
  | _ => none }
def VputBackWrongFalsely : Prop := vputBackRow.holds Tryd.pinned (OpenSpec.ofChange vputBackWrong)

/-- 'cardamomlaw18.VputApart': WHATEVER THE INPUT: true; the input reads as it did. -/
def vputApartSpec : ChangeSpec := { name := "vputApart", fn := fun _ => fun
  | [d1, d2] => { results := [.lit (.bool true)], args := [d1, d2] }
  | _ => none }
def vputApartRow : OpenClaim := { program := "ytopkeembbopbmaadoor", sum := "5ec36f6b772134f245006738b396c4ca61a1fa67a32152f1954a4b86ed97edbd", func := "cardamom/cardamomlaw18.VputApart", spec := "vputApart", inPlace := ["internal/reflectlite.TypeOf", "internal/reflectlite.ValueOf", "(internal/reflectlite.Value).Type", "(internal/reflectlite.Value).IsNil", "(internal/reflectlite.Value).Elem", "(internal/reflectlite.Value).Set"], unfollowed := true, recurses := true, named := ["cardamom/stamp.errMayNot", "errors.errorType", "cardamom/bits.errNone"], apart := false, laid := [("errors.errorType", laid_errors_errorType), ("cardamom/bits.errNone", laid_cardamom_bits_errNone), ("cardamom/stamp.errMayNot", laid_cardamom_stamp_errMayNot)] }
def VputApartSaid : Prop := vputApartRow.holds Tryd.pinned (OpenSpec.ofChange vputApartSpec)

/-- ITS FALSE NEIGHBOUR: 'it returns false'. Refute it at one input. -/
def vputApartWrong : ChangeSpec := { name := "vputApart", fn := fun _ => fun
  | [d1, d2] => { results := [.lit (.bool false)], args := [d1, d2] }
  | _ => none }
def VputApartWrongFalsely : Prop := vputApartRow.holds Tryd.pinned (OpenSpec.ofChange vputApartWrong)

/-- 'cardamomlaw18.VputForms': WHATEVER THE INPUT: true; the input reads as it did. -/
def vputFormsSpec : ChangeSpec := { name := "vputForms", fn := fun _ => fun
  | [] => { results := [.lit (.bool true)], args := [] }
  | _ => none }
def vputFormsRow : OpenClaim := { program := "ytopkeembbopbmaadoor", sum := "5ec36f6b772134f245006738b396c4ca61a1fa67a32152f1954a4b86ed97edbd", func := "cardamom/cardamomlaw18.VputForms", spec := "vputForms", inPlace := ["internal/reflectlite.TypeOf", "internal/reflectlite.ValueOf", "(internal/reflectlite.Value).Type", "(internal/reflectlite.Value).IsNil", "(internal/reflectlite.Value).Elem", "(internal/reflectlite.Value).Set"], unfollowed := true, recurses := true, named := ["cardamom/stamp.errMayNot", "errors.errorType", "cardamom/bits.errNone"], apart := false, laid := [("errors.errorType", laid_errors_errorType), ("cardamom/bits.errNone", laid_cardamom_bits_errNone), ("cardamom/stamp.errMayNot", laid_cardamom_stamp_errMayNot)] }
def VputFormsSaid : Prop := vputFormsRow.holds Tryd.pinned (OpenSpec.ofChange vputFormsSpec)

/-- ITS FALSE NEIGHBOUR: 'it returns false'. Refute it at one input. -/
def vputFormsWrong : ChangeSpec := { name := "vputForms", fn := fun _ => fun
  | [] => { results := [.lit (.bool false)], args := [] }
  | _ => none }
def VputFormsWrongFalsely : Prop := vputFormsRow.holds Tryd.pinned (OpenSpec.ofChange vputFormsWrong)

/- THE SECOND FORM. 'bulk': how many values and letters a reading holds, each counted each time it is reached (what is shared counts as often as it is met; a slice's spare places count too). A statement '..UptoSaid' is the law's where the arguments, and the package variables that the reading takes, are together of bulk at most 1048576: NARROWER than '..Said'. Prove '..Said' where nothing that the law and all that it calls make is longer than what came in: it says more and counts as full. Else prove '..UptoSaid'. A law counts once. -/
mutual
def uptoBulk {H : Type} : DataW H → Nat
  | .lit (.string bytes) => bytes.length + 1
  | .lit _ => 1
  | .nil => 1
  | .ptr d => uptoBulk d + 1
  | .slice elems spare => uptoBulkAll elems + uptoBulkAll spare + 1
  | .agg parts => uptoBulkAll parts + 1
  | .iface _ d => uptoBulk d + 1
  | .map entries => uptoBulkEntries entries + 1
  | .held _ => 1
def uptoBulkAll {H : Type} : List (DataW H) → Nat
  | [] => 0
  | d :: r => uptoBulk d + uptoBulkAll r
def uptoBulkEntries {H : Type} : List (Lit × DataW H) → Nat
  | [] => 0
  | x :: r => uptoBulkEntry x + uptoBulkEntries r
def uptoBulkEntry {H : Type} : Lit × DataW H → Nat
  | (.string bytes, d) => bytes.length + uptoBulk d + 1
  | (_, d) => uptoBulk d + 1
 end
def uptoSmall : (H : Type) → List (DataW H) → Bool := fun _ ds => decide (uptoBulkAll ds ≤ 1048576)
def OpenSpec.upto (s : _root_.Go.ChangeSpec) : _root_.Go.OpenSpec := { _root_.Go.OpenSpec.ofChange s with cond := some uptoSmall }

/-- 'cardamomlaw18.VputAll', WHERE WHAT IT READS IS OF BULK AT MOST 1048576: true; the input reads as it did. -/
def vputAllUptoRow : OpenClaim := { program := "ytopkeembbopbmaadoor", sum := "5ec36f6b772134f245006738b396c4ca61a1fa67a32152f1954a4b86ed97edbd", func := "cardamom/cardamomlaw18.VputAll", spec := "vputAll", inPlace := ["internal/reflectlite.TypeOf", "internal/reflectlite.ValueOf", "(internal/reflectlite.Value).Type", "(internal/reflectlite.Value).IsNil", "(internal/reflectlite.Value).Elem", "(internal/reflectlite.Value).Set"], unfollowed := true, recurses := true, named := ["cardamom/stamp.errMayNot", "errors.errorType", "cardamom/bits.errNone"], apart := false, laid := [("errors.errorType", laid_errors_errorType), ("cardamom/bits.errNone", laid_cardamom_bits_errNone), ("cardamom/stamp.errMayNot", laid_cardamom_stamp_errMayNot)], narrowed := true }
def VputAllUptoSaid : Prop := vputAllUptoRow.holds Tryd.pinned (OpenSpec.upto vputAllSpec)

/-- 'cardamomlaw18.VputBack', WHERE WHAT IT READS IS OF BULK AT MOST 1048576: true; the input reads as it did. -/
def vputBackUptoRow : OpenClaim := { program := "ytopkeembbopbmaadoor", sum := "5ec36f6b772134f245006738b396c4ca61a1fa67a32152f1954a4b86ed97edbd", func := "cardamom/cardamomlaw18.VputBack", spec := "vputBack", inPlace := ["internal/reflectlite.TypeOf", "internal/reflectlite.ValueOf", "(internal/reflectlite.Value).Type", "(internal/reflectlite.Value).IsNil", "(internal/reflectlite.Value).Elem", "(internal/reflectlite.Value).Set"], unfollowed := true, recurses := true, named := ["cardamom/stamp.errMayNot", "errors.errorType", "cardamom/bits.errNone"], apart := false, laid := [("errors.errorType", laid_errors_errorType), ("cardamom/bits.errNone", laid_cardamom_bits_errNone), ("cardamom/stamp.errMayNot", laid_cardamom_stamp_errMayNot)], narrowed := true }
def VputBackUptoSaid : Prop := vputBackUptoRow.holds Tryd.pinned (OpenSpec.upto vputBackSpec)

/-- 'cardamomlaw18.VputApart', WHERE WHAT IT READS IS OF BULK AT MOST 1048576: true; the input reads as it did. -/
def vputApartUptoRow : OpenClaim := { program := "ytopkeembbopbmaadoor", sum := "5ec36f6b772134f245006738b396c4ca61a1fa67a32152f1954a4b86ed97edbd", func := "cardamom/cardamomlaw18.VputApart", spec := "vputApart", inPlace := ["internal/reflectlite.TypeOf", "internal/reflectlite.ValueOf", "(internal/reflectlite.Value).Type", "(internal/reflectlite.Value).IsNil", "(internal/reflectlite.Value).Elem", "(internal/reflectlite.Value).Set"], unfollowed := true, recurses := true, named := ["cardamom/stamp.errMayNot", "errors.errorType", "cardamom/bits.errNone"], apart := false, laid := [("errors.errorType", laid_errors_errorType), ("cardamom/bits.errNone", laid_cardamom_bits_errNone), ("cardamom/stamp.errMayNot", laid_cardamom_stamp_errMayNot)], narrowed := true }
def VputApartUptoSaid : Prop := vputApartUptoRow.holds Tryd.pinned (OpenSpec.upto vputApartSpec)

/-- 'cardamomlaw18.VputForms', WHERE WHAT IT READS IS OF BULK AT MOST 1048576: true; the input reads as it did. -/
def vputFormsUptoRow : OpenClaim := { program := "ytopkeembbopbmaadoor", sum := "5ec36f6b772134f245006738b396c4ca61a1fa67a32152f1954a4b86ed97edbd", func := "cardamom/cardamomlaw18.VputForms", spec := "vputForms", inPlace := ["internal/reflectlite.TypeOf", "internal/reflectlite.ValueOf", "(internal/reflectlite.Value).Type", "(internal/reflectlite.Value).IsNil", "(internal/reflectlite.Value).Elem", "(internal/reflectlite.Value).Set"], unfollowed := true, recurses := true, named := ["cardamom/stamp.errMayNot", "errors.errorType", "cardamom/bits.errNone"], apart := false, laid := [("errors.errorType", laid_errors_errorType), ("cardamom/bits.errNone", laid_cardamom_bits_errNone), ("cardamom/stamp.errMayNot", laid_cardamom_stamp_errMayNot)], narrowed := true }
def VputFormsUptoSaid : Prop := vputFormsUptoRow.holds Tryd.pinned (OpenSpec.upto vputFormsSpec)

end Rows
end Go.Proofs.YtopkeembbopbmaaDoor
