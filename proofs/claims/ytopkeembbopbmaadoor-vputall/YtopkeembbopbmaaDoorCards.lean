/-
  DERIVED. GIVEN WITH THE SEED: THE CARDS: each row of YtopkeembbopbmaaDoorRows.lean that lists a variable, with what it lists TIED to the program's text (the seventh form; the later family's looks); each row that meets fmt, with fmt's text TOLD by the authors' own Lean function (tested against real Go, not proved from fmt's source: count such statements apart). THE CARD IS WHAT COUNTS. Prove the row's statement (the work); the ties are given (YtopkeembbopbmaaDoorTie.lean); close each card by the builder's one call (the guide's Derived/Test/ToyasCard.lean, 'card_holds'). Laid BY PROGRAM, IN A SANDBOX (cutbox-door.mjs). By AI agents, Wed Nov 11 2026. No macro, syntax, notation, axiom, sorry.
-/
import Derived.Test.YtopkeembbopbmaaDoorRows
import GoSem.ClaimSeven
namespace Go.Proofs.YtopkeembbopbmaaDoor
namespace Rows

/-- THE TIED CARD OF 'cardamomlaw18.VputAll'. -/
def vputAllCard : Claim7 := { stood := { row := vputAllRow, standIns := [], harness := (true, "8a568155db6f1ebe44d6d3e96c30a3e4db6d64ef4cbcc9458a6a340824e76836"), looks := true }, kinds := [], alts := [], laidByText := true, laidKinds := [.handle, .sentinel, .sentinel], laidTests := true, laidLooks := .later }
def VputAllCardSaid : Prop := Claim7.holds Tryd.pinned (.plain (OpenSpec.ofChange vputAllSpec)) vputAllCard

/-- THE TIED CARD OF 'cardamomlaw18.VputBack'. -/
def vputBackCard : Claim7 := { stood := { row := vputBackRow, standIns := [], harness := (true, "8a568155db6f1ebe44d6d3e96c30a3e4db6d64ef4cbcc9458a6a340824e76836"), looks := true }, kinds := [], alts := [], laidByText := true, laidKinds := [.handle, .sentinel, .sentinel], laidTests := true, laidLooks := .later }
def VputBackCardSaid : Prop := Claim7.holds Tryd.pinned (.plain (OpenSpec.ofChange vputBackSpec)) vputBackCard

/-- THE TIED CARD OF 'cardamomlaw18.VputApart'. -/
def vputApartCard : Claim7 := { stood := { row := vputApartRow, standIns := [], harness := (true, "8a568155db6f1ebe44d6d3e96c30a3e4db6d64ef4cbcc9458a6a340824e76836"), looks := true }, kinds := [], alts := [], laidByText := true, laidKinds := [.handle, .sentinel, .sentinel], laidTests := true, laidLooks := .later }
def VputApartCardSaid : Prop := Claim7.holds Tryd.pinned (.plain (OpenSpec.ofChange vputApartSpec)) vputApartCard

/-- THE TIED CARD OF 'cardamomlaw18.VputForms'. -/
def vputFormsCard : Claim7 := { stood := { row := vputFormsRow, standIns := [], harness := (true, "8a568155db6f1ebe44d6d3e96c30a3e4db6d64ef4cbcc9458a6a340824e76836"), looks := true }, kinds := [], alts := [], laidByText := true, laidKinds := [.handle, .sentinel, .sentinel], laidTests := true, laidLooks := .later }
def VputFormsCardSaid : Prop := Claim7.holds Tryd.pinned (.plain (OpenSpec.ofChange vputFormsSpec)) vputFormsCard

/-- THE SECOND FORM's CARD OF 'cardamomlaw18.VputAll'. -/
def vputAllUptoCard : Claim7 := { stood := { row := vputAllUptoRow, standIns := [], harness := (true, "8a568155db6f1ebe44d6d3e96c30a3e4db6d64ef4cbcc9458a6a340824e76836"), looks := true }, kinds := [], alts := [], laidByText := true, laidKinds := [.handle, .sentinel, .sentinel], laidTests := true, laidLooks := .later }
def VputAllUptoCardSaid : Prop := Claim7.holds Tryd.pinned (.plain (OpenSpec.upto vputAllSpec)) vputAllUptoCard

/-- THE SECOND FORM's CARD OF 'cardamomlaw18.VputBack'. -/
def vputBackUptoCard : Claim7 := { stood := { row := vputBackUptoRow, standIns := [], harness := (true, "8a568155db6f1ebe44d6d3e96c30a3e4db6d64ef4cbcc9458a6a340824e76836"), looks := true }, kinds := [], alts := [], laidByText := true, laidKinds := [.handle, .sentinel, .sentinel], laidTests := true, laidLooks := .later }
def VputBackUptoCardSaid : Prop := Claim7.holds Tryd.pinned (.plain (OpenSpec.upto vputBackSpec)) vputBackUptoCard

/-- THE SECOND FORM's CARD OF 'cardamomlaw18.VputApart'. -/
def vputApartUptoCard : Claim7 := { stood := { row := vputApartUptoRow, standIns := [], harness := (true, "8a568155db6f1ebe44d6d3e96c30a3e4db6d64ef4cbcc9458a6a340824e76836"), looks := true }, kinds := [], alts := [], laidByText := true, laidKinds := [.handle, .sentinel, .sentinel], laidTests := true, laidLooks := .later }
def VputApartUptoCardSaid : Prop := Claim7.holds Tryd.pinned (.plain (OpenSpec.upto vputApartSpec)) vputApartUptoCard

/-- THE SECOND FORM's CARD OF 'cardamomlaw18.VputForms'. -/
def vputFormsUptoCard : Claim7 := { stood := { row := vputFormsUptoRow, standIns := [], harness := (true, "8a568155db6f1ebe44d6d3e96c30a3e4db6d64ef4cbcc9458a6a340824e76836"), looks := true }, kinds := [], alts := [], laidByText := true, laidKinds := [.handle, .sentinel, .sentinel], laidTests := true, laidLooks := .later }
def VputFormsUptoCardSaid : Prop := Claim7.holds Tryd.pinned (.plain (OpenSpec.upto vputFormsSpec)) vputFormsUptoCard
end Rows
end Go.Proofs.YtopkeembbopbmaaDoor
