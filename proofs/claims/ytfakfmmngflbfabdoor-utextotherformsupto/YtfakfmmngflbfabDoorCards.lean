/-
  DERIVED. GIVEN WITH THE SEED: THE CARDS: each row of YtfakfmmngflbfabDoorRows.lean that lists a variable, with what it lists TIED to the program's text (the seventh form; the later family's looks); each row that meets fmt, with fmt's text TOLD by the authors' own Lean function (tested against real Go, not proved from fmt's source: count such statements apart). THE CARD IS WHAT COUNTS. Prove the row's statement (the work); the ties are given (YtfakfmmngflbfabDoorTie.lean); close each card by the builder's one call (the guide's Derived/Test/ToyasCard.lean, 'card_holds'). Laid BY PROGRAM, IN A SANDBOX (cutbox-door.mjs). By AI agents, Wed Nov 11 2026. No macro, syntax, notation, axiom, sorry.
-/
import Derived.Test.YtfakfmmngflbfabDoorRows
import GoSem.ClaimSeven
namespace Go.Proofs.YtfakfmmngflbfabDoor
namespace Rows

/-- THE TIED CARD OF 'redraftlaw01.UtextLinesBack'. -/
def utextLinesBackCard : Claim7 := { stood := { row := utextLinesBackRow, standIns := [], harness := (true, "952944bbcb0e765912ba4eeac4f657fd32d307b3b77e76bf10d1f5fb4c99ea2b"), looks := true }, kinds := [], alts := [], laidByText := true, laidKinds := [.data], laidTests := true, laidLooks := .later }
def UtextLinesBackCardSaid : Prop := Claim7.holds Tryd.pinned (.plain (OpenSpec.ofChange utextLinesBackSpec)) utextLinesBackCard

/-- THE TIED CARD OF 'redraftlaw01.UtextNames'. -/
def utextNamesCard : Claim7 := { stood := { row := utextNamesRow, standIns := [], harness := (true, "952944bbcb0e765912ba4eeac4f657fd32d307b3b77e76bf10d1f5fb4c99ea2b"), looks := true }, kinds := [], alts := [], laidByText := true, laidKinds := [.data, .data, .data, .data], laidTests := true, laidLooks := .later }
def UtextNamesCardSaid : Prop := Claim7.holds Tryd.pinned (.plain (OpenSpec.ofChange utextNamesSpec)) utextNamesCard

/-- THE TIED CARD OF 'redraftlaw01.UtextOtherForms'. -/
def utextOtherFormsCard : Claim7 := { stood := { row := utextOtherFormsRow, standIns := [], harness := (true, "952944bbcb0e765912ba4eeac4f657fd32d307b3b77e76bf10d1f5fb4c99ea2b"), looks := true }, kinds := [], alts := [], laidByText := true, laidKinds := [.data, .data, .data, .sentinel, .sentinel], laidTests := true, laidLooks := .later }
def UtextOtherFormsCardSaid : Prop := Claim7.holds Tryd.pinned (.plain (OpenSpec.ofChange utextOtherFormsSpec)) utextOtherFormsCard

/-- THE TIED CARD OF 'redraftlaw01.UtextOneForm'. -/
def utextOneFormCard : Claim7 := { stood := { row := utextOneFormRow, standIns := [], harness := (true, "952944bbcb0e765912ba4eeac4f657fd32d307b3b77e76bf10d1f5fb4c99ea2b"), looks := true }, kinds := [], alts := [], laidByText := true, laidKinds := [.data, .data, .data, .sentinel, .sentinel, .data], laidTests := true, laidLooks := .later }
def UtextOneFormCardSaid : Prop := Claim7.holds Tryd.pinned (.plain (OpenSpec.ofChange utextOneFormSpec)) utextOneFormCard

/-- THE TIED CARD OF 'redraftlaw01.UtextGivesBack'. -/
def utextGivesBackCard : Claim7 := { stood := { row := utextGivesBackRow, standIns := [], harness := (true, "952944bbcb0e765912ba4eeac4f657fd32d307b3b77e76bf10d1f5fb4c99ea2b"), looks := true }, kinds := [], alts := [], laidByText := true, laidKinds := [.data, .data, .data, .sentinel, .sentinel, .data], laidTests := true, laidLooks := .later }
def UtextGivesBackCardSaid : Prop := Claim7.holds Tryd.pinned (.plain (OpenSpec.ofChange utextGivesBackSpec)) utextGivesBackCard

/-- THE SECOND FORM's CARD OF 'redraftlaw01.UtextLinesBack'. -/
def utextLinesBackUptoCard : Claim7 := { stood := { row := utextLinesBackUptoRow, standIns := [], harness := (true, "952944bbcb0e765912ba4eeac4f657fd32d307b3b77e76bf10d1f5fb4c99ea2b"), looks := true }, kinds := [], alts := [], laidByText := true, laidKinds := [.data], laidTests := true, laidLooks := .later }
def UtextLinesBackUptoCardSaid : Prop := Claim7.holds Tryd.pinned (.plain (OpenSpec.upto utextLinesBackSpec)) utextLinesBackUptoCard

/-- THE SECOND FORM's CARD OF 'redraftlaw01.UtextNames'. -/
def utextNamesUptoCard : Claim7 := { stood := { row := utextNamesUptoRow, standIns := [], harness := (true, "952944bbcb0e765912ba4eeac4f657fd32d307b3b77e76bf10d1f5fb4c99ea2b"), looks := true }, kinds := [], alts := [], laidByText := true, laidKinds := [.data, .data, .data, .data], laidTests := true, laidLooks := .later }
def UtextNamesUptoCardSaid : Prop := Claim7.holds Tryd.pinned (.plain (OpenSpec.upto utextNamesSpec)) utextNamesUptoCard

/-- THE SECOND FORM's CARD OF 'redraftlaw01.UtextOtherForms'. -/
def utextOtherFormsUptoCard : Claim7 := { stood := { row := utextOtherFormsUptoRow, standIns := [], harness := (true, "952944bbcb0e765912ba4eeac4f657fd32d307b3b77e76bf10d1f5fb4c99ea2b"), looks := true }, kinds := [], alts := [], laidByText := true, laidKinds := [.data, .data, .data, .sentinel, .sentinel], laidTests := true, laidLooks := .later }
def UtextOtherFormsUptoCardSaid : Prop := Claim7.holds Tryd.pinned (.plain (OpenSpec.upto utextOtherFormsSpec)) utextOtherFormsUptoCard

/-- THE SECOND FORM's CARD OF 'redraftlaw01.UtextOneForm'. -/
def utextOneFormUptoCard : Claim7 := { stood := { row := utextOneFormUptoRow, standIns := [], harness := (true, "952944bbcb0e765912ba4eeac4f657fd32d307b3b77e76bf10d1f5fb4c99ea2b"), looks := true }, kinds := [], alts := [], laidByText := true, laidKinds := [.data, .data, .data, .sentinel, .sentinel, .data], laidTests := true, laidLooks := .later }
def UtextOneFormUptoCardSaid : Prop := Claim7.holds Tryd.pinned (.plain (OpenSpec.upto utextOneFormSpec)) utextOneFormUptoCard

/-- THE SECOND FORM's CARD OF 'redraftlaw01.UtextGivesBack'. -/
def utextGivesBackUptoCard : Claim7 := { stood := { row := utextGivesBackUptoRow, standIns := [], harness := (true, "952944bbcb0e765912ba4eeac4f657fd32d307b3b77e76bf10d1f5fb4c99ea2b"), looks := true }, kinds := [], alts := [], laidByText := true, laidKinds := [.data, .data, .data, .sentinel, .sentinel, .data], laidTests := true, laidLooks := .later }
def UtextGivesBackUptoCardSaid : Prop := Claim7.holds Tryd.pinned (.plain (OpenSpec.upto utextGivesBackSpec)) utextGivesBackUptoCard
end Rows
end Go.Proofs.YtfakfmmngflbfabDoor
