/-
  DERIVED. GIVEN WITH THE SEED: THE CARDS: each row of YtijpfbcippijoaaGreatDoorRows.lean that lists a variable, with what it lists TIED to the program's text (the seventh form; the later family's looks); each row that meets fmt, with fmt's text TOLD by the authors' own Lean function (tested against real Go, not proved from fmt's source: count such statements apart). THE CARD IS WHAT COUNTS. Prove the row's statement (the work); the ties are given (YtijpfbcippijoaaGreatDoorTie.lean); close each card by the builder's one call (the guide's Derived/Test/ToyasCard.lean, 'card_holds'). Laid BY PROGRAM, IN A SANDBOX (cutbox-door.mjs). By AI agents, Wed Nov 11 2026. No macro, syntax, notation, axiom, sorry.
-/
import Derived.Test.YtijpfbcippijoaaGreatDoorRows
import GoSem.ClaimSeven
namespace Go.Proofs.YtijpfbcippijoaaGreatDoor
namespace Rows

/-- THE TIED CARD OF 'redraftlaw04.OpLines'. -/
def opLinesCard : Claim7 := { stood := { row := opLinesRow, standIns := [], harness := (true, "2aa1e8cc95ee02f3e840cc7b2d3ccfed1b1c05838b0b874648c192c6bf22104d"), looks := true }, kinds := [], alts := [], laidByText := true, laidKinds := [.data, .data, .data, .sentinel, .sentinel, .data], laidTests := true, laidLooks := .later }
def OpLinesCardSaid : Prop := Claim7.holds Tryz.pinned (.plain (OpenSpec.ofChange opLinesSpec)) opLinesCard

/-- THE TIED CARD OF 'redraftlaw04.OpAll'. -/
def opAllCard : Claim7 := { stood := { row := opAllRow, standIns := [], harness := (true, "2aa1e8cc95ee02f3e840cc7b2d3ccfed1b1c05838b0b874648c192c6bf22104d"), looks := true }, kinds := [], alts := [], laidByText := true, laidKinds := [.data, .data, .data, .sentinel, .sentinel, .data], laidTests := true, laidLooks := .later }
def OpAllCardSaid : Prop := Claim7.holds Tryz.pinned (.plain (OpenSpec.ofChange opAllSpec)) opAllCard

/-- THE SECOND FORM's CARD OF 'redraftlaw04.OpLines'. -/
def opLinesUptoCard : Claim7 := { stood := { row := opLinesUptoRow, standIns := [], harness := (true, "2aa1e8cc95ee02f3e840cc7b2d3ccfed1b1c05838b0b874648c192c6bf22104d"), looks := true }, kinds := [], alts := [], laidByText := true, laidKinds := [.data, .data, .data, .sentinel, .sentinel, .data], laidTests := true, laidLooks := .later }
def OpLinesUptoCardSaid : Prop := Claim7.holds Tryz.pinned (.plain (OpenSpec.upto opLinesSpec)) opLinesUptoCard

/-- THE SECOND FORM's CARD OF 'redraftlaw04.OpAll'. -/
def opAllUptoCard : Claim7 := { stood := { row := opAllUptoRow, standIns := [], harness := (true, "2aa1e8cc95ee02f3e840cc7b2d3ccfed1b1c05838b0b874648c192c6bf22104d"), looks := true }, kinds := [], alts := [], laidByText := true, laidKinds := [.data, .data, .data, .sentinel, .sentinel, .data], laidTests := true, laidLooks := .later }
def OpAllUptoCardSaid : Prop := Claim7.holds Tryz.pinned (.plain (OpenSpec.upto opAllSpec)) opAllUptoCard
end Rows
end Go.Proofs.YtijpfbcippijoaaGreatDoor
