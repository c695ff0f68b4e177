/-
  DERIVED. GIVEN WITH THE SEED: THE CARDS: each row of YtkjejgoefnedpaaGreatDoorRows.lean that lists a variable, with what it lists TIED to the program's text (the seventh form; the later family's looks); each row that meets fmt, with fmt's text TOLD by the authors' own Lean function (tested against real Go, not proved from fmt's source: count such statements apart). THE CARD IS WHAT COUNTS. Prove the row's statement (the work); the ties are given (YtkjejgoefnedpaaGreatDoorTie.lean); close each card by the builder's one call (the guide's Derived/Test/ToyasCard.lean, 'card_holds'). Laid BY PROGRAM, IN A SANDBOX (cutbox-door.mjs). By AI agents, Wed Nov 11 2026. No macro, syntax, notation, axiom, sorry.
-/
import Derived.Test.YtkjejgoefnedpaaGreatDoorRows
import GoSem.ClaimSeven
namespace Go.Proofs.YtkjejgoefnedpaaGreatDoor
namespace Rows

/-- THE TIED CARD OF 'redraftlaw04.OpShapes'. -/
def opShapesCard : Claim7 := { stood := { row := opShapesRow, standIns := [], harness := (true, "76db3d956eccb3f758342e9d3e93de5551637632e2b8bd1e6661b7d601bfca7d"), looks := true }, kinds := [], alts := [], laidByText := true, laidKinds := [.data, .data, .data, .sentinel, .sentinel, .data], laidTests := true, laidLooks := .later }
def OpShapesCardSaid : Prop := Claim7.holds Tryz.pinned (.plain (OpenSpec.ofChange opShapesSpec)) opShapesCard

/-- THE SECOND FORM's CARD OF 'redraftlaw04.OpShapes'. -/
def opShapesUptoCard : Claim7 := { stood := { row := opShapesUptoRow, standIns := [], harness := (true, "76db3d956eccb3f758342e9d3e93de5551637632e2b8bd1e6661b7d601bfca7d"), looks := true }, kinds := [], alts := [], laidByText := true, laidKinds := [.data, .data, .data, .sentinel, .sentinel, .data], laidTests := true, laidLooks := .later }
def OpShapesUptoCardSaid : Prop := Claim7.holds Tryz.pinned (.plain (OpenSpec.upto opShapesSpec)) opShapesUptoCard
end Rows
end Go.Proofs.YtkjejgoefnedpaaGreatDoor
