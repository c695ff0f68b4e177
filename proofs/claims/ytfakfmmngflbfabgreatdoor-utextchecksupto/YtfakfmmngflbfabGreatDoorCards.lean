/-
  DERIVED. GIVEN WITH THE SEED: THE CARDS: each row of YtfakfmmngflbfabGreatDoorRows.lean that lists a variable, with what it lists TIED to the program's text (the seventh form; the later family's looks); each row that meets fmt, with fmt's text TOLD by the authors' own Lean function (tested against real Go, not proved from fmt's source: count such statements apart). THE CARD IS WHAT COUNTS. Prove the row's statement (the work); the ties are given (YtfakfmmngflbfabGreatDoorTie.lean); close each card by the builder's one call (the guide's Derived/Test/ToyasCard.lean, 'card_holds'). Laid BY PROGRAM, IN A SANDBOX (cutbox-door.mjs). By AI agents, Wed Nov 11 2026. No macro, syntax, notation, axiom, sorry.
-/
import Derived.Test.YtfakfmmngflbfabGreatDoorRows
import GoSem.ClaimSeven
namespace Go.Proofs.YtfakfmmngflbfabGreatDoor
namespace Rows

/-- THE TIED CARD OF 'redraftlaw01.UtextChecks'. -/
def utextChecksCard : Claim7 := { stood := { row := utextChecksRow, standIns := [], harness := (true, "5a49241d16f869fbe200715f4f18920f33e203e439f6bc26f794424c8026595c"), looks := true }, kinds := [], alts := [], laidByText := true, laidKinds := [.data, .data, .data, .sentinel, .sentinel, .data, .data], laidTests := true, laidLooks := .later }
def UtextChecksCardSaid : Prop := Claim7.holds Tryz.pinned (.plain (OpenSpec.ofChange utextChecksSpec)) utextChecksCard

/-- THE SECOND FORM's CARD OF 'redraftlaw01.UtextChecks'. -/
def utextChecksUptoCard : Claim7 := { stood := { row := utextChecksUptoRow, standIns := [], harness := (true, "5a49241d16f869fbe200715f4f18920f33e203e439f6bc26f794424c8026595c"), looks := true }, kinds := [], alts := [], laidByText := true, laidKinds := [.data, .data, .data, .sentinel, .sentinel, .data, .data], laidTests := true, laidLooks := .later }
def UtextChecksUptoCardSaid : Prop := Claim7.holds Tryz.pinned (.plain (OpenSpec.upto utextChecksSpec)) utextChecksUptoCard
end Rows
end Go.Proofs.YtfakfmmngflbfabGreatDoor
