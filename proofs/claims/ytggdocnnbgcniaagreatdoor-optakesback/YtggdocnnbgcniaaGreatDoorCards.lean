/-
  DERIVED. GIVEN WITH THE SEED: THE CARDS: each row of YtggdocnnbgcniaaGreatDoorRows.lean that lists a variable, with what it lists TIED to the program's text (the seventh form; the later family's looks); each row that meets fmt, with fmt's text TOLD by the authors' own Lean function (tested against real Go, not proved from fmt's source: count such statements apart). THE CARD IS WHAT COUNTS. Prove the row's statement (the work); the ties are given (YtggdocnnbgcniaaGreatDoorTie.lean); close each card by the builder's one call (the guide's Derived/Test/ToyasCard.lean, 'card_holds'). Laid BY PROGRAM, IN A SANDBOX (cutbox-door.mjs). By AI agents, Wed Nov 11 2026. No macro, syntax, notation, axiom, sorry.
-/
import Derived.Test.YtggdocnnbgcniaaGreatDoorRows
import GoSem.ClaimSeven
namespace Go.Proofs.YtggdocnnbgcniaaGreatDoor
namespace Rows

/-- THE TIED CARD OF 'redraftlaw04.OpTakesBack'. -/
def opTakesBackCard : Claim7 := { stood := { row := opTakesBackRow, standIns := [], harness := (true, "b84dd13db05c46a7a94a352069eb18b35433f25f1fec72a4c3b5afc11462d441"), looks := true }, kinds := [], alts := [], laidByText := true, laidKinds := [.data, .data, .data, .sentinel, .sentinel, .data], laidTests := true, laidLooks := .later }
def OpTakesBackCardSaid : Prop := Claim7.holds Tryz.pinned (.plain (OpenSpec.ofChange opTakesBackSpec)) opTakesBackCard

/-- THE SECOND FORM's CARD OF 'redraftlaw04.OpTakesBack'. -/
def opTakesBackUptoCard : Claim7 := { stood := { row := opTakesBackUptoRow, standIns := [], harness := (true, "b84dd13db05c46a7a94a352069eb18b35433f25f1fec72a4c3b5afc11462d441"), looks := true }, kinds := [], alts := [], laidByText := true, laidKinds := [.data, .data, .data, .sentinel, .sentinel, .data], laidTests := true, laidLooks := .later }
def OpTakesBackUptoCardSaid : Prop := Claim7.holds Tryz.pinned (.plain (OpenSpec.upto opTakesBackSpec)) opTakesBackUptoCard
end Rows
end Go.Proofs.YtggdocnnbgcniaaGreatDoor
