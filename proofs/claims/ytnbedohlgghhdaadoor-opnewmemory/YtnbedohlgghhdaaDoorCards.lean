/-
  DERIVED. GIVEN WITH THE SEED: THE CARDS: each row of YtnbedohlgghhdaaDoorRows.lean that lists a variable, with what it lists TIED to the program's text (the seventh form; the later family's looks); each row that meets fmt, with fmt's text TOLD by the authors' own Lean function (tested against real Go, not proved from fmt's source: count such statements apart). THE CARD IS WHAT COUNTS. Prove the row's statement (the work); the ties are given (YtnbedohlgghhdaaDoorTie.lean); close each card by the builder's one call (the guide's Derived/Test/ToyasCard.lean, 'card_holds'). Laid BY PROGRAM, IN A SANDBOX (cutbox-door.mjs). By AI agents, Wed Nov 11 2026. No macro, syntax, notation, axiom, sorry.
-/
import Derived.Test.YtnbedohlgghhdaaDoorRows
import GoSem.ClaimSeven
namespace Go.Proofs.YtnbedohlgghhdaaDoor
namespace Rows

/-- THE TIED CARD OF 'redraftlaw04.OpNewMemory'. -/
def opNewMemoryCard : Claim7 := { stood := { row := opNewMemoryRow, standIns := [], harness := (true, "fb9df19b4382c83fec88f3d325db5559dde3aedcdea6d84e2cffffd06963930e"), looks := true }, kinds := [], alts := [], laidByText := true, laidKinds := [.data, .data, .data, .sentinel, .sentinel, .data], laidTests := true, laidLooks := .later }
def OpNewMemoryCardSaid : Prop := Claim7.holds Tryd.pinned (.plain (OpenSpec.ofChange opNewMemorySpec)) opNewMemoryCard

/-- THE SECOND FORM's CARD OF 'redraftlaw04.OpNewMemory'. -/
def opNewMemoryUptoCard : Claim7 := { stood := { row := opNewMemoryUptoRow, standIns := [], harness := (true, "fb9df19b4382c83fec88f3d325db5559dde3aedcdea6d84e2cffffd06963930e"), looks := true }, kinds := [], alts := [], laidByText := true, laidKinds := [.data, .data, .data, .sentinel, .sentinel, .data], laidTests := true, laidLooks := .later }
def OpNewMemoryUptoCardSaid : Prop := Claim7.holds Tryd.pinned (.plain (OpenSpec.upto opNewMemorySpec)) opNewMemoryUptoCard
end Rows
end Go.Proofs.YtnbedohlgghhdaaDoor
