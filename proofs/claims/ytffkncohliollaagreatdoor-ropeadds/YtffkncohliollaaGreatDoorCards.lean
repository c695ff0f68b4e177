/-
  DERIVED. GIVEN WITH THE SEED: THE CARDS: each row of YtffkncohliollaaGreatDoorRows.lean that lists a variable, with what it lists TIED to the program's text (the seventh form; the later family's looks); each row that meets fmt, with fmt's text TOLD by the authors' own Lean function (tested against real Go, not proved from fmt's source: count such statements apart). THE CARD IS WHAT COUNTS. Prove the row's statement (the work); the ties are given (YtffkncohliollaaGreatDoorTie.lean); close each card by the builder's one call (the guide's Derived/Test/ToyasCard.lean, 'card_holds'). Laid BY PROGRAM, IN A SANDBOX (cutbox-door.mjs). By AI agents, Wed Nov 11 2026. No macro, syntax, notation, axiom, sorry.
-/
import Derived.Test.YtffkncohliollaaGreatDoorRows
import GoSem.ClaimSeven
namespace Go.Proofs.YtffkncohliollaaGreatDoor
namespace Rows

/-- THE TIED CARD OF 'redraftlaw03.RopeAdds'. -/
def ropeAddsCard : Claim7 := { stood := { row := ropeAddsRow, standIns := [], harness := (true, "8c3c7143d8808b82383c2b05b1b315b5f70a772f8a0148848ba81905f5307072"), looks := false }, kinds := [], alts := [], laidByText := true, laidKinds := [.data], laidTests := true, laidLooks := .later }
def RopeAddsCardSaid : Prop := Claim7.holds Tryz.pinned (.plain (OpenSpec.ofChange ropeAddsSpec)) ropeAddsCard

/-- THE TIED CARD OF 'redraftlaw03.RopeThrough'. -/
def ropeThroughCard : Claim7 := { stood := { row := ropeThroughRow, standIns := [], harness := (true, "8c3c7143d8808b82383c2b05b1b315b5f70a772f8a0148848ba81905f5307072"), looks := false }, kinds := [], alts := [], laidByText := true, laidKinds := [.data], laidTests := true, laidLooks := .later }
def RopeThroughCardSaid : Prop := Claim7.holds Tryz.pinned (.plain (OpenSpec.ofChange ropeThroughSpec)) ropeThroughCard

/-- THE SECOND FORM's CARD OF 'redraftlaw03.RopeAdds'. -/
def ropeAddsUptoCard : Claim7 := { stood := { row := ropeAddsUptoRow, standIns := [], harness := (true, "8c3c7143d8808b82383c2b05b1b315b5f70a772f8a0148848ba81905f5307072"), looks := false }, kinds := [], alts := [], laidByText := true, laidKinds := [.data], laidTests := true, laidLooks := .later }
def RopeAddsUptoCardSaid : Prop := Claim7.holds Tryz.pinned (.plain (OpenSpec.upto ropeAddsSpec)) ropeAddsUptoCard

/-- THE SECOND FORM's CARD OF 'redraftlaw03.RopeThrough'. -/
def ropeThroughUptoCard : Claim7 := { stood := { row := ropeThroughUptoRow, standIns := [], harness := (true, "8c3c7143d8808b82383c2b05b1b315b5f70a772f8a0148848ba81905f5307072"), looks := false }, kinds := [], alts := [], laidByText := true, laidKinds := [.data], laidTests := true, laidLooks := .later }
def RopeThroughUptoCardSaid : Prop := Claim7.holds Tryz.pinned (.plain (OpenSpec.upto ropeThroughSpec)) ropeThroughUptoCard
end Rows
end Go.Proofs.YtffkncohliollaaGreatDoor
