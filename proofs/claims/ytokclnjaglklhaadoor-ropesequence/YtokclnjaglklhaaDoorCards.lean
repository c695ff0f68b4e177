/-
  DERIVED. GIVEN WITH THE SEED: THE CARDS: each row of YtokclnjaglklhaaDoorRows.lean that lists a variable, with what it lists TIED to the program's text (the seventh form; the later family's looks); each row that meets fmt, with fmt's text TOLD by the authors' own Lean function (tested against real Go, not proved from fmt's source: count such statements apart). THE CARD IS WHAT COUNTS. Prove the row's statement (the work); the ties are given (YtokclnjaglklhaaDoorTie.lean); close each card by the builder's one call (the guide's Derived/Test/ToyasCard.lean, 'card_holds'). Laid BY PROGRAM, IN A SANDBOX (cutbox-door.mjs). By AI agents, Wed Nov 11 2026. No macro, syntax, notation, axiom, sorry.
-/
import Derived.Test.YtokclnjaglklhaaDoorRows
import GoSem.ClaimSeven
namespace Go.Proofs.YtokclnjaglklhaaDoor
namespace Rows

/-- THE TIED CARD OF 'redraftlaw03.RopeSequence'. -/
def ropeSequenceCard : Claim7 := { stood := { row := ropeSequenceRow, standIns := [], harness := (true, "cd70a2c31f68c63fe1dc1df584338c8f49065e7dd156e3dea792f9cd2c67f9be"), looks := false }, kinds := [], alts := [], laidByText := true, laidKinds := [.data], laidTests := true, laidLooks := .later }
def RopeSequenceCardSaid : Prop := Claim7.holds Tryd.pinned (.plain (OpenSpec.ofChange ropeSequenceSpec)) ropeSequenceCard

/-- THE SECOND FORM's CARD OF 'redraftlaw03.RopeSequence'. -/
def ropeSequenceUptoCard : Claim7 := { stood := { row := ropeSequenceUptoRow, standIns := [], harness := (true, "cd70a2c31f68c63fe1dc1df584338c8f49065e7dd156e3dea792f9cd2c67f9be"), looks := false }, kinds := [], alts := [], laidByText := true, laidKinds := [.data], laidTests := true, laidLooks := .later }
def RopeSequenceUptoCardSaid : Prop := Claim7.holds Tryd.pinned (.plain (OpenSpec.upto ropeSequenceSpec)) ropeSequenceUptoCard
end Rows
end Go.Proofs.YtokclnjaglklhaaDoor
