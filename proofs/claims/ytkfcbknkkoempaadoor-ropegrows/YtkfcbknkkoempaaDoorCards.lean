/-
  DERIVED. GIVEN WITH THE SEED: THE CARDS: each row of YtkfcbknkkoempaaDoorRows.lean that lists a variable, with what it lists TIED to the program's text (the seventh form; the later family's looks); each row that meets fmt, with fmt's text TOLD by the authors' own Lean function (tested against real Go, not proved from fmt's source: count such statements apart). THE CARD IS WHAT COUNTS. Prove the row's statement (the work); the ties are given (YtkfcbknkkoempaaDoorTie.lean); close each card by the builder's one call (the guide's Derived/Test/ToyasCard.lean, 'card_holds'). Laid BY PROGRAM, IN A SANDBOX (cutbox-door.mjs). By AI agents, Wed Nov 11 2026. No macro, syntax, notation, axiom, sorry.
-/
import Derived.Test.YtkfcbknkkoempaaDoorRows
import GoSem.ClaimSeven
namespace Go.Proofs.YtkfcbknkkoempaaDoor
namespace Rows

/-- THE TIED CARD OF 'redraftlaw03.RopeGrows'. -/
def ropeGrowsCard : Claim7 := { stood := { row := ropeGrowsRow, standIns := [], harness := (true, "026fe4e47b202d5b7dedd397751038bb6bb7ece2eed9f1bd794f1329f970e375"), looks := false }, kinds := [], alts := [], laidByText := true, laidKinds := [.data], laidTests := true, laidLooks := .later }
def RopeGrowsCardSaid : Prop := Claim7.holds Tryd.pinned (.plain (OpenSpec.ofChange ropeGrowsSpec)) ropeGrowsCard

/-- THE SECOND FORM's CARD OF 'redraftlaw03.RopeGrows'. -/
def ropeGrowsUptoCard : Claim7 := { stood := { row := ropeGrowsUptoRow, standIns := [], harness := (true, "026fe4e47b202d5b7dedd397751038bb6bb7ece2eed9f1bd794f1329f970e375"), looks := false }, kinds := [], alts := [], laidByText := true, laidKinds := [.data], laidTests := true, laidLooks := .later }
def RopeGrowsUptoCardSaid : Prop := Claim7.holds Tryd.pinned (.plain (OpenSpec.upto ropeGrowsSpec)) ropeGrowsUptoCard
end Rows
end Go.Proofs.YtkfcbknkkoempaaDoor
