/-
  DERIVED. GIVEN WITH THE SEED: THE CARDS: each row of YtajnadcinegmjaaDoorRows.lean that lists a variable, with what it lists TIED to the program's text (the seventh form; the later family's looks); each row that meets fmt, with fmt's text TOLD by the authors' own Lean function (tested against real Go, not proved from fmt's source: count such statements apart). THE CARD IS WHAT COUNTS. Prove the row's statement (the work); the ties are given (YtajnadcinegmjaaDoorTie.lean); close each card by the builder's one call (the guide's Derived/Test/ToyasCard.lean, 'card_holds'). Laid BY PROGRAM, IN A SANDBOX (cutbox-door.mjs). By AI agents, Wed Nov 11 2026. No macro, syntax, notation, axiom, sorry.
-/
import Derived.Test.YtajnadcinegmjaaDoorRows
import GoSem.ClaimSeven
namespace Go.Proofs.YtajnadcinegmjaaDoor
namespace Rows

/-- THE TIED CARD OF 'redraftlaw04.OpEqualMeans'. -/
def opEqualMeansCard : Claim7 := { stood := { row := opEqualMeansRow, standIns := [], harness := (true, "1d2c7bca3914d4bc199644ac09a4ae328bed4dfffa254fe232bee59d4b5e4b2f"), looks := false }, kinds := [], alts := [], laidByText := true, laidKinds := [.data, .data, .data, .data], laidTests := true, laidLooks := .later }
def OpEqualMeansCardSaid : Prop := Claim7.holds Tryd.pinned (.plain (OpenSpec.ofChange opEqualMeansSpec)) opEqualMeansCard

/-- THE SECOND FORM's CARD OF 'redraftlaw04.OpEqualMeans'. -/
def opEqualMeansUptoCard : Claim7 := { stood := { row := opEqualMeansUptoRow, standIns := [], harness := (true, "1d2c7bca3914d4bc199644ac09a4ae328bed4dfffa254fe232bee59d4b5e4b2f"), looks := false }, kinds := [], alts := [], laidByText := true, laidKinds := [.data, .data, .data, .data], laidTests := true, laidLooks := .later }
def OpEqualMeansUptoCardSaid : Prop := Claim7.holds Tryd.pinned (.plain (OpenSpec.upto opEqualMeansSpec)) opEqualMeansUptoCard
end Rows
end Go.Proofs.YtajnadcinegmjaaDoor
