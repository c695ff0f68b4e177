/-
  DERIVED. GIVEN WITH THE SEED: THE CARDS: each row of YtfnpmncmceocdaaDoorRows.lean that lists a variable, with what it lists TIED to the program's text (the seventh form; the later family's looks); each row that meets fmt, with fmt's text TOLD by the authors' own Lean function (tested against real Go, not proved from fmt's source: count such statements apart). THE CARD IS WHAT COUNTS. Prove the row's statement (the work); the ties are given (YtfnpmncmceocdaaDoorTie.lean); close each card by the builder's one call (the guide's Derived/Test/ToyasCard.lean, 'card_holds'). Laid BY PROGRAM, IN A SANDBOX (cutbox-door.mjs). By AI agents, Wed Nov 11 2026. No macro, syntax, notation, axiom, sorry.
-/
import Derived.Test.YtfnpmncmceocdaaDoorRows
import GoSem.ClaimSeven
namespace Go.Proofs.YtfnpmncmceocdaaDoor
namespace Rows

/-- THE TIED CARD OF 'redraftlaw19.PageShows'. -/
def pageShowsCard : Claim7 := { stood := { row := pageShowsRow, standIns := [], harness := (true, "dc1c94f9321e550afeb887f57dfa3ddcf3e14d9f0051a5cdb8fd7c3299b1db79"), looks := false }, kinds := [], alts := [], laidByText := true, laidKinds := [.data, .data, .data, .data, .pinned], laidTests := true, laidLooks := .later }
def PageShowsCardSaid : Prop := Claim7.holds Tryd.pinned (.plain (OpenSpec.ofChange pageShowsSpec)) pageShowsCard

/-- THE SECOND FORM's CARD OF 'redraftlaw19.PageShows'. -/
def pageShowsUptoCard : Claim7 := { stood := { row := pageShowsUptoRow, standIns := [], harness := (true, "dc1c94f9321e550afeb887f57dfa3ddcf3e14d9f0051a5cdb8fd7c3299b1db79"), looks := false }, kinds := [], alts := [], laidByText := true, laidKinds := [.data, .data, .data, .data, .pinned], laidTests := true, laidLooks := .later }
def PageShowsUptoCardSaid : Prop := Claim7.holds Tryd.pinned (.plain (OpenSpec.upto pageShowsSpec)) pageShowsUptoCard
end Rows
end Go.Proofs.YtfnpmncmceocdaaDoor
