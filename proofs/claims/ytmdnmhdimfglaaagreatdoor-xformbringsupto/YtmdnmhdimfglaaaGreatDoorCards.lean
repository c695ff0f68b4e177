/-
  DERIVED. GIVEN WITH THE SEED: THE CARDS: each row of YtmdnmhdimfglaaaGreatDoorRows.lean that lists a variable, with what it lists TIED to the program's text (the seventh form; the later family's looks); each row that meets fmt, with fmt's text TOLD by the authors' own Lean function (tested against real Go, not proved from fmt's source: count such statements apart). THE CARD IS WHAT COUNTS. Prove the row's statement (the work); the ties are given (YtmdnmhdimfglaaaGreatDoorTie.lean); close each card by the builder's one call (the guide's Derived/Test/ToyasCard.lean, 'card_holds'). Laid BY PROGRAM, IN A SANDBOX (cutbox-door.mjs). By AI agents, Wed Nov 11 2026. No macro, syntax, notation, axiom, sorry.
-/
import Derived.Test.YtmdnmhdimfglaaaGreatDoorRows
import GoSem.ClaimSeven
namespace Go.Proofs.YtmdnmhdimfglaaaGreatDoor
namespace Rows

/-- THE TIED CARD OF 'redraftlaw05.XformCrosses'. -/
def xformCrossesCard : Claim7 := { stood := { row := xformCrossesRow, standIns := [], harness := (true, "213c6257edbc7d7e99625de2f821081cf1fed9eba6c4b010ab9fe13db9ef16c6"), looks := false }, kinds := [], alts := [], laidByText := true, laidKinds := [.data], laidTests := true, laidLooks := .later }
def XformCrossesCardSaid : Prop := Claim7.holds Tryz.pinned (.plain (OpenSpec.ofChange xformCrossesSpec)) xformCrossesCard

/-- THE TIED CARD OF 'redraftlaw05.XformBrings'. -/
def xformBringsCard : Claim7 := { stood := { row := xformBringsRow, standIns := [], harness := (true, "213c6257edbc7d7e99625de2f821081cf1fed9eba6c4b010ab9fe13db9ef16c6"), looks := false }, kinds := [], alts := [], laidByText := true, laidKinds := [.data], laidTests := true, laidLooks := .later }
def XformBringsCardSaid : Prop := Claim7.holds Tryz.pinned (.plain (OpenSpec.ofChange xformBringsSpec)) xformBringsCard

/-- THE SECOND FORM's CARD OF 'redraftlaw05.XformCrosses'. -/
def xformCrossesUptoCard : Claim7 := { stood := { row := xformCrossesUptoRow, standIns := [], harness := (true, "213c6257edbc7d7e99625de2f821081cf1fed9eba6c4b010ab9fe13db9ef16c6"), looks := false }, kinds := [], alts := [], laidByText := true, laidKinds := [.data], laidTests := true, laidLooks := .later }
def XformCrossesUptoCardSaid : Prop := Claim7.holds Tryz.pinned (.plain (OpenSpec.upto xformCrossesSpec)) xformCrossesUptoCard

/-- THE SECOND FORM's CARD OF 'redraftlaw05.XformBrings'. -/
def xformBringsUptoCard : Claim7 := { stood := { row := xformBringsUptoRow, standIns := [], harness := (true, "213c6257edbc7d7e99625de2f821081cf1fed9eba6c4b010ab9fe13db9ef16c6"), looks := false }, kinds := [], alts := [], laidByText := true, laidKinds := [.data], laidTests := true, laidLooks := .later }
def XformBringsUptoCardSaid : Prop := Claim7.holds Tryz.pinned (.plain (OpenSpec.upto xformBringsSpec)) xformBringsUptoCard
end Rows
end Go.Proofs.YtmdnmhdimfglaaaGreatDoor
