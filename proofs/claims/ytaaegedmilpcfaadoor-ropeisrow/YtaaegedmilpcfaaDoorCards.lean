/-
  DERIVED. GIVEN WITH THE SEED: THE CARDS: each row of YtaaegedmilpcfaaDoorRows.lean that lists a variable, with what it lists TIED to the program's text (the seventh form; the later family's looks); each row that meets fmt, with fmt's text TOLD by the authors' own Lean function (tested against real Go, not proved from fmt's source: count such statements apart). THE CARD IS WHAT COUNTS. Prove the row's statement (the work); the ties are given (YtaaegedmilpcfaaDoorTie.lean); close each card by the builder's one call (the guide's Derived/Test/ToyasCard.lean, 'card_holds'). Laid BY PROGRAM, IN A SANDBOX (cutbox-door.mjs). By AI agents, Wed Nov 11 2026. No macro, syntax, notation, axiom, sorry.
-/
import Derived.Test.YtaaegedmilpcfaaDoorRows
import GoSem.ClaimSeven
namespace Go.Proofs.YtaaegedmilpcfaaDoor
namespace Rows

/-- THE TIED CARD OF 'redraftlaw03.RopeIsRow'. -/
def ropeIsRowCard : Claim7 := { stood := { row := ropeIsRowRow, standIns := [], harness := (true, "db7d832e0b1d78231cdad57aad0955929c65954e70a3dcde0eb3e7087bb95f95"), looks := false }, kinds := [], alts := [], laidByText := true, laidKinds := [.data], laidTests := true, laidLooks := .later }
def RopeIsRowCardSaid : Prop := Claim7.holds Tryd.pinned (.plain (OpenSpec.ofChange ropeIsRowSpec)) ropeIsRowCard

/-- THE SECOND FORM's CARD OF 'redraftlaw03.RopeIsRow'. -/
def ropeIsRowUptoCard : Claim7 := { stood := { row := ropeIsRowUptoRow, standIns := [], harness := (true, "db7d832e0b1d78231cdad57aad0955929c65954e70a3dcde0eb3e7087bb95f95"), looks := false }, kinds := [], alts := [], laidByText := true, laidKinds := [.data], laidTests := true, laidLooks := .later }
def RopeIsRowUptoCardSaid : Prop := Claim7.holds Tryd.pinned (.plain (OpenSpec.upto ropeIsRowSpec)) ropeIsRowUptoCard
end Rows
end Go.Proofs.YtaaegedmilpcfaaDoor
