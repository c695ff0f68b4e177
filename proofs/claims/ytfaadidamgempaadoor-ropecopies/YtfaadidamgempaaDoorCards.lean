/-
  DERIVED. GIVEN WITH THE SEED: THE CARDS: each row of YtfaadidamgempaaDoorRows.lean that lists a variable, with what it lists TIED to the program's text (the seventh form; the later family's looks); each row that meets fmt, with fmt's text TOLD by the authors' own Lean function (tested against real Go, not proved from fmt's source: count such statements apart). THE CARD IS WHAT COUNTS. Prove the row's statement (the work); the ties are given (YtfaadidamgempaaDoorTie.lean); close each card by the builder's one call (the guide's Derived/Test/ToyasCard.lean, 'card_holds'). Laid BY PROGRAM, IN A SANDBOX (cutbox-door.mjs). By AI agents, Wed Nov 11 2026. No macro, syntax, notation, axiom, sorry.
-/
import Derived.Test.YtfaadidamgempaaDoorRows
import GoSem.ClaimSeven
namespace Go.Proofs.YtfaadidamgempaaDoor
namespace Rows

/-- THE TIED CARD OF 'redraftlaw03.RopeCopies'. -/
def ropeCopiesCard : Claim7 := { stood := { row := ropeCopiesRow, standIns := [], harness := (true, "16c0fdb112af5e8e07c194a4daab8751d697fc393adfb06271281b0db07a6268"), looks := false }, kinds := [], alts := [], laidByText := true, laidKinds := [.data], laidTests := true, laidLooks := .later }
def RopeCopiesCardSaid : Prop := Claim7.holds Tryd.pinned (.plain (OpenSpec.ofChange ropeCopiesSpec)) ropeCopiesCard

/-- THE SECOND FORM's CARD OF 'redraftlaw03.RopeCopies'. -/
def ropeCopiesUptoCard : Claim7 := { stood := { row := ropeCopiesUptoRow, standIns := [], harness := (true, "16c0fdb112af5e8e07c194a4daab8751d697fc393adfb06271281b0db07a6268"), looks := false }, kinds := [], alts := [], laidByText := true, laidKinds := [.data], laidTests := true, laidLooks := .later }
def RopeCopiesUptoCardSaid : Prop := Claim7.holds Tryd.pinned (.plain (OpenSpec.upto ropeCopiesSpec)) ropeCopiesUptoCard
end Rows
end Go.Proofs.YtfaadidamgempaaDoor
