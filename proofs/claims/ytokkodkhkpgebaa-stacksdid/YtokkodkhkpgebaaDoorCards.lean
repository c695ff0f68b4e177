/-
  DERIVED. GIVEN WITH THE SEED: THE CARDS: each row of YtokkodkhkpgebaaDoorRows.lean that lists a variable, with what it lists TIED to the program's text (the seventh form; the later family's looks); each row that meets fmt, with fmt's text TOLD by the authors' own Lean function (tested against real Go, not proved from fmt's source: count such statements apart). THE CARD IS WHAT COUNTS. Prove the row's statement (the work); the ties are given (YtokkodkhkpgebaaDoorTie.lean); close each card by the builder's one call (the guide's Derived/Test/ToyasCard.lean, 'card_holds'). Laid BY PROGRAM, IN A SANDBOX (cutbox-door.mjs). By AI agents, Wed Nov 11 2026. No macro, syntax, notation, axiom, sorry.
-/
import Derived.Test.YtokkodkhkpgebaaDoorRows
import GoSem.ClaimSeven
namespace Go.Proofs.YtokkodkhkpgebaaDoor
namespace Rows

/-- THE TIED CARD OF 'redraftlaw07.StacksDid'. -/
def stacksDidCard : Claim7 := { stood := { row := stacksDidRow, standIns := [], harness := (true, "8036b70b0f7b678fc78f2302d72141febe9b7c04997dd49123bac2f25e83232c"), looks := false }, kinds := [], alts := [], laidByText := true, laidKinds := [.data], laidTests := true, laidLooks := .later }
def StacksDidCardSaid : Prop := Claim7.holds Tryd.pinned (.plain (OpenSpec.ofChange stacksDidSpec)) stacksDidCard

/-- THE TIED CARD OF 'redraftlaw07.StacksFollow'. -/
def stacksFollowCard : Claim7 := { stood := { row := stacksFollowRow, standIns := [], harness := (true, "8036b70b0f7b678fc78f2302d72141febe9b7c04997dd49123bac2f25e83232c"), looks := false }, kinds := [], alts := [], laidByText := true, laidKinds := [.data], laidTests := true, laidLooks := .later }
def StacksFollowCardSaid : Prop := Claim7.holds Tryd.pinned (.plain (OpenSpec.ofChange stacksFollowSpec)) stacksFollowCard

/-- THE TIED CARD OF 'redraftlaw07.StacksBack'. -/
def stacksBackCard : Claim7 := { stood := { row := stacksBackRow, standIns := [], harness := (true, "8036b70b0f7b678fc78f2302d72141febe9b7c04997dd49123bac2f25e83232c"), looks := false }, kinds := [], alts := [], laidByText := true, laidKinds := [.data], laidTests := true, laidLooks := .later }
def StacksBackCardSaid : Prop := Claim7.holds Tryd.pinned (.plain (OpenSpec.ofChange stacksBackSpec)) stacksBackCard

/-- THE SECOND FORM's CARD OF 'redraftlaw07.StacksDid'. -/
def stacksDidUptoCard : Claim7 := { stood := { row := stacksDidUptoRow, standIns := [], harness := (true, "8036b70b0f7b678fc78f2302d72141febe9b7c04997dd49123bac2f25e83232c"), looks := false }, kinds := [], alts := [], laidByText := true, laidKinds := [.data], laidTests := true, laidLooks := .later }
def StacksDidUptoCardSaid : Prop := Claim7.holds Tryd.pinned (.plain (OpenSpec.upto stacksDidSpec)) stacksDidUptoCard

/-- THE SECOND FORM's CARD OF 'redraftlaw07.StacksFollow'. -/
def stacksFollowUptoCard : Claim7 := { stood := { row := stacksFollowUptoRow, standIns := [], harness := (true, "8036b70b0f7b678fc78f2302d72141febe9b7c04997dd49123bac2f25e83232c"), looks := false }, kinds := [], alts := [], laidByText := true, laidKinds := [.data], laidTests := true, laidLooks := .later }
def StacksFollowUptoCardSaid : Prop := Claim7.holds Tryd.pinned (.plain (OpenSpec.upto stacksFollowSpec)) stacksFollowUptoCard

/-- THE SECOND FORM's CARD OF 'redraftlaw07.StacksBack'. -/
def stacksBackUptoCard : Claim7 := { stood := { row := stacksBackUptoRow, standIns := [], harness := (true, "8036b70b0f7b678fc78f2302d72141febe9b7c04997dd49123bac2f25e83232c"), looks := false }, kinds := [], alts := [], laidByText := true, laidKinds := [.data], laidTests := true, laidLooks := .later }
def StacksBackUptoCardSaid : Prop := Claim7.holds Tryd.pinned (.plain (OpenSpec.upto stacksBackSpec)) stacksBackUptoCard
end Rows
end Go.Proofs.YtokkodkhkpgebaaDoor
