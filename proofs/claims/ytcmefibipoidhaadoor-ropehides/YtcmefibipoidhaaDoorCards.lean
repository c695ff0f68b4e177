/-
  DERIVED. GIVEN WITH THE SEED: THE CARDS: each row of YtcmefibipoidhaaDoorRows.lean that lists a variable, with what it lists TIED to the program's text (the seventh form; the later family's looks); each row that meets fmt, with fmt's text TOLD by the authors' own Lean function (tested against real Go, not proved from fmt's source: count such statements apart). THE CARD IS WHAT COUNTS. Prove the row's statement (the work); the ties are given (YtcmefibipoidhaaDoorTie.lean); close each card by the builder's one call (the guide's Derived/Test/ToyasCard.lean, 'card_holds'). Laid BY PROGRAM, IN A SANDBOX (cutbox-door.mjs). By AI agents, Wed Nov 11 2026. No macro, syntax, notation, axiom, sorry.
-/
import Derived.Test.YtcmefibipoidhaaDoorRows
import GoSem.ClaimSeven
namespace Go.Proofs.YtcmefibipoidhaaDoor
namespace Rows

/-- THE TIED CARD OF 'redraftlaw03.RopeKept'. -/
def ropeKeptCard : Claim7 := { stood := { row := ropeKeptRow, standIns := [], harness := (true, "222f764598686a0a5f74c343415829c054435cd7eb0f0adf161030638dad0b0e"), looks := false }, kinds := [], alts := [], laidByText := true, laidKinds := [.data], laidTests := true, laidLooks := .later }
def RopeKeptCardSaid : Prop := Claim7.holds Tryd.pinned (.plain (OpenSpec.ofChange ropeKeptSpec)) ropeKeptCard

/-- THE TIED CARD OF 'redraftlaw03.RopeHides'. -/
def ropeHidesCard : Claim7 := { stood := { row := ropeHidesRow, standIns := [], harness := (true, "222f764598686a0a5f74c343415829c054435cd7eb0f0adf161030638dad0b0e"), looks := false }, kinds := [], alts := [], laidByText := true, laidKinds := [.data], laidTests := true, laidLooks := .later }
def RopeHidesCardSaid : Prop := Claim7.holds Tryd.pinned (.plain (OpenSpec.ofChange ropeHidesSpec)) ropeHidesCard

/-- THE TIED CARD OF 'redraftlaw03.RopeRunsBack'. -/
def ropeRunsBackCard : Claim7 := { stood := { row := ropeRunsBackRow, standIns := [], harness := (true, "222f764598686a0a5f74c343415829c054435cd7eb0f0adf161030638dad0b0e"), looks := false }, kinds := [], alts := [], laidByText := true, laidKinds := [.data], laidTests := true, laidLooks := .later }
def RopeRunsBackCardSaid : Prop := Claim7.holds Tryd.pinned (.plain (OpenSpec.ofChange ropeRunsBackSpec)) ropeRunsBackCard

/-- THE SECOND FORM's CARD OF 'redraftlaw03.RopeKept'. -/
def ropeKeptUptoCard : Claim7 := { stood := { row := ropeKeptUptoRow, standIns := [], harness := (true, "222f764598686a0a5f74c343415829c054435cd7eb0f0adf161030638dad0b0e"), looks := false }, kinds := [], alts := [], laidByText := true, laidKinds := [.data], laidTests := true, laidLooks := .later }
def RopeKeptUptoCardSaid : Prop := Claim7.holds Tryd.pinned (.plain (OpenSpec.upto ropeKeptSpec)) ropeKeptUptoCard

/-- THE SECOND FORM's CARD OF 'redraftlaw03.RopeHides'. -/
def ropeHidesUptoCard : Claim7 := { stood := { row := ropeHidesUptoRow, standIns := [], harness := (true, "222f764598686a0a5f74c343415829c054435cd7eb0f0adf161030638dad0b0e"), looks := false }, kinds := [], alts := [], laidByText := true, laidKinds := [.data], laidTests := true, laidLooks := .later }
def RopeHidesUptoCardSaid : Prop := Claim7.holds Tryd.pinned (.plain (OpenSpec.upto ropeHidesSpec)) ropeHidesUptoCard

/-- THE SECOND FORM's CARD OF 'redraftlaw03.RopeRunsBack'. -/
def ropeRunsBackUptoCard : Claim7 := { stood := { row := ropeRunsBackUptoRow, standIns := [], harness := (true, "222f764598686a0a5f74c343415829c054435cd7eb0f0adf161030638dad0b0e"), looks := false }, kinds := [], alts := [], laidByText := true, laidKinds := [.data], laidTests := true, laidLooks := .later }
def RopeRunsBackUptoCardSaid : Prop := Claim7.holds Tryd.pinned (.plain (OpenSpec.upto ropeRunsBackSpec)) ropeRunsBackUptoCard
end Rows
end Go.Proofs.YtcmefibipoidhaaDoor
