/-
  DERIVED. GIVEN WITH THE SEED: THE CARDS: each row of YtcflpiaclnebeaaDoorRows.lean that lists a variable, with what it lists TIED to the program's text (the seventh form; the later family's looks); each row that meets fmt, with fmt's text TOLD by the authors' own Lean function (tested against real Go, not proved from fmt's source: count such statements apart). THE CARD IS WHAT COUNTS. Prove the row's statement (the work); the ties are given (YtcflpiaclnebeaaDoorTie.lean); close each card by the builder's one call (the guide's Derived/Test/ToyasCard.lean, 'card_holds'). Laid BY PROGRAM, IN A SANDBOX (cutbox-door.mjs). By AI agents, Wed Nov 11 2026. No macro, syntax, notation, axiom, sorry.
-/
import Derived.Test.YtcflpiaclnebeaaDoorRows
import GoSem.ClaimSeven
namespace Go.Proofs.YtcflpiaclnebeaaDoor
namespace Rows

/-- THE TIED CARD OF 'redraftlaw03.RopePlaces'. -/
def ropePlacesCard : Claim7 := { stood := { row := ropePlacesRow, standIns := [], harness := (true, "3479c4bfe15832f2a7e41e00af63aafb041e2fc48c1b40d47520c59ab21ae759"), looks := false }, kinds := [], alts := [], laidByText := true, laidKinds := [.data], laidTests := true, laidLooks := .later }
def RopePlacesCardSaid : Prop := Claim7.holds Tryd.pinned (.plain (OpenSpec.ofChange ropePlacesSpec)) ropePlacesCard

/-- THE TIED CARD OF 'redraftlaw03.RopeGrows'. -/
def ropeGrowsCard : Claim7 := { stood := { row := ropeGrowsRow, standIns := [], harness := (true, "3479c4bfe15832f2a7e41e00af63aafb041e2fc48c1b40d47520c59ab21ae759"), looks := false }, kinds := [], alts := [], laidByText := true, laidKinds := [.data], laidTests := true, laidLooks := .later }
def RopeGrowsCardSaid : Prop := Claim7.holds Tryd.pinned (.plain (OpenSpec.ofChange ropeGrowsSpec)) ropeGrowsCard

/-- THE TIED CARD OF 'redraftlaw03.RopeLands'. -/
def ropeLandsCard : Claim7 := { stood := { row := ropeLandsRow, standIns := [], harness := (true, "3479c4bfe15832f2a7e41e00af63aafb041e2fc48c1b40d47520c59ab21ae759"), looks := false }, kinds := [], alts := [], laidByText := true, laidKinds := [.data], laidTests := true, laidLooks := .later }
def RopeLandsCardSaid : Prop := Claim7.holds Tryd.pinned (.plain (OpenSpec.ofChange ropeLandsSpec)) ropeLandsCard

/-- THE TIED CARD OF 'redraftlaw03.RopeKept'. -/
def ropeKeptCard : Claim7 := { stood := { row := ropeKeptRow, standIns := [], harness := (true, "3479c4bfe15832f2a7e41e00af63aafb041e2fc48c1b40d47520c59ab21ae759"), looks := false }, kinds := [], alts := [], laidByText := true, laidKinds := [.data], laidTests := true, laidLooks := .later }
def RopeKeptCardSaid : Prop := Claim7.holds Tryd.pinned (.plain (OpenSpec.ofChange ropeKeptSpec)) ropeKeptCard

/-- THE TIED CARD OF 'redraftlaw03.RopeHides'. -/
def ropeHidesCard : Claim7 := { stood := { row := ropeHidesRow, standIns := [], harness := (true, "3479c4bfe15832f2a7e41e00af63aafb041e2fc48c1b40d47520c59ab21ae759"), looks := false }, kinds := [], alts := [], laidByText := true, laidKinds := [.data], laidTests := true, laidLooks := .later }
def RopeHidesCardSaid : Prop := Claim7.holds Tryd.pinned (.plain (OpenSpec.ofChange ropeHidesSpec)) ropeHidesCard

/-- THE TIED CARD OF 'redraftlaw03.RopeIsRow'. -/
def ropeIsRowCard : Claim7 := { stood := { row := ropeIsRowRow, standIns := [], harness := (true, "3479c4bfe15832f2a7e41e00af63aafb041e2fc48c1b40d47520c59ab21ae759"), looks := false }, kinds := [], alts := [], laidByText := true, laidKinds := [.data], laidTests := true, laidLooks := .later }
def RopeIsRowCardSaid : Prop := Claim7.holds Tryd.pinned (.plain (OpenSpec.ofChange ropeIsRowSpec)) ropeIsRowCard

/-- THE SECOND FORM's CARD OF 'redraftlaw03.RopePlaces'. -/
def ropePlacesUptoCard : Claim7 := { stood := { row := ropePlacesUptoRow, standIns := [], harness := (true, "3479c4bfe15832f2a7e41e00af63aafb041e2fc48c1b40d47520c59ab21ae759"), looks := false }, kinds := [], alts := [], laidByText := true, laidKinds := [.data], laidTests := true, laidLooks := .later }
def RopePlacesUptoCardSaid : Prop := Claim7.holds Tryd.pinned (.plain (OpenSpec.upto ropePlacesSpec)) ropePlacesUptoCard

/-- THE SECOND FORM's CARD OF 'redraftlaw03.RopeGrows'. -/
def ropeGrowsUptoCard : Claim7 := { stood := { row := ropeGrowsUptoRow, standIns := [], harness := (true, "3479c4bfe15832f2a7e41e00af63aafb041e2fc48c1b40d47520c59ab21ae759"), looks := false }, kinds := [], alts := [], laidByText := true, laidKinds := [.data], laidTests := true, laidLooks := .later }
def RopeGrowsUptoCardSaid : Prop := Claim7.holds Tryd.pinned (.plain (OpenSpec.upto ropeGrowsSpec)) ropeGrowsUptoCard

/-- THE SECOND FORM's CARD OF 'redraftlaw03.RopeLands'. -/
def ropeLandsUptoCard : Claim7 := { stood := { row := ropeLandsUptoRow, standIns := [], harness := (true, "3479c4bfe15832f2a7e41e00af63aafb041e2fc48c1b40d47520c59ab21ae759"), looks := false }, kinds := [], alts := [], laidByText := true, laidKinds := [.data], laidTests := true, laidLooks := .later }
def RopeLandsUptoCardSaid : Prop := Claim7.holds Tryd.pinned (.plain (OpenSpec.upto ropeLandsSpec)) ropeLandsUptoCard

/-- THE SECOND FORM's CARD OF 'redraftlaw03.RopeKept'. -/
def ropeKeptUptoCard : Claim7 := { stood := { row := ropeKeptUptoRow, standIns := [], harness := (true, "3479c4bfe15832f2a7e41e00af63aafb041e2fc48c1b40d47520c59ab21ae759"), looks := false }, kinds := [], alts := [], laidByText := true, laidKinds := [.data], laidTests := true, laidLooks := .later }
def RopeKeptUptoCardSaid : Prop := Claim7.holds Tryd.pinned (.plain (OpenSpec.upto ropeKeptSpec)) ropeKeptUptoCard

/-- THE SECOND FORM's CARD OF 'redraftlaw03.RopeHides'. -/
def ropeHidesUptoCard : Claim7 := { stood := { row := ropeHidesUptoRow, standIns := [], harness := (true, "3479c4bfe15832f2a7e41e00af63aafb041e2fc48c1b40d47520c59ab21ae759"), looks := false }, kinds := [], alts := [], laidByText := true, laidKinds := [.data], laidTests := true, laidLooks := .later }
def RopeHidesUptoCardSaid : Prop := Claim7.holds Tryd.pinned (.plain (OpenSpec.upto ropeHidesSpec)) ropeHidesUptoCard

/-- THE SECOND FORM's CARD OF 'redraftlaw03.RopeIsRow'. -/
def ropeIsRowUptoCard : Claim7 := { stood := { row := ropeIsRowUptoRow, standIns := [], harness := (true, "3479c4bfe15832f2a7e41e00af63aafb041e2fc48c1b40d47520c59ab21ae759"), looks := false }, kinds := [], alts := [], laidByText := true, laidKinds := [.data], laidTests := true, laidLooks := .later }
def RopeIsRowUptoCardSaid : Prop := Claim7.holds Tryd.pinned (.plain (OpenSpec.upto ropeIsRowSpec)) ropeIsRowUptoCard
end Rows
end Go.Proofs.YtcflpiaclnebeaaDoor
