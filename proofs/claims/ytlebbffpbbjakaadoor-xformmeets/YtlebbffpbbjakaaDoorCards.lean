/-
  DERIVED. GIVEN WITH THE SEED: THE CARDS: each row of YtlebbffpbbjakaaDoorRows.lean that lists a variable, with what it lists TIED to the program's text (the seventh form; the later family's looks); each row that meets fmt, with fmt's text TOLD by the authors' own Lean function (tested against real Go, not proved from fmt's source: count such statements apart). THE CARD IS WHAT COUNTS. Prove the row's statement (the work); the ties are given (YtlebbffpbbjakaaDoorTie.lean); close each card by the builder's one call (the guide's Derived/Test/ToyasCard.lean, 'card_holds'). Laid BY PROGRAM, IN A SANDBOX (cutbox-door.mjs). By AI agents, Wed Nov 11 2026. No macro, syntax, notation, axiom, sorry.
-/
import Derived.Test.YtlebbffpbbjakaaDoorRows
import GoSem.ClaimSeven
namespace Go.Proofs.YtlebbffpbbjakaaDoor
namespace Rows

/-- THE TIED CARD OF 'redraftlaw05.XformRunsMeet'. -/
def xformRunsMeetCard : Claim7 := { stood := { row := xformRunsMeetRow, standIns := [], harness := (true, "24164f6df92c1b00ffe333b54f7748c65008ced0e52be5518e3836237df3d319"), looks := false }, kinds := [], alts := [], laidByText := true, laidKinds := [.data, .data], laidTests := true, laidLooks := .later }
def XformRunsMeetCardSaid : Prop := Claim7.holds Tryd.pinned (.plain (OpenSpec.ofChange xformRunsMeetSpec)) xformRunsMeetCard

/-- THE TIED CARD OF 'redraftlaw05.XformOverIsCross'. -/
def xformOverIsCrossCard : Claim7 := { stood := { row := xformOverIsCrossRow, standIns := [], harness := (true, "24164f6df92c1b00ffe333b54f7748c65008ced0e52be5518e3836237df3d319"), looks := false }, kinds := [], alts := [], laidByText := true, laidKinds := [.data, .data], laidTests := true, laidLooks := .later }
def XformOverIsCrossCardSaid : Prop := Claim7.holds Tryd.pinned (.plain (OpenSpec.ofChange xformOverIsCrossSpec)) xformOverIsCrossCard

/-- THE TIED CARD OF 'redraftlaw05.XformMeets'. -/
def xformMeetsCard : Claim7 := { stood := { row := xformMeetsRow, standIns := [], harness := (true, "24164f6df92c1b00ffe333b54f7748c65008ced0e52be5518e3836237df3d319"), looks := false }, kinds := [], alts := [], laidByText := true, laidKinds := [.data, .data], laidTests := true, laidLooks := .later }
def XformMeetsCardSaid : Prop := Claim7.holds Tryd.pinned (.plain (OpenSpec.ofChange xformMeetsSpec)) xformMeetsCard

/-- THE TIED CARD OF 'redraftlaw05.XformNewMemory'. -/
def xformNewMemoryCard : Claim7 := { stood := { row := xformNewMemoryRow, standIns := [], harness := (true, "24164f6df92c1b00ffe333b54f7748c65008ced0e52be5518e3836237df3d319"), looks := false }, kinds := [], alts := [], laidByText := true, laidKinds := [.data, .data], laidTests := true, laidLooks := .later }
def XformNewMemoryCardSaid : Prop := Claim7.holds Tryd.pinned (.plain (OpenSpec.ofChange xformNewMemorySpec)) xformNewMemoryCard

/-- THE SECOND FORM's CARD OF 'redraftlaw05.XformRunsMeet'. -/
def xformRunsMeetUptoCard : Claim7 := { stood := { row := xformRunsMeetUptoRow, standIns := [], harness := (true, "24164f6df92c1b00ffe333b54f7748c65008ced0e52be5518e3836237df3d319"), looks := false }, kinds := [], alts := [], laidByText := true, laidKinds := [.data, .data], laidTests := true, laidLooks := .later }
def XformRunsMeetUptoCardSaid : Prop := Claim7.holds Tryd.pinned (.plain (OpenSpec.upto xformRunsMeetSpec)) xformRunsMeetUptoCard

/-- THE SECOND FORM's CARD OF 'redraftlaw05.XformOverIsCross'. -/
def xformOverIsCrossUptoCard : Claim7 := { stood := { row := xformOverIsCrossUptoRow, standIns := [], harness := (true, "24164f6df92c1b00ffe333b54f7748c65008ced0e52be5518e3836237df3d319"), looks := false }, kinds := [], alts := [], laidByText := true, laidKinds := [.data, .data], laidTests := true, laidLooks := .later }
def XformOverIsCrossUptoCardSaid : Prop := Claim7.holds Tryd.pinned (.plain (OpenSpec.upto xformOverIsCrossSpec)) xformOverIsCrossUptoCard

/-- THE SECOND FORM's CARD OF 'redraftlaw05.XformMeets'. -/
def xformMeetsUptoCard : Claim7 := { stood := { row := xformMeetsUptoRow, standIns := [], harness := (true, "24164f6df92c1b00ffe333b54f7748c65008ced0e52be5518e3836237df3d319"), looks := false }, kinds := [], alts := [], laidByText := true, laidKinds := [.data, .data], laidTests := true, laidLooks := .later }
def XformMeetsUptoCardSaid : Prop := Claim7.holds Tryd.pinned (.plain (OpenSpec.upto xformMeetsSpec)) xformMeetsUptoCard

/-- THE SECOND FORM's CARD OF 'redraftlaw05.XformNewMemory'. -/
def xformNewMemoryUptoCard : Claim7 := { stood := { row := xformNewMemoryUptoRow, standIns := [], harness := (true, "24164f6df92c1b00ffe333b54f7748c65008ced0e52be5518e3836237df3d319"), looks := false }, kinds := [], alts := [], laidByText := true, laidKinds := [.data, .data], laidTests := true, laidLooks := .later }
def XformNewMemoryUptoCardSaid : Prop := Claim7.holds Tryd.pinned (.plain (OpenSpec.upto xformNewMemorySpec)) xformNewMemoryUptoCard
end Rows
end Go.Proofs.YtlebbffpbbjakaaDoor
