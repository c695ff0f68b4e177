/-
  DERIVED. GIVEN WITH THE SEED: THE CARDS: each row of YtnademmeffoedaaGreatDoorRows.lean that lists a variable, with what it lists TIED to the program's text (the seventh form; the later family's looks); each row that meets fmt, with fmt's text TOLD by the authors' own Lean function (tested against real Go, not proved from fmt's source: count such statements apart). THE CARD IS WHAT COUNTS. Prove the row's statement (the work); the ties are given (YtnademmeffoedaaGreatDoorTie.lean); close each card by the builder's one call (the guide's Derived/Test/ToyasCard.lean, 'card_holds'). Laid BY PROGRAM, IN A SANDBOX (cutbox-door.mjs). By AI agents, Wed Nov 11 2026. No macro, syntax, notation, axiom, sorry.
-/
import Derived.Test.YtnademmeffoedaaGreatDoorRows
import GoSem.ClaimSeven
namespace Go.Proofs.YtnademmeffoedaaGreatDoor
namespace Rows

/-- THE TIED CARD OF 'redraftlaw04.OpChecks'. -/
def opChecksCard : Claim7 := { stood := { row := opChecksRow, standIns := [], harness := (true, "f2925f87cb66f0dc69ec1c3b2d357a5997a69c6577a2018c4b26079f2ba2cd40"), looks := true }, kinds := [], alts := [], laidByText := true, laidKinds := [.data, .data, .data, .sentinel, .sentinel, .data], laidTests := true, laidLooks := .later }
def OpChecksCardSaid : Prop := Claim7.holds Tryz.pinned (.plain (OpenSpec.ofChange opChecksSpec)) opChecksCard

/-- THE TIED CARD OF 'redraftlaw04.OpApplies'. -/
def opAppliesCard : Claim7 := { stood := { row := opAppliesRow, standIns := [], harness := (true, "f2925f87cb66f0dc69ec1c3b2d357a5997a69c6577a2018c4b26079f2ba2cd40"), looks := true }, kinds := [], alts := [], laidByText := true, laidKinds := [.data, .data, .data, .sentinel, .sentinel, .data], laidTests := true, laidLooks := .later }
def OpAppliesCardSaid : Prop := Claim7.holds Tryz.pinned (.plain (OpenSpec.ofChange opAppliesSpec)) opAppliesCard

/-- THE SECOND FORM's CARD OF 'redraftlaw04.OpChecks'. -/
def opChecksUptoCard : Claim7 := { stood := { row := opChecksUptoRow, standIns := [], harness := (true, "f2925f87cb66f0dc69ec1c3b2d357a5997a69c6577a2018c4b26079f2ba2cd40"), looks := true }, kinds := [], alts := [], laidByText := true, laidKinds := [.data, .data, .data, .sentinel, .sentinel, .data], laidTests := true, laidLooks := .later }
def OpChecksUptoCardSaid : Prop := Claim7.holds Tryz.pinned (.plain (OpenSpec.upto opChecksSpec)) opChecksUptoCard

/-- THE SECOND FORM's CARD OF 'redraftlaw04.OpApplies'. -/
def opAppliesUptoCard : Claim7 := { stood := { row := opAppliesUptoRow, standIns := [], harness := (true, "f2925f87cb66f0dc69ec1c3b2d357a5997a69c6577a2018c4b26079f2ba2cd40"), looks := true }, kinds := [], alts := [], laidByText := true, laidKinds := [.data, .data, .data, .sentinel, .sentinel, .data], laidTests := true, laidLooks := .later }
def OpAppliesUptoCardSaid : Prop := Claim7.holds Tryz.pinned (.plain (OpenSpec.upto opAppliesSpec)) opAppliesUptoCard
end Rows
end Go.Proofs.YtnademmeffoedaaGreatDoor
