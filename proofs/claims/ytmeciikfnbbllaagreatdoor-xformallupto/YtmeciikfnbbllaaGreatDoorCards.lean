/-
  DERIVED. GIVEN WITH THE SEED: THE CARDS: each row of YtmeciikfnbbllaaGreatDoorRows.lean that lists a variable, with what it lists TIED to the program's text (the seventh form; the later family's looks); each row that meets fmt, with fmt's text TOLD by the authors' own Lean function (tested against real Go, not proved from fmt's source: count such statements apart). THE CARD IS WHAT COUNTS. Prove the row's statement (the work); the ties are given (YtmeciikfnbbllaaGreatDoorTie.lean); close each card by the builder's one call (the guide's Derived/Test/ToyasCard.lean, 'card_holds'). Laid BY PROGRAM, IN A SANDBOX (cutbox-door.mjs). By AI agents, Wed Nov 11 2026. No macro, syntax, notation, axiom, sorry.
-/
import Derived.Test.YtmeciikfnbbllaaGreatDoorRows
import GoSem.ClaimSeven
namespace Go.Proofs.YtmeciikfnbbllaaGreatDoor
namespace Rows

/-- THE TIED CARD OF 'redraftlaw05.XformCarets'. -/
def xformCaretsCard : Claim7 := { stood := { row := xformCaretsRow, standIns := [], harness := (true, "a9fe123f793c9b50016be671a5ef224feb266f45d0411f115b8cd3ad34608734"), looks := false }, kinds := [], alts := [], laidByText := true, laidKinds := [.data], laidTests := true, laidLooks := .later }
def XformCaretsCardSaid : Prop := Claim7.holds Tryz.pinned (.plain (OpenSpec.ofChange xformCaretsSpec)) xformCaretsCard

/-- THE TIED CARD OF 'redraftlaw05.XformIncludes'. -/
def xformIncludesCard : Claim7 := { stood := { row := xformIncludesRow, standIns := [], harness := (true, "a9fe123f793c9b50016be671a5ef224feb266f45d0411f115b8cd3ad34608734"), looks := false }, kinds := [], alts := [], laidByText := true, laidKinds := [.data], laidTests := true, laidLooks := .later }
def XformIncludesCardSaid : Prop := Claim7.holds Tryz.pinned (.plain (OpenSpec.ofChange xformIncludesSpec)) xformIncludesCard

/-- THE TIED CARD OF 'redraftlaw05.XformExcludes'. -/
def xformExcludesCard : Claim7 := { stood := { row := xformExcludesRow, standIns := [], harness := (true, "a9fe123f793c9b50016be671a5ef224feb266f45d0411f115b8cd3ad34608734"), looks := false }, kinds := [], alts := [], laidByText := true, laidKinds := [.data], laidTests := true, laidLooks := .later }
def XformExcludesCardSaid : Prop := Claim7.holds Tryz.pinned (.plain (OpenSpec.ofChange xformExcludesSpec)) xformExcludesCard

/-- THE TIED CARD OF 'redraftlaw05.XformTransposes'. -/
def xformTransposesCard : Claim7 := { stood := { row := xformTransposesRow, standIns := [], harness := (true, "a9fe123f793c9b50016be671a5ef224feb266f45d0411f115b8cd3ad34608734"), looks := false }, kinds := [], alts := [], laidByText := true, laidKinds := [.data], laidTests := true, laidLooks := .later }
def XformTransposesCardSaid : Prop := Claim7.holds Tryz.pinned (.plain (OpenSpec.ofChange xformTransposesSpec)) xformTransposesCard

/-- THE TIED CARD OF 'redraftlaw05.XformOvers'. -/
def xformOversCard : Claim7 := { stood := { row := xformOversRow, standIns := [], harness := (true, "a9fe123f793c9b50016be671a5ef224feb266f45d0411f115b8cd3ad34608734"), looks := false }, kinds := [], alts := [], laidByText := true, laidKinds := [.data], laidTests := true, laidLooks := .later }
def XformOversCardSaid : Prop := Claim7.holds Tryz.pinned (.plain (OpenSpec.ofChange xformOversSpec)) xformOversCard

/-- THE TIED CARD OF 'redraftlaw05.XformAll'. -/
def xformAllCard : Claim7 := { stood := { row := xformAllRow, standIns := [], harness := (true, "a9fe123f793c9b50016be671a5ef224feb266f45d0411f115b8cd3ad34608734"), looks := false }, kinds := [], alts := [], laidByText := true, laidKinds := [.data], laidTests := true, laidLooks := .later }
def XformAllCardSaid : Prop := Claim7.holds Tryz.pinned (.plain (OpenSpec.ofChange xformAllSpec)) xformAllCard

/-- THE SECOND FORM's CARD OF 'redraftlaw05.XformCarets'. -/
def xformCaretsUptoCard : Claim7 := { stood := { row := xformCaretsUptoRow, standIns := [], harness := (true, "a9fe123f793c9b50016be671a5ef224feb266f45d0411f115b8cd3ad34608734"), looks := false }, kinds := [], alts := [], laidByText := true, laidKinds := [.data], laidTests := true, laidLooks := .later }
def XformCaretsUptoCardSaid : Prop := Claim7.holds Tryz.pinned (.plain (OpenSpec.upto xformCaretsSpec)) xformCaretsUptoCard

/-- THE SECOND FORM's CARD OF 'redraftlaw05.XformIncludes'. -/
def xformIncludesUptoCard : Claim7 := { stood := { row := xformIncludesUptoRow, standIns := [], harness := (true, "a9fe123f793c9b50016be671a5ef224feb266f45d0411f115b8cd3ad34608734"), looks := false }, kinds := [], alts := [], laidByText := true, laidKinds := [.data], laidTests := true, laidLooks := .later }
def XformIncludesUptoCardSaid : Prop := Claim7.holds Tryz.pinned (.plain (OpenSpec.upto xformIncludesSpec)) xformIncludesUptoCard

/-- THE SECOND FORM's CARD OF 'redraftlaw05.XformExcludes'. -/
def xformExcludesUptoCard : Claim7 := { stood := { row := xformExcludesUptoRow, standIns := [], harness := (true, "a9fe123f793c9b50016be671a5ef224feb266f45d0411f115b8cd3ad34608734"), looks := false }, kinds := [], alts := [], laidByText := true, laidKinds := [.data], laidTests := true, laidLooks := .later }
def XformExcludesUptoCardSaid : Prop := Claim7.holds Tryz.pinned (.plain (OpenSpec.upto xformExcludesSpec)) xformExcludesUptoCard

/-- THE SECOND FORM's CARD OF 'redraftlaw05.XformTransposes'. -/
def xformTransposesUptoCard : Claim7 := { stood := { row := xformTransposesUptoRow, standIns := [], harness := (true, "a9fe123f793c9b50016be671a5ef224feb266f45d0411f115b8cd3ad34608734"), looks := false }, kinds := [], alts := [], laidByText := true, laidKinds := [.data], laidTests := true, laidLooks := .later }
def XformTransposesUptoCardSaid : Prop := Claim7.holds Tryz.pinned (.plain (OpenSpec.upto xformTransposesSpec)) xformTransposesUptoCard

/-- THE SECOND FORM's CARD OF 'redraftlaw05.XformOvers'. -/
def xformOversUptoCard : Claim7 := { stood := { row := xformOversUptoRow, standIns := [], harness := (true, "a9fe123f793c9b50016be671a5ef224feb266f45d0411f115b8cd3ad34608734"), looks := false }, kinds := [], alts := [], laidByText := true, laidKinds := [.data], laidTests := true, laidLooks := .later }
def XformOversUptoCardSaid : Prop := Claim7.holds Tryz.pinned (.plain (OpenSpec.upto xformOversSpec)) xformOversUptoCard

/-- THE SECOND FORM's CARD OF 'redraftlaw05.XformAll'. -/
def xformAllUptoCard : Claim7 := { stood := { row := xformAllUptoRow, standIns := [], harness := (true, "a9fe123f793c9b50016be671a5ef224feb266f45d0411f115b8cd3ad34608734"), looks := false }, kinds := [], alts := [], laidByText := true, laidKinds := [.data], laidTests := true, laidLooks := .later }
def XformAllUptoCardSaid : Prop := Claim7.holds Tryz.pinned (.plain (OpenSpec.upto xformAllSpec)) xformAllUptoCard
end Rows
end Go.Proofs.YtmeciikfnbbllaaGreatDoor
