/-
  DERIVED. GIVEN WITH THE SEED: THE CARDS: each row of YtkdhcokefnffaaaDoorRows.lean that lists a variable, with what it lists TIED to the program's text (the seventh form; the later family's looks); each row that meets fmt, with fmt's text TOLD by the authors' own Lean function (tested against real Go, not proved from fmt's source: count such statements apart). THE CARD IS WHAT COUNTS. Prove the row's statement (the work); the ties are given (YtkdhcokefnffaaaDoorTie.lean); close each card by the builder's one call (the guide's Derived/Test/ToyasCard.lean, 'card_holds'). Laid BY PROGRAM, IN A SANDBOX (cutbox-door.mjs). By AI agents, Wed Nov 11 2026. No macro, syntax, notation, axiom, sorry.
-/
import Derived.Test.YtkdhcokefnffaaaDoorRows
import GoSem.ClaimSeven
namespace Go.Proofs.YtkdhcokefnffaaaDoor
namespace Rows

/-- THE TIED CARD OF 'redraftlaw10.MsgNames'. -/
def msgNamesCard : Claim7 := { stood := { row := msgNamesRow, standIns := [], harness := (true, "aefc24b432c64cefdbfc753961879a333618ad37db97263934ff48dc4d7d479f"), looks := true }, kinds := [], alts := [], laidByText := true, laidKinds := [.data], laidTests := true, laidLooks := .later }
def MsgNamesCardSaid : Prop := Claim7.holds Tryd.pinned (.plain (OpenSpec.ofChange msgNamesSpec)) msgNamesCard

/-- THE TIED CARD OF 'redraftlaw10.MsgShortest'. -/
def msgShortestCard : Claim7 := { stood := { row := msgShortestRow, standIns := [], harness := (true, "aefc24b432c64cefdbfc753961879a333618ad37db97263934ff48dc4d7d479f"), looks := true }, kinds := [], alts := [], laidByText := true, laidKinds := [.data], laidTests := true, laidLooks := .later }
def MsgShortestCardSaid : Prop := Claim7.holds Tryd.pinned (.plain (OpenSpec.ofChange msgShortestSpec)) msgShortestCard

/-- THE TIED CARD OF 'redraftlaw10.MsgCut'. -/
def msgCutCard : Claim7 := { stood := { row := msgCutRow, standIns := [], harness := (true, "aefc24b432c64cefdbfc753961879a333618ad37db97263934ff48dc4d7d479f"), looks := true }, kinds := [], alts := [], laidByText := true, laidKinds := [.data], laidTests := true, laidLooks := .later }
def MsgCutCardSaid : Prop := Claim7.holds Tryd.pinned (.plain (OpenSpec.ofChange msgCutSpec)) msgCutCard

/-- THE SECOND FORM's CARD OF 'redraftlaw10.MsgNames'. -/
def msgNamesUptoCard : Claim7 := { stood := { row := msgNamesUptoRow, standIns := [], harness := (true, "aefc24b432c64cefdbfc753961879a333618ad37db97263934ff48dc4d7d479f"), looks := true }, kinds := [], alts := [], laidByText := true, laidKinds := [.data], laidTests := true, laidLooks := .later }
def MsgNamesUptoCardSaid : Prop := Claim7.holds Tryd.pinned (.plain (OpenSpec.upto msgNamesSpec)) msgNamesUptoCard

/-- THE SECOND FORM's CARD OF 'redraftlaw10.MsgShortest'. -/
def msgShortestUptoCard : Claim7 := { stood := { row := msgShortestUptoRow, standIns := [], harness := (true, "aefc24b432c64cefdbfc753961879a333618ad37db97263934ff48dc4d7d479f"), looks := true }, kinds := [], alts := [], laidByText := true, laidKinds := [.data], laidTests := true, laidLooks := .later }
def MsgShortestUptoCardSaid : Prop := Claim7.holds Tryd.pinned (.plain (OpenSpec.upto msgShortestSpec)) msgShortestUptoCard

/-- THE SECOND FORM's CARD OF 'redraftlaw10.MsgCut'. -/
def msgCutUptoCard : Claim7 := { stood := { row := msgCutUptoRow, standIns := [], harness := (true, "aefc24b432c64cefdbfc753961879a333618ad37db97263934ff48dc4d7d479f"), looks := true }, kinds := [], alts := [], laidByText := true, laidKinds := [.data], laidTests := true, laidLooks := .later }
def MsgCutUptoCardSaid : Prop := Claim7.holds Tryd.pinned (.plain (OpenSpec.upto msgCutSpec)) msgCutUptoCard
end Rows
end Go.Proofs.YtkdhcokefnffaaaDoor
