/-
  DERIVED. GIVEN WITH THE SEED: THE CARDS: each row of YtfakfmmngflbfaaDoorRows.lean that lists a variable, with what it lists TIED to the program's text (the seventh form; the later family's looks); each row that meets fmt, with fmt's text TOLD by the authors' own Lean function (tested against real Go, not proved from fmt's source: count such statements apart). THE CARD IS WHAT COUNTS. Prove the row's statement (the work); the ties are given (YtfakfmmngflbfaaDoorTie.lean); close each card by the builder's one call (the guide's Derived/Test/ToyasCard.lean, 'card_holds'). Laid BY PROGRAM, IN A SANDBOX (cutbox-door.mjs). By AI agents, Wed Nov 11 2026. No macro, syntax, notation, axiom, sorry.
-/
import Derived.Test.YtfakfmmngflbfaaDoorRows
import GoSem.ClaimSeven
namespace Go.Proofs.YtfakfmmngflbfaaDoor
namespace Rows

/-- THE TIED CARD OF 'redraftlaw01.UtextFirstFault'. -/
def utextFirstFaultCard : Claim7 := { stood := { row := utextFirstFaultRow, standIns := [], harness := (true, "75f59ca71a958aca81609d657382b0678d5b1a446d60e428384b720dd7c3db16"), looks := false }, kinds := [], alts := [], laidByText := true, laidKinds := [.data], laidTests := true, laidLooks := .later }
def UtextFirstFaultCardSaid : Prop := Claim7.holds Tryd.pinned (.plain (OpenSpec.ofChange utextFirstFaultSpec)) utextFirstFaultCard

/-- THE TIED CARD OF 'redraftlaw01.UtextLetsIn'. -/
def utextLetsInCard : Claim7 := { stood := { row := utextLetsInRow, standIns := [], harness := (true, "75f59ca71a958aca81609d657382b0678d5b1a446d60e428384b720dd7c3db16"), looks := false }, kinds := [], alts := [], laidByText := true, laidKinds := [.data], laidTests := true, laidLooks := .later }
def UtextLetsInCardSaid : Prop := Claim7.holds Tryd.pinned (.plain (OpenSpec.ofChange utextLetsInSpec)) utextLetsInCard

/-- THE TIED CARD OF 'redraftlaw01.UtextShortest'. -/
def utextShortestCard : Claim7 := { stood := { row := utextShortestRow, standIns := [], harness := (true, "75f59ca71a958aca81609d657382b0678d5b1a446d60e428384b720dd7c3db16"), looks := false }, kinds := [], alts := [], laidByText := true, laidKinds := [.data], laidTests := true, laidLooks := .later }
def UtextShortestCardSaid : Prop := Claim7.holds Tryd.pinned (.plain (OpenSpec.ofChange utextShortestSpec)) utextShortestCard

/-- THE TIED CARD OF 'redraftlaw01.UtextPlacesMeet'. -/
def utextPlacesMeetCard : Claim7 := { stood := { row := utextPlacesMeetRow, standIns := [], harness := (true, "75f59ca71a958aca81609d657382b0678d5b1a446d60e428384b720dd7c3db16"), looks := false }, kinds := [], alts := [], laidByText := true, laidKinds := [.data], laidTests := true, laidLooks := .later }
def UtextPlacesMeetCardSaid : Prop := Claim7.holds Tryd.pinned (.plain (OpenSpec.ofChange utextPlacesMeetSpec)) utextPlacesMeetCard

/-- THE TIED CARD OF 'redraftlaw01.UtextWords'. -/
def utextWordsCard : Claim7 := { stood := { row := utextWordsRow, standIns := [], harness := (true, "75f59ca71a958aca81609d657382b0678d5b1a446d60e428384b720dd7c3db16"), looks := false }, kinds := [], alts := [], laidByText := true, laidKinds := [.data, .data], laidTests := true, laidLooks := .later }
def UtextWordsCardSaid : Prop := Claim7.holds Tryd.pinned (.plain (OpenSpec.ofChange utextWordsSpec)) utextWordsCard

/-- THE TIED CARD OF 'redraftlaw01.UtextGoes'. -/
def utextGoesCard : Claim7 := { stood := { row := utextGoesRow, standIns := [], harness := (true, "75f59ca71a958aca81609d657382b0678d5b1a446d60e428384b720dd7c3db16"), looks := false }, kinds := [], alts := [], laidByText := true, laidKinds := [.data, .data], laidTests := true, laidLooks := .later }
def UtextGoesCardSaid : Prop := Claim7.holds Tryd.pinned (.plain (OpenSpec.ofChange utextGoesSpec)) utextGoesCard

/-- THE SECOND FORM's CARD OF 'redraftlaw01.UtextFirstFault'. -/
def utextFirstFaultUptoCard : Claim7 := { stood := { row := utextFirstFaultUptoRow, standIns := [], harness := (true, "75f59ca71a958aca81609d657382b0678d5b1a446d60e428384b720dd7c3db16"), looks := false }, kinds := [], alts := [], laidByText := true, laidKinds := [.data], laidTests := true, laidLooks := .later }
def UtextFirstFaultUptoCardSaid : Prop := Claim7.holds Tryd.pinned (.plain (OpenSpec.upto utextFirstFaultSpec)) utextFirstFaultUptoCard

/-- THE SECOND FORM's CARD OF 'redraftlaw01.UtextLetsIn'. -/
def utextLetsInUptoCard : Claim7 := { stood := { row := utextLetsInUptoRow, standIns := [], harness := (true, "75f59ca71a958aca81609d657382b0678d5b1a446d60e428384b720dd7c3db16"), looks := false }, kinds := [], alts := [], laidByText := true, laidKinds := [.data], laidTests := true, laidLooks := .later }
def UtextLetsInUptoCardSaid : Prop := Claim7.holds Tryd.pinned (.plain (OpenSpec.upto utextLetsInSpec)) utextLetsInUptoCard

/-- THE SECOND FORM's CARD OF 'redraftlaw01.UtextShortest'. -/
def utextShortestUptoCard : Claim7 := { stood := { row := utextShortestUptoRow, standIns := [], harness := (true, "75f59ca71a958aca81609d657382b0678d5b1a446d60e428384b720dd7c3db16"), looks := false }, kinds := [], alts := [], laidByText := true, laidKinds := [.data], laidTests := true, laidLooks := .later }
def UtextShortestUptoCardSaid : Prop := Claim7.holds Tryd.pinned (.plain (OpenSpec.upto utextShortestSpec)) utextShortestUptoCard

/-- THE SECOND FORM's CARD OF 'redraftlaw01.UtextPlacesMeet'. -/
def utextPlacesMeetUptoCard : Claim7 := { stood := { row := utextPlacesMeetUptoRow, standIns := [], harness := (true, "75f59ca71a958aca81609d657382b0678d5b1a446d60e428384b720dd7c3db16"), looks := false }, kinds := [], alts := [], laidByText := true, laidKinds := [.data], laidTests := true, laidLooks := .later }
def UtextPlacesMeetUptoCardSaid : Prop := Claim7.holds Tryd.pinned (.plain (OpenSpec.upto utextPlacesMeetSpec)) utextPlacesMeetUptoCard

/-- THE SECOND FORM's CARD OF 'redraftlaw01.UtextWords'. -/
def utextWordsUptoCard : Claim7 := { stood := { row := utextWordsUptoRow, standIns := [], harness := (true, "75f59ca71a958aca81609d657382b0678d5b1a446d60e428384b720dd7c3db16"), looks := false }, kinds := [], alts := [], laidByText := true, laidKinds := [.data, .data], laidTests := true, laidLooks := .later }
def UtextWordsUptoCardSaid : Prop := Claim7.holds Tryd.pinned (.plain (OpenSpec.upto utextWordsSpec)) utextWordsUptoCard

/-- THE SECOND FORM's CARD OF 'redraftlaw01.UtextGoes'. -/
def utextGoesUptoCard : Claim7 := { stood := { row := utextGoesUptoRow, standIns := [], harness := (true, "75f59ca71a958aca81609d657382b0678d5b1a446d60e428384b720dd7c3db16"), looks := false }, kinds := [], alts := [], laidByText := true, laidKinds := [.data, .data], laidTests := true, laidLooks := .later }
def UtextGoesUptoCardSaid : Prop := Claim7.holds Tryd.pinned (.plain (OpenSpec.upto utextGoesSpec)) utextGoesUptoCard
end Rows
end Go.Proofs.YtfakfmmngflbfaaDoor
