/-
  NARROWER THAN 'FOR EVERY INPUT', by the rows' own cells (each row's printed sentence says how): UtextFirstFault: laid · UtextLetsIn: laid · UtextShortest: laid · UtextPlacesMeet: laid · UtextWords: laid · UtextGoes: laid.
  DERIVED. THE GIVEN ROWS OF THIS SEAT. 6 by the template 'for every input the law returns true; each argument reads behind the call as it read before'; 0 by the template 'total and deterministic' (their statements: YtfakfmmngflbfaaDoorTotals.lean).
  GIVEN WITH THE SEED: the statements are not yours to turn. If you find one false, say at which input.
  Laid BY PROGRAM, IN A SANDBOX (cutbox-rows.mjs): the forced cells as the released guide's own fill.sh prints them over the translation ab80ec69b77e9c88… (all of the seat's roots in one cut). By AI agents, Wed Nov 11 2026. No macro, syntax, notation, axiom, sorry.
-/
import Derived.Test.YtfakfmmngflbfaaDoorChecked
import GoSem.Claim
import GoSem.ClaimJoined
import GoSem.ClaimMapViews
import Derived.JoinedTies
import Derived.KernelRfl
namespace Go.Proofs.YtfakfmmngflbfaaDoor
/- THE CELL 'sum', in the pinned program and in every row, IS THE sha256 OF THE DUMP (.gsa) THAT YtfakfmmngflbfaaDoorProg.lean LOADS. Nothing in Lean hashes anything: it is a label: what it is worth is what the hold of that sum in a sandbox is worth. -/
noncomputable def Tryd.pinned : Pinned := { name := "ytfakfmmngflbfaadoor", sum := "ab80ec69b77e9c88e8bebe2415cacdbacd6b3be3063216e2f319a7ec5c747aae", checked := Tryd.checked }
namespace Rows
def none {H : Type} : Left H := { results := [], args := [] }

/- WHAT THE LISTED PACKAGE-LEVEL VARIABLES READ AS WHEN THE CALL BEGINS. Each datum BY PROGRAM (the guide's laid-datum.mjs) off the statement by which the dump's own 'gosem.cut.vars' lays the variable. In a bare row this is a premise. The card (YtfakfmmngflbfaaDoorCards.lean) ties it to the program's text. -/
def laid_redraft_utext_barred {H : Type} : DataW H := .agg [.agg [.lit (.int .i32 0), .lit (.int .i32 8)], .agg [.lit (.int .i32 11), .lit (.int .i32 31)], .agg [.lit (.int .i32 127), .lit (.int .i32 159)], .agg [.lit (.int .i32 64976), .lit (.int .i32 65007)], .agg [.lit (.int .i32 65279), .lit (.int .i32 65279)]]
def laid_redraft_utext_walks {H : Type} : DataW H := .agg [.agg [.lit (.int .i64 0), .lit (.int .i64 (-1))], .agg [.lit (.int .i64 0), .lit (.int .i64 1)], .agg [.lit (.int .i64 1), .lit (.int .i64 (-1))], .agg [.lit (.int .i64 1), .lit (.int .i64 1)], .agg [.lit (.int .i64 2), .lit (.int .i64 (-1))], .agg [.lit (.int .i64 2), .lit (.int .i64 1)], .agg [.lit (.int .i64 3), .lit (.int .i64 (-1))], .agg [.lit (.int .i64 3), .lit (.int .i64 1)], .agg [.lit (.int .i64 4), .lit (.int .i64 (-1))], .agg [.lit (.int .i64 4), .lit (.int .i64 1)]]

/-- 'redraftlaw01.UtextFirstFault': WHATEVER THE INPUT: true; the input reads as it did. -/
def utextFirstFaultSpec : ChangeSpec := { name := "utextFirstFault", fn := fun _ => fun
  | [d] => { results := [.lit (.bool true)], args := [d] }
  | _ => none }
def utextFirstFaultRow : OpenClaim := { program := "ytfakfmmngflbfaadoor", sum := "ab80ec69b77e9c88e8bebe2415cacdbacd6b3be3063216e2f319a7ec5c747aae", func := "redraft/redraftlaw01.UtextFirstFault", spec := "utextFirstFault", named := ["redraft/utext.barred"], apart := false, laid := [("redraft/utext.barred", laid_redraft_utext_barred)] }
def UtextFirstFaultSaid : Prop := utextFirstFaultRow.holds Tryd.pinned (OpenSpec.ofChange utextFirstFaultSpec)

/-- ITS FALSE NEIGHBOUR: 'it returns false'. Refute it at one input. -/
def utextFirstFaultWrong : ChangeSpec := { name := "utextFirstFault", fn := fun _ => fun
  | [d] => { results := [.lit (.bool false)], args := [d] }
  | _ => none }
def UtextFirstFaultWrongFalsely : Prop := utextFirstFaultRow.holds Tryd.pinned (OpenSpec.ofChange utextFirstFaultWrong)

/-- 'redraftlaw01.UtextLetsIn': WHATEVER THE INPUT: true; the input reads as it did. -/
def utextLetsInSpec : ChangeSpec := { name := "utextLetsIn", fn := fun _ => fun
  | [d1, d2] => { results := [.lit (.bool true)], args := [d1, d2] }
  | _ => none }
def utextLetsInRow : OpenClaim := { program := "ytfakfmmngflbfaadoor", sum := "ab80ec69b77e9c88e8bebe2415cacdbacd6b3be3063216e2f319a7ec5c747aae", func := "redraft/redraftlaw01.UtextLetsIn", spec := "utextLetsIn", named := ["redraft/utext.barred"], apart := false, laid := [("redraft/utext.barred", laid_redraft_utext_barred)] }
def UtextLetsInSaid : Prop := utextLetsInRow.holds Tryd.pinned (OpenSpec.ofChange utextLetsInSpec)

/-- ITS FALSE NEIGHBOUR: 'it returns false'. Refute it at one input. -/
def utextLetsInWrong : ChangeSpec := { name := "utextLetsIn", fn := fun _ => fun
  | [d1, d2] => { results := [.lit (.bool false)], args := [d1, d2] }
  | _ => none }
def UtextLetsInWrongFalsely : Prop := utextLetsInRow.holds Tryd.pinned (OpenSpec.ofChange utextLetsInWrong)

/-- 'redraftlaw01.UtextShortest': WHATEVER THE INPUT: true; the input reads as it did. -/
def utextShortestSpec : ChangeSpec := { name := "utextShortest", fn := fun _ => fun
  | [d] => { results := [.lit (.bool true)], args := [d] }
  | _ => none }
def utextShortestRow : OpenClaim := { program := "ytfakfmmngflbfaadoor", sum := "ab80ec69b77e9c88e8bebe2415cacdbacd6b3be3063216e2f319a7ec5c747aae", func := "redraft/redraftlaw01.UtextShortest", spec := "utextShortest", named := ["redraft/utext.barred"], apart := false, laid := [("redraft/utext.barred", laid_redraft_utext_barred)] }
def UtextShortestSaid : Prop := utextShortestRow.holds Tryd.pinned (OpenSpec.ofChange utextShortestSpec)

/-- ITS FALSE NEIGHBOUR: 'it returns false'. Refute it at one input. -/
def utextShortestWrong : ChangeSpec := { name := "utextShortest", fn := fun _ => fun
  | [d] => { results := [.lit (.bool false)], args := [d] }
  | _ => none }
def UtextShortestWrongFalsely : Prop := utextShortestRow.holds Tryd.pinned (OpenSpec.ofChange utextShortestWrong)

/-- 'redraftlaw01.UtextPlacesMeet': WHATEVER THE INPUT: true; the input reads as it did. -/
def utextPlacesMeetSpec : ChangeSpec := { name := "utextPlacesMeet", fn := fun _ => fun
  | [d] => { results := [.lit (.bool true)], args := [d] }
  | _ => none }
def utextPlacesMeetRow : OpenClaim := { program := "ytfakfmmngflbfaadoor", sum := "ab80ec69b77e9c88e8bebe2415cacdbacd6b3be3063216e2f319a7ec5c747aae", func := "redraft/redraftlaw01.UtextPlacesMeet", spec := "utextPlacesMeet", named := ["redraft/utext.barred"], apart := false, laid := [("redraft/utext.barred", laid_redraft_utext_barred)] }
def UtextPlacesMeetSaid : Prop := utextPlacesMeetRow.holds Tryd.pinned (OpenSpec.ofChange utextPlacesMeetSpec)

/-- ITS FALSE NEIGHBOUR: 'it returns false'. Refute it at one input. -/
def utextPlacesMeetWrong : ChangeSpec := { name := "utextPlacesMeet", fn := fun _ => fun
  | [d] => { results := [.lit (.bool false)], args := [d] }
  | _ => none }
def UtextPlacesMeetWrongFalsely : Prop := utextPlacesMeetRow.holds Tryd.pinned (OpenSpec.ofChange utextPlacesMeetWrong)

/-- 'redraftlaw01.UtextWords': WHATEVER THE INPUT: true; the input reads as it did. -/
def utextWordsSpec : ChangeSpec := { name := "utextWords", fn := fun _ => fun
  | [d] => { results := [.lit (.bool true)], args := [d] }
  | _ => none }
def utextWordsRow : OpenClaim := { program := "ytfakfmmngflbfaadoor", sum := "ab80ec69b77e9c88e8bebe2415cacdbacd6b3be3063216e2f319a7ec5c747aae", func := "redraft/redraftlaw01.UtextWords", spec := "utextWords", unfollowed := true, recurses := true, named := ["redraft/utext.walks", "redraft/utext.barred"], apart := false, laid := [("redraft/utext.barred", laid_redraft_utext_barred), ("redraft/utext.walks", laid_redraft_utext_walks)] }
def UtextWordsSaid : Prop := utextWordsRow.holds Tryd.pinned (OpenSpec.ofChange utextWordsSpec)

/-- ITS FALSE NEIGHBOUR: 'it returns false'. Refute it at one input. -/
def utextWordsWrong : ChangeSpec := { name := "utextWords", fn := fun _ => fun
  | [d] => { results := [.lit (.bool false)], args := [d] }
  | _ => none }
def UtextWordsWrongFalsely : Prop := utextWordsRow.holds Tryd.pinned (OpenSpec.ofChange utextWordsWrong)

/-- 'redraftlaw01.UtextGoes': WHATEVER THE INPUT: true; the input reads as it did. -/
def utextGoesSpec : ChangeSpec := { name := "utextGoes", fn := fun _ => fun
  | [d] => { results := [.lit (.bool true)], args := [d] }
  | _ => none }
def utextGoesRow : OpenClaim := { program := "ytfakfmmngflbfaadoor", sum := "ab80ec69b77e9c88e8bebe2415cacdbacd6b3be3063216e2f319a7ec5c747aae", func := "redraft/redraftlaw01.UtextGoes", spec := "utextGoes", unfollowed := true, recurses := true, named := ["redraft/utext.walks", "redraft/utext.barred"], apart := false, laid := [("redraft/utext.barred", laid_redraft_utext_barred), ("redraft/utext.walks", laid_redraft_utext_walks)] }
def UtextGoesSaid : Prop := utextGoesRow.holds Tryd.pinned (OpenSpec.ofChange utextGoesSpec)

/-- ITS FALSE NEIGHBOUR: 'it returns false'. Refute it at one input. -/
def utextGoesWrong : ChangeSpec := { name := "utextGoes", fn := fun _ => fun
  | [d] => { results := [.lit (.bool false)], args := [d] }
  | _ => none }
def UtextGoesWrongFalsely : Prop := utextGoesRow.holds Tryd.pinned (OpenSpec.ofChange utextGoesWrong)

/- THE SECOND FORM. 'bulk': how many values and letters a reading holds, each counted each time it is reached (what is shared counts as often as it is met; a slice's spare places count too). A statement '..UptoSaid' is the law's where the arguments, and the package variables that the reading takes, are together of bulk at most 1048576: NARROWER than '..Said'. Prove '..Said' where nothing that the law and all that it calls make is longer than what came in: it says more and counts as full. Else prove '..UptoSaid'. A law counts once. -/
mutual
def uptoBulk {H : Type} : DataW H → Nat
  | .lit (.string bytes) => bytes.length + 1
  | .lit _ => 1
  | .nil => 1
  | .ptr d => uptoBulk d + 1
  | .slice elems spare => uptoBulkAll elems + uptoBulkAll spare + 1
  | .agg parts => uptoBulkAll parts + 1
  | .iface _ d => uptoBulk d + 1
  | .map entries => uptoBulkEntries entries + 1
  | .held _ => 1
def uptoBulkAll {H : Type} : List (DataW H) → Nat
  | [] => 0
  | d :: r => uptoBulk d + uptoBulkAll r
def uptoBulkEntries {H : Type} : List (Lit × DataW H) → Nat
  | [] => 0
  | x :: r => uptoBulkEntry x + uptoBulkEntries r
def uptoBulkEntry {H : Type} : Lit × DataW H → Nat
  | (.string bytes, d) => bytes.length + uptoBulk d + 1
  | (_, d) => uptoBulk d + 1
 end
def uptoSmall : (H : Type) → List (DataW H) → Bool := fun _ ds => decide (uptoBulkAll ds ≤ 1048576)
def OpenSpec.upto (s : _root_.Go.ChangeSpec) : _root_.Go.OpenSpec := { _root_.Go.OpenSpec.ofChange s with cond := some uptoSmall }

/-- 'redraftlaw01.UtextFirstFault', WHERE WHAT IT READS IS OF BULK AT MOST 1048576: true; the input reads as it did. -/
def utextFirstFaultUptoRow : OpenClaim := { program := "ytfakfmmngflbfaadoor", sum := "ab80ec69b77e9c88e8bebe2415cacdbacd6b3be3063216e2f319a7ec5c747aae", func := "redraft/redraftlaw01.UtextFirstFault", spec := "utextFirstFault", named := ["redraft/utext.barred"], apart := false, laid := [("redraft/utext.barred", laid_redraft_utext_barred)], narrowed := true }
def UtextFirstFaultUptoSaid : Prop := utextFirstFaultUptoRow.holds Tryd.pinned (OpenSpec.upto utextFirstFaultSpec)

/-- 'redraftlaw01.UtextLetsIn', WHERE WHAT IT READS IS OF BULK AT MOST 1048576: true; the input reads as it did. -/
def utextLetsInUptoRow : OpenClaim := { program := "ytfakfmmngflbfaadoor", sum := "ab80ec69b77e9c88e8bebe2415cacdbacd6b3be3063216e2f319a7ec5c747aae", func := "redraft/redraftlaw01.UtextLetsIn", spec := "utextLetsIn", named := ["redraft/utext.barred"], apart := false, laid := [("redraft/utext.barred", laid_redraft_utext_barred)], narrowed := true }
def UtextLetsInUptoSaid : Prop := utextLetsInUptoRow.holds Tryd.pinned (OpenSpec.upto utextLetsInSpec)

/-- 'redraftlaw01.UtextShortest', WHERE WHAT IT READS IS OF BULK AT MOST 1048576: true; the input reads as it did. -/
def utextShortestUptoRow : OpenClaim := { program := "ytfakfmmngflbfaadoor", sum := "ab80ec69b77e9c88e8bebe2415cacdbacd6b3be3063216e2f319a7ec5c747aae", func := "redraft/redraftlaw01.UtextShortest", spec := "utextShortest", named := ["redraft/utext.barred"], apart := false, laid := [("redraft/utext.barred", laid_redraft_utext_barred)], narrowed := true }
def UtextShortestUptoSaid : Prop := utextShortestUptoRow.holds Tryd.pinned (OpenSpec.upto utextShortestSpec)

/-- 'redraftlaw01.UtextPlacesMeet', WHERE WHAT IT READS IS OF BULK AT MOST 1048576: true; the input reads as it did. -/
def utextPlacesMeetUptoRow : OpenClaim := { program := "ytfakfmmngflbfaadoor", sum := "ab80ec69b77e9c88e8bebe2415cacdbacd6b3be3063216e2f319a7ec5c747aae", func := "redraft/redraftlaw01.UtextPlacesMeet", spec := "utextPlacesMeet", named := ["redraft/utext.barred"], apart := false, laid := [("redraft/utext.barred", laid_redraft_utext_barred)], narrowed := true }
def UtextPlacesMeetUptoSaid : Prop := utextPlacesMeetUptoRow.holds Tryd.pinned (OpenSpec.upto utextPlacesMeetSpec)

/-- 'redraftlaw01.UtextWords', WHERE WHAT IT READS IS OF BULK AT MOST 1048576: true; the input reads as it did. -/
def utextWordsUptoRow : OpenClaim := { program := "ytfakfmmngflbfaadoor", sum := "ab80ec69b77e9c88e8bebe2415cacdbacd6b3be3063216e2f319a7ec5c747aae", func := "redraft/redraftlaw01.UtextWords", spec := "utextWords", unfollowed := true, recurses := true, named := ["redraft/utext.walks", "redraft/utext.barred"], apart := false, laid := [("redraft/utext.barred", laid_redraft_utext_barred), ("redraft/utext.walks", laid_redraft_utext_walks)], narrowed := true }
def UtextWordsUptoSaid : Prop := utextWordsUptoRow.holds Tryd.pinned (OpenSpec.upto utextWordsSpec)

/-- 'redraftlaw01.UtextGoes', WHERE WHAT IT READS IS OF BULK AT MOST 1048576: true; the input reads as it did. -/
def utextGoesUptoRow : OpenClaim := { program := "ytfakfmmngflbfaadoor", sum := "ab80ec69b77e9c88e8bebe2415cacdbacd6b3be3063216e2f319a7ec5c747aae", func := "redraft/redraftlaw01.UtextGoes", spec := "utextGoes", unfollowed := true, recurses := true, named := ["redraft/utext.walks", "redraft/utext.barred"], apart := false, laid := [("redraft/utext.barred", laid_redraft_utext_barred), ("redraft/utext.walks", laid_redraft_utext_walks)], narrowed := true }
def UtextGoesUptoSaid : Prop := utextGoesUptoRow.holds Tryd.pinned (OpenSpec.upto utextGoesSpec)

end Rows
end Go.Proofs.YtfakfmmngflbfaaDoor
