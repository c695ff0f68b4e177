/-
  NARROWER THAN 'FOR EVERY INPUT', by the rows' own cells (each row's printed sentence says how): XformCrosses: laid · XformBrings: laid.
  DERIVED. THE GIVEN ROWS OF THIS SEAT. 2 by the template 'for every input the law returns true; each argument reads behind the call as it read before'; 0 by the template 'total and deterministic' (their statements: YtmdnmhdimfglaaaGreatDoorTotals.lean).
  GIVEN WITH THE SEED: the statements are not yours to turn. If you find one false, say at which input.
  Laid BY PROGRAM, IN A SANDBOX (cutbox-rows.mjs): the forced cells as the released guide's own fill.sh prints them over the translation 018aefa80abd92f8… (all of the seat's roots in one cut). By AI agents, Wed Nov 11 2026. No macro, syntax, notation, axiom, sorry.
-/
import Derived.Test.YtmdnmhdimfglaaaGreatDoorChecked
import GoSem.Claim
import GoSem.ClaimJoined
import GoSem.ClaimMapViews
import Derived.JoinedTies
import Derived.KernelRfl
namespace Go.Proofs.YtmdnmhdimfglaaaGreatDoor
/- THE CELL 'sum', in the pinned program and in every row, IS THE sha256 OF THE DUMP (.gsa) THAT YtmdnmhdimfglaaaGreatDoorProg.lean LOADS. Nothing in Lean hashes anything: it is a label: what it is worth is what the hold of that sum in a sandbox is worth. -/
noncomputable def Tryz.pinned : Pinned := { name := "ytmdnmhdimfglaaagreatdoor", sum := "018aefa80abd92f8d6229e2177e34fe00b8fad90a44eca78c140ae6dc75e1bd4", checked := Tryz.checked }
namespace Rows
def none {H : Type} : Left H := { results := [], args := [] }

/- WHAT THE LISTED PACKAGE-LEVEL VARIABLES READ AS WHEN THE CALL BEGINS. Each datum BY PROGRAM (the guide's laid-datum.mjs) off the statement by which the dump's own 'gosem.cut.vars' lays the variable. In a bare row this is a premise. The card (YtmdnmhdimfglaaaGreatDoorCards.lean) ties it to the program's text. -/
def laid_redraft_utext_barred {H : Type} : DataW H := .agg [.agg [.lit (.int .i32 0), .lit (.int .i32 8)], .agg [.lit (.int .i32 11), .lit (.int .i32 31)], .agg [.lit (.int .i32 127), .lit (.int .i32 159)], .agg [.lit (.int .i32 64976), .lit (.int .i32 65007)], .agg [.lit (.int .i32 65279), .lit (.int .i32 65279)]]

/-- 'redraftlaw05.XformCrosses': WHATEVER THE INPUT: true; the input reads as it did. -/
def xformCrossesSpec : ChangeSpec := { name := "xformCrosses", fn := fun _ => fun
  | [d] => { results := [.lit (.bool true)], args := [d] }
  | _ => none }
def xformCrossesRow : OpenClaim := { program := "ytmdnmhdimfglaaagreatdoor", sum := "018aefa80abd92f8d6229e2177e34fe00b8fad90a44eca78c140ae6dc75e1bd4", func := "redraft/redraftlaw05.XformCrosses", spec := "xformCrosses", recurses := true, named := ["redraft/utext.barred"], apart := false, laid := [("redraft/utext.barred", laid_redraft_utext_barred)] }
def XformCrossesSaid : Prop := xformCrossesRow.holds Tryz.pinned (OpenSpec.ofChange xformCrossesSpec)

/-- ITS FALSE NEIGHBOUR: 'it returns false'. Refute it at one input. -/
def xformCrossesWrong : ChangeSpec := { name := "xformCrosses", fn := fun _ => fun
  | [d] => { results := [.lit (.bool false)], args := [d] }
  | _ => none }
def XformCrossesWrongFalsely : Prop := xformCrossesRow.holds Tryz.pinned (OpenSpec.ofChange xformCrossesWrong)

/-- 'redraftlaw05.XformBrings': WHATEVER THE INPUT: true; the input reads as it did. -/
def xformBringsSpec : ChangeSpec := { name := "xformBrings", fn := fun _ => fun
  | [d] => { results := [.lit (.bool true)], args := [d] }
  | _ => none }
def xformBringsRow : OpenClaim := { program := "ytmdnmhdimfglaaagreatdoor", sum := "018aefa80abd92f8d6229e2177e34fe00b8fad90a44eca78c140ae6dc75e1bd4", func := "redraft/redraftlaw05.XformBrings", spec := "xformBrings", recurses := true, named := ["redraft/utext.barred"], apart := false, laid := [("redraft/utext.barred", laid_redraft_utext_barred)] }
def XformBringsSaid : Prop := xformBringsRow.holds Tryz.pinned (OpenSpec.ofChange xformBringsSpec)

/-- ITS FALSE NEIGHBOUR: 'it returns false'. Refute it at one input. -/
def xformBringsWrong : ChangeSpec := { name := "xformBrings", fn := fun _ => fun
  | [d] => { results := [.lit (.bool false)], args := [d] }
  | _ => none }
def XformBringsWrongFalsely : Prop := xformBringsRow.holds Tryz.pinned (OpenSpec.ofChange xformBringsWrong)

/- THE SECOND FORM. 'bulk': how many values and letters a reading holds, each counted each time it is reached (what is shared counts as often as it is met; a slice's spare places count too). A statement '..UptoSaid' is the law's where the arguments, and the package variables that the reading takes, are together of bulk at most 1048576: NARROWER than '..Said'. Prove '..Said' where nothing that the law and all that it calls make is longer than what came in: it says more and counts as full. Else prove '..UptoSaid'. A law counts once. -/
mutual
def uptoBulk {H : Type} : DataW H → Nat
  | .lit (.string bytes) => bytes.length + 1
  | .lit _ => 1
  | .nil => 1
  | .ptr d => uptoBulk d + 1
  | .slice elems spare => uptoBulkAll elems + uptoBulkAll spare + 1
  | .agg parts => uptoBulkAll parts + 1
  | .iface _ d => uptoBulk d + 1
  | .map entries => uptoBulkEntries entries + 1
  | .held _ => 1
def uptoBulkAll {H : Type} : List (DataW H) → Nat
  | [] => 0
  | d :: r => uptoBulk d + uptoBulkAll r
def uptoBulkEntries {H : Type} : List (Lit × DataW H) → Nat
  | [] => 0
  | x :: r => uptoBulkEntry x + uptoBulkEntries r
def uptoBulkEntry {H : Type} : Lit × DataW H → Nat
  | (.string bytes, d) => bytes.length + uptoBulk d + 1
  | (_, d) => uptoBulk d + 1
 end
def uptoSmall : (H : Type) → List (DataW H) → Bool := fun _ ds => decide (uptoBulkAll ds ≤ 1048576)
def OpenSpec.upto (s : _root_.Go.ChangeSpec) : _root_.Go.OpenSpec := { _root_.Go.OpenSpec.ofChange s with cond := some uptoSmall }

/-- 'redraftlaw05.XformCrosses', WHERE WHAT IT READS IS OF BULK AT MOST 1048576: true; the input reads as it did. -/
def xformCrossesUptoRow : OpenClaim := { program := "ytmdnmhdimfglaaagreatdoor", sum := "018aefa80abd92f8d6229e2177e34fe00b8fad90a44eca78c140ae6dc75e1bd4", func := "redraft/redraftlaw05.XformCrosses", spec := "xformCrosses", recurses := true, named := ["redraft/utext.barred"], apart := false, laid := [("redraft/utext.barred", laid_redraft_utext_barred)], narrowed := true }
def XformCrossesUptoSaid : Prop := xformCrossesUptoRow.holds Tryz.pinned (OpenSpec.upto xformCrossesSpec)

/-- 'redraftlaw05.XformBrings', WHERE WHAT IT READS IS OF BULK AT MOST 1048576: true; the input reads as it did. -/
def xformBringsUptoRow : OpenClaim := { program := "ytmdnmhdimfglaaagreatdoor", sum := "018aefa80abd92f8d6229e2177e34fe00b8fad90a44eca78c140ae6dc75e1bd4", func := "redraft/redraftlaw05.XformBrings", spec := "xformBrings", recurses := true, named := ["redraft/utext.barred"], apart := false, laid := [("redraft/utext.barred", laid_redraft_utext_barred)], narrowed := true }
def XformBringsUptoSaid : Prop := xformBringsUptoRow.holds Tryz.pinned (OpenSpec.upto xformBringsSpec)

end Rows
end Go.Proofs.YtmdnmhdimfglaaaGreatDoor
