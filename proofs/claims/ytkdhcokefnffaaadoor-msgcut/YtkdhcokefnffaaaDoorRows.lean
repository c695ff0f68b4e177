/-
  NARROWER THAN 'FOR EVERY INPUT', by the rows' own cells (each row's printed sentence says how): MsgNames: laid · MsgShortest: laid · MsgCut: laid.
  DERIVED. THE GIVEN ROWS OF THIS SEAT. 3 by the template 'for every input the law returns true; each argument reads behind the call as it read before'; 0 by the template 'total and deterministic' (their statements: YtkdhcokefnffaaaDoorTotals.lean).
  GIVEN WITH THE SEED: the statements are not yours to turn. If you find one false, say at which input.
  Laid BY PROGRAM, IN A SANDBOX (cutbox-rows.mjs): the forced cells as the released guide's own fill.sh prints them over the translation 84dd8803e6a84189… (all of the seat's roots in one cut). By AI agents, Wed Nov 11 2026. No macro, syntax, notation, axiom, sorry.
-/
import Derived.Test.YtkdhcokefnffaaaDoorChecked
import GoSem.Claim
import GoSem.ClaimJoined
import GoSem.ClaimMapViews
import Derived.JoinedTies
import Derived.KernelRfl
namespace Go.Proofs.YtkdhcokefnffaaaDoor
/- THE CELL 'sum', in the pinned program and in every row, IS THE sha256 OF THE DUMP (.gsa) THAT YtkdhcokefnffaaaDoorProg.lean LOADS. Nothing in Lean hashes anything: it is a label: what it is worth is what the hold of that sum in a sandbox is worth. -/
noncomputable def Tryd.pinned : Pinned := { name := "ytkdhcokefnffaaadoor", sum := "84dd8803e6a84189988ab4ad07188ba1ae3e5d8d74bd546a84b78ba838b78814", checked := Tryd.checked }
namespace Rows
def none {H : Type} : Left H := { results := [], args := [] }

/- WHAT THE LISTED PACKAGE-LEVEL VARIABLES READ AS WHEN THE CALL BEGINS. Each datum BY PROGRAM (the guide's laid-datum.mjs) off the statement by which the dump's own 'gosem.cut.vars' lays the variable. In a bare row this is a premise. The card (YtkdhcokefnffaaaDoorCards.lean) ties it to the program's text. -/
def laid_redraft_utext_barred {H : Type} : DataW H := .agg [.agg [.lit (.int .i32 0), .lit (.int .i32 8)], .agg [.lit (.int .i32 11), .lit (.int .i32 31)], .agg [.lit (.int .i32 127), .lit (.int .i32 159)], .agg [.lit (.int .i32 64976), .lit (.int .i32 65007)], .agg [.lit (.int .i32 65279), .lit (.int .i32 65279)]]

/-- 'redraftlaw10.MsgNames': WHATEVER THE INPUT: true; the input reads as it did. -/
def msgNamesSpec : ChangeSpec := { name := "msgNames", fn := fun _ => fun
  | [] => { results := [.lit (.bool true)], args := [] }
  | _ => none }
def msgNamesRow : OpenClaim := { program := "ytkdhcokefnffaaadoor", sum := "84dd8803e6a84189988ab4ad07188ba1ae3e5d8d74bd546a84b78ba838b78814", func := "redraft/redraftlaw10.MsgNames", spec := "msgNames", unfollowed := true, recurses := true, named := ["redraft/utext.barred"], apart := false, laid := [("redraft/utext.barred", laid_redraft_utext_barred)] }
def MsgNamesSaid : Prop := msgNamesRow.holds Tryd.pinned (OpenSpec.ofChange msgNamesSpec)

/-- ITS FALSE NEIGHBOUR: 'it returns false'. Refute it at one input. -/
def msgNamesWrong : ChangeSpec := { name := "msgNames", fn := fun _ => fun
  | [] => { results := [.lit (.bool false)], args := [] }
  | _ => none }
def MsgNamesWrongFalsely : Prop := msgNamesRow.holds Tryd.pinned (OpenSpec.ofChange msgNamesWrong)

/-- 'redraftlaw10.MsgShortest': WHATEVER THE INPUT: true; the input reads as it did. -/
def msgShortestSpec : ChangeSpec := { name := "msgShortest", fn := fun _ => fun
  | [d] => { results := [.lit (.bool true)], args := [d] }
  | _ => none }
def msgShortestRow : OpenClaim := { program := "ytkdhcokefnffaaadoor", sum := "84dd8803e6a84189988ab4ad07188ba1ae3e5d8d74bd546a84b78ba838b78814", func := "redraft/redraftlaw10.MsgShortest", spec := "msgShortest", unfollowed := true, recurses := true, named := ["redraft/utext.barred"], apart := false, laid := [("redraft/utext.barred", laid_redraft_utext_barred)] }
def MsgShortestSaid : Prop := msgShortestRow.holds Tryd.pinned (OpenSpec.ofChange msgShortestSpec)

/-- ITS FALSE NEIGHBOUR: 'it returns false'. Refute it at one input. -/
def msgShortestWrong : ChangeSpec := { name := "msgShortest", fn := fun _ => fun
  | [d] => { results := [.lit (.bool false)], args := [d] }
  | _ => none }
def MsgShortestWrongFalsely : Prop := msgShortestRow.holds Tryd.pinned (OpenSpec.ofChange msgShortestWrong)

/-- 'redraftlaw10.MsgCut': WHATEVER THE INPUT: true; the input reads as it did. -/
def msgCutSpec : ChangeSpec := { name := "msgCut", fn := fun _ => fun
  | [d] => { results := [.lit (.bool true)], args := [d] }
  | _ => none }
def msgCutRow : OpenClaim := { program := "ytkdhcokefnffaaadoor", sum := "84dd8803e6a84189988ab4ad07188ba1ae3e5d8d74bd546a84b78ba838b78814", func := "redraft/redraftlaw10.MsgCut", spec := "msgCut", unfollowed := true, recurses := true, named := ["redraft/utext.barred"], apart := false, laid := [("redraft/utext.barred", laid_redraft_utext_barred)] }
def MsgCutSaid : Prop := msgCutRow.holds Tryd.pinned (OpenSpec.ofChange msgCutSpec)

/-- ITS FALSE NEIGHBOUR: 'it returns false'. Refute it at one input. -/
def msgCutWrong : ChangeSpec := { name := "msgCut", fn := fun _ => fun
  | [d] => { results := [.lit (.bool false)], args := [d] }
  | _ => none }
def MsgCutWrongFalsely : Prop := msgCutRow.holds Tryd.pinned (OpenSpec.ofChange msgCutWrong)

/- THE SECOND FORM. 'bulk': how many values and letters a reading holds, each counted each time it is reached (what is shared counts as often as it is met; a slice's spare places count too). A statement '..UptoSaid' is the law's where the arguments, and the package variables that the reading takes, are together of bulk at most 1048576: NARROWER than '..Said'. Prove '..Said' where nothing that the law and all that it calls make is longer than what came in: it says more and counts as full. Else prove '..UptoSaid'. A law counts once. -/
mutual
def uptoBulk {H : Type} : DataW H → Nat
  | .lit (.string bytes) => bytes.length + 1
  | .lit _ => 1
  | .nil => 1
  | .ptr d => uptoBulk d + 1
  | .slice elems spare => uptoBulkAll elems + uptoBulkAll spare + 1
  | .agg parts => uptoBulkAll parts + 1
  | .iface _ d => uptoBulk d + 1
  | .map entries => uptoBulkEntries entries + 1
  | .held _ => 1
def uptoBulkAll {H : Type} : List (DataW H) → Nat
  | [] => 0
  | d :: r => uptoBulk d + uptoBulkAll r
def uptoBulkEntries {H : Type} : List (Lit × DataW H) → Nat
  | [] => 0
  | x :: r => uptoBulkEntry x + uptoBulkEntries r
def uptoBulkEntry {H : Type} : Lit × DataW H → Nat
  | (.string bytes, d) => bytes.length + uptoBulk d + 1
  | (_, d) => uptoBulk d + 1
 end
def uptoSmall : (H : Type) → List (DataW H) → Bool := fun _ ds => decide (uptoBulkAll ds ≤ 1048576)
def OpenSpec.upto (s : _root_.Go.ChangeSpec) : _root_.Go.OpenSpec := { _root_.Go.OpenSpec.ofChange s with cond := some uptoSmall }

/-- 'redraftlaw10.MsgNames', WHERE WHAT IT READS IS OF BULK AT MOST 1048576: true; the input reads as it did. -/
def msgNamesUptoRow : OpenClaim := { program := "ytkdhcokefnffaaadoor", sum := "84dd8803e6a84189988ab4ad07188ba1ae3e5d8d74bd546a84b78ba838b78814", func := "redraft/redraftlaw10.MsgNames", spec := "msgNames", unfollowed := true, recurses := true, named := ["redraft/utext.barred"], apart := false, laid := [("redraft/utext.barred", laid_redraft_utext_barred)], narrowed := true }
def MsgNamesUptoSaid : Prop := msgNamesUptoRow.holds Tryd.pinned (OpenSpec.upto msgNamesSpec)

/-- 'redraftlaw10.MsgShortest', WHERE WHAT IT READS IS OF BULK AT MOST 1048576: true; the input reads as it did. -/
def msgShortestUptoRow : OpenClaim := { program := "ytkdhcokefnffaaadoor", sum := "84dd8803e6a84189988ab4ad07188ba1ae3e5d8d74bd546a84b78ba838b78814", func := "redraft/redraftlaw10.MsgShortest", spec := "msgShortest", unfollowed := true, recurses := true, named := ["redraft/utext.barred"], apart := false, laid := [("redraft/utext.barred", laid_redraft_utext_barred)], narrowed := true }
def MsgShortestUptoSaid : Prop := msgShortestUptoRow.holds Tryd.pinned (OpenSpec.upto msgShortestSpec)

/-- 'redraftlaw10.MsgCut', WHERE WHAT IT READS IS OF BULK AT MOST 1048576: true; the input reads as it did. -/
def msgCutUptoRow : OpenClaim := { program := "ytkdhcokefnffaaadoor", sum := "84dd8803e6a84189988ab4ad07188ba1ae3e5d8d74bd546a84b78ba838b78814", func := "redraft/redraftlaw10.MsgCut", spec := "msgCut", unfollowed := true, recurses := true, named := ["redraft/utext.barred"], apart := false, laid := [("redraft/utext.barred", laid_redraft_utext_barred)], narrowed := true }
def MsgCutUptoSaid : Prop := msgCutUptoRow.holds Tryd.pinned (OpenSpec.upto msgCutSpec)

end Rows
end Go.Proofs.YtkdhcokefnffaaaDoor
