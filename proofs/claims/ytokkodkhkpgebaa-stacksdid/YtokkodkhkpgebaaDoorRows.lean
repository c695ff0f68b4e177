/-
  NARROWER THAN 'FOR EVERY INPUT', by the rows' own cells (each row's printed sentence says how): StacksDid: laid · StacksFollow: laid · StacksBack: laid.
  DERIVED. THE GIVEN ROWS OF THIS SEAT. 3 by the template 'for every input the law returns true; each argument reads behind the call as it read before'; 0 by the template 'total and deterministic' (their statements: YtokkodkhkpgebaaDoorTotals.lean).
  GIVEN WITH THE SEED: the statements are not yours to turn. If you find one false, say at which input.
  Laid BY PROGRAM, IN A SANDBOX (cutbox-rows.mjs): the forced cells as the released guide's own fill.sh prints them over the translation 094265920ff676b3… (all of the seat's roots in one cut). By AI agents, Wed Nov 11 2026. No macro, syntax, notation, axiom, sorry.
-/
import Derived.Test.YtokkodkhkpgebaaDoorChecked
import GoSem.Claim
import GoSem.ClaimJoined
import GoSem.ClaimMapViews
import Derived.JoinedTies
import Derived.KernelRfl
namespace Go.Proofs.YtokkodkhkpgebaaDoor
/- THE CELL 'sum', in the pinned program and in every row, IS THE sha256 OF THE DUMP (.gsa) THAT YtokkodkhkpgebaaDoorProg.lean LOADS. Nothing in Lean hashes anything: it is a label: what it is worth is what the hold of that sum in a sandbox is worth. -/
noncomputable def Tryd.pinned : Pinned := { name := "ytokkodkhkpgebaadoor", sum := "094265920ff676b31444c557a6c7daaa70e257de9a5819db45a867ee4d6d2742", checked := Tryd.checked }
namespace Rows
def none {H : Type} : Left H := { results := [], args := [] }

/- WHAT THE LISTED PACKAGE-LEVEL VARIABLES READ AS WHEN THE CALL BEGINS. Each datum BY PROGRAM (the guide's laid-datum.mjs) off the statement by which the dump's own 'gosem.cut.vars' lays the variable. In a bare row this is a premise. The card (YtokkodkhkpgebaaDoorCards.lean) ties it to the program's text. -/
def laid_redraft_utext_barred {H : Type} : DataW H := .agg [.agg [.lit (.int .i32 0), .lit (.int .i32 8)], .agg [.lit (.int .i32 11), .lit (.int .i32 31)], .agg [.lit (.int .i32 127), .lit (.int .i32 159)], .agg [.lit (.int .i32 64976), .lit (.int .i32 65007)], .agg [.lit (.int .i32 65279), .lit (.int .i32 65279)]]

/-- 'redraftlaw07.StacksDid': WHATEVER THE INPUT: true; the input reads as it did. -/
def stacksDidSpec : ChangeSpec := { name := "stacksDid", fn := fun _ => fun
  | [d] => { results := [.lit (.bool true)], args := [d] }
  | _ => none }
def stacksDidRow : OpenClaim := { program := "ytokkodkhkpgebaadoor", sum := "094265920ff676b31444c557a6c7daaa70e257de9a5819db45a867ee4d6d2742", func := "redraft/redraftlaw07.StacksDid", spec := "stacksDid", inPlace := ["slices.overlaps[redraft/history.state]"], unfollowed := true, recurses := true, named := ["redraft/utext.barred"], plainKeys := false, apart := false, laid := [("redraft/utext.barred", laid_redraft_utext_barred)] }
def StacksDidSaid : Prop := stacksDidRow.holds Tryd.pinned (OpenSpec.ofChange stacksDidSpec)

/-- ITS FALSE NEIGHBOUR: 'it returns false'. Refute it at one input. -/
def stacksDidWrong : ChangeSpec := { name := "stacksDid", fn := fun _ => fun
  | [d] => { results := [.lit (.bool false)], args := [d] }
  | _ => none }
def StacksDidWrongFalsely : Prop := stacksDidRow.holds Tryd.pinned (OpenSpec.ofChange stacksDidWrong)

/-- 'redraftlaw07.StacksFollow': WHATEVER THE INPUT: true; the input reads as it did. -/
def stacksFollowSpec : ChangeSpec := { name := "stacksFollow", fn := fun _ => fun
  | [d] => { results := [.lit (.bool true)], args := [d] }
  | _ => none }
def stacksFollowRow : OpenClaim := { program := "ytokkodkhkpgebaadoor", sum := "094265920ff676b31444c557a6c7daaa70e257de9a5819db45a867ee4d6d2742", func := "redraft/redraftlaw07.StacksFollow", spec := "stacksFollow", inPlace := ["slices.overlaps[redraft/history.state]"], unfollowed := true, recurses := true, named := ["redraft/utext.barred"], plainKeys := false, apart := false, laid := [("redraft/utext.barred", laid_redraft_utext_barred)] }
def StacksFollowSaid : Prop := stacksFollowRow.holds Tryd.pinned (OpenSpec.ofChange stacksFollowSpec)

/-- ITS FALSE NEIGHBOUR: 'it returns false'. Refute it at one input. -/
def stacksFollowWrong : ChangeSpec := { name := "stacksFollow", fn := fun _ => fun
  | [d] => { results := [.lit (.bool false)], args := [d] }
  | _ => none }
def StacksFollowWrongFalsely : Prop := stacksFollowRow.holds Tryd.pinned (OpenSpec.ofChange stacksFollowWrong)

/-- 'redraftlaw07.StacksBack': WHATEVER THE INPUT: true; the input reads as it did. -/
def stacksBackSpec : ChangeSpec := { name := "stacksBack", fn := fun _ => fun
  | [d1, d2] => { results := [.lit (.bool true)], args := [d1, d2] }
  | _ => none }
def stacksBackRow : OpenClaim := { program := "ytokkodkhkpgebaadoor", sum := "094265920ff676b31444c557a6c7daaa70e257de9a5819db45a867ee4d6d2742", func := "redraft/redraftlaw07.StacksBack", spec := "stacksBack", inPlace := ["slices.overlaps[redraft/history.state]"], unfollowed := true, recurses := true, named := ["redraft/utext.barred"], plainKeys := false, apart := false, laid := [("redraft/utext.barred", laid_redraft_utext_barred)] }
def StacksBackSaid : Prop := stacksBackRow.holds Tryd.pinned (OpenSpec.ofChange stacksBackSpec)

/-- ITS FALSE NEIGHBOUR: 'it returns false'. Refute it at one input. -/
def stacksBackWrong : ChangeSpec := { name := "stacksBack", fn := fun _ => fun
  | [d1, d2] => { results := [.lit (.bool false)], args := [d1, d2] }
  | _ => none }
def StacksBackWrongFalsely : Prop := stacksBackRow.holds Tryd.pinned (OpenSpec.ofChange stacksBackWrong)

/- THE SECOND FORM. 'bulk': how many values and letters a reading holds, each counted each time it is reached (what is shared counts as often as it is met; a slice's spare places count too). A statement '..UptoSaid' is the law's where the arguments, and the package variables that the reading takes, are together of bulk at most 1048576: NARROWER than '..Said'. Prove '..Said' where nothing that the law and all that it calls make is longer than what came in: it says more and counts as full. Else prove '..UptoSaid'. A law counts once. -/
mutual
def uptoBulk {H : Type} : DataW H → Nat
  | .lit (.string bytes) => bytes.length + 1
  | .lit _ => 1
  | .nil => 1
  | .ptr d => uptoBulk d + 1
  | .slice elems spare => uptoBulkAll elems + uptoBulkAll spare + 1
  | .agg parts => uptoBulkAll parts + 1
  | .iface _ d => uptoBulk d + 1
  | .map entries => uptoBulkEntries entries + 1
  | .held _ => 1
def uptoBulkAll {H : Type} : List (DataW H) → Nat
  | [] => 0
  | d :: r => uptoBulk d + uptoBulkAll r
def uptoBulkEntries {H : Type} : List (Lit × DataW H) → Nat
  | [] => 0
  | x :: r => uptoBulkEntry x + uptoBulkEntries r
def uptoBulkEntry {H : Type} : Lit × DataW H → Nat
  | (.string bytes, d) => bytes.length + uptoBulk d + 1
  | (_, d) => uptoBulk d + 1
 end
def uptoSmall : (H : Type) → List (DataW H) → Bool := fun _ ds => decide (uptoBulkAll ds ≤ 1048576)
def OpenSpec.upto (s : _root_.Go.ChangeSpec) : _root_.Go.OpenSpec := { _root_.Go.OpenSpec.ofChange s with cond := some uptoSmall }

/-- 'redraftlaw07.StacksDid', WHERE WHAT IT READS IS OF BULK AT MOST 1048576: true; the input reads as it did. -/
def stacksDidUptoRow : OpenClaim := { program := "ytokkodkhkpgebaadoor", sum := "094265920ff676b31444c557a6c7daaa70e257de9a5819db45a867ee4d6d2742", func := "redraft/redraftlaw07.StacksDid", spec := "stacksDid", inPlace := ["slices.overlaps[redraft/history.state]"], unfollowed := true, recurses := true, named := ["redraft/utext.barred"], plainKeys := false, apart := false, laid := [("redraft/utext.barred", laid_redraft_utext_barred)], narrowed := true }
def StacksDidUptoSaid : Prop := stacksDidUptoRow.holds Tryd.pinned (OpenSpec.upto stacksDidSpec)

/-- 'redraftlaw07.StacksFollow', WHERE WHAT IT READS IS OF BULK AT MOST 1048576: true; the input reads as it did. -/
def stacksFollowUptoRow : OpenClaim := { program := "ytokkodkhkpgebaadoor", sum := "094265920ff676b31444c557a6c7daaa70e257de9a5819db45a867ee4d6d2742", func := "redraft/redraftlaw07.StacksFollow", spec := "stacksFollow", inPlace := ["slices.overlaps[redraft/history.state]"], unfollowed := true, recurses := true, named := ["redraft/utext.barred"], plainKeys := false, apart := false, laid := [("redraft/utext.barred", laid_redraft_utext_barred)], narrowed := true }
def StacksFollowUptoSaid : Prop := stacksFollowUptoRow.holds Tryd.pinned (OpenSpec.upto stacksFollowSpec)

/-- 'redraftlaw07.StacksBack', WHERE WHAT IT READS IS OF BULK AT MOST 1048576: true; the input reads as it did. -/
def stacksBackUptoRow : OpenClaim := { program := "ytokkodkhkpgebaadoor", sum := "094265920ff676b31444c557a6c7daaa70e257de9a5819db45a867ee4d6d2742", func := "redraft/redraftlaw07.StacksBack", spec := "stacksBack", inPlace := ["slices.overlaps[redraft/history.state]"], unfollowed := true, recurses := true, named := ["redraft/utext.barred"], plainKeys := false, apart := false, laid := [("redraft/utext.barred", laid_redraft_utext_barred)], narrowed := true }
def StacksBackUptoSaid : Prop := stacksBackUptoRow.holds Tryd.pinned (OpenSpec.upto stacksBackSpec)

end Rows
end Go.Proofs.YtokkodkhkpgebaaDoor
