/-
  NARROWER THAN 'FOR EVERY INPUT', by the rows' own cells (each row's printed sentence says how): RopeAdds: laid · RopeThrough: laid.
  DERIVED. THE GIVEN ROWS OF THIS SEAT. 2 by the template 'for every input the law returns true; each argument reads behind the call as it read before'; 0 by the template 'total and deterministic' (their statements: YtffkncohliollaaGreatDoorTotals.lean).
  GIVEN WITH THE SEED: the statements are not yours to turn. If you find one false, say at which input.
  Laid BY PROGRAM, IN A SANDBOX (cutbox-rows.mjs): the forced cells as the released guide's own fill.sh prints them over the translation adc5124c46fc1f21… (all of the seat's roots in one cut). By AI agents, Wed Nov 11 2026. No macro, syntax, notation, axiom, sorry.
-/
import Derived.Test.YtffkncohliollaaGreatDoorChecked
import GoSem.Claim
import GoSem.ClaimJoined
import GoSem.ClaimMapViews
import Derived.JoinedTies
import Derived.KernelRfl
namespace Go.Proofs.YtffkncohliollaaGreatDoor
/- THE CELL 'sum', in the pinned program and in every row, IS THE sha256 OF THE DUMP (.gsa) THAT YtffkncohliollaaGreatDoorProg.lean LOADS. Nothing in Lean hashes anything: it is a label: what it is worth is what the hold of that sum in a sandbox is worth. -/
noncomputable def Tryz.pinned : Pinned := { name := "ytffkncohliollaagreatdoor", sum := "adc5124c46fc1f21053eee97dc5cc63c5a5fe1c977f5f07f4338cc9668eb4d44", checked := Tryz.checked }
namespace Rows
def none {H : Type} : Left H := { results := [], args := [] }

/- WHAT THE LISTED PACKAGE-LEVEL VARIABLES READ AS WHEN THE CALL BEGINS. Each datum BY PROGRAM (the guide's laid-datum.mjs) off the statement by which the dump's own 'gosem.cut.vars' lays the variable. In a bare row this is a premise. The card (YtffkncohliollaaGreatDoorCards.lean) ties it to the program's text. -/
def laid_redraft_utext_barred {H : Type} : DataW H := .agg [.agg [.lit (.int .i32 0), .lit (.int .i32 8)], .agg [.lit (.int .i32 11), .lit (.int .i32 31)], .agg [.lit (.int .i32 127), .lit (.int .i32 159)], .agg [.lit (.int .i32 64976), .lit (.int .i32 65007)], .agg [.lit (.int .i32 65279), .lit (.int .i32 65279)]]

/-- 'redraftlaw03.RopeAdds': WHATEVER THE INPUT: true; the input reads as it did. -/
def ropeAddsSpec : ChangeSpec := { name := "ropeAdds", fn := fun _ => fun
  | [d1, d2, d3] => { results := [.lit (.bool true)], args := [d1, d2, d3] }
  | _ => none }
def ropeAddsRow : OpenClaim := { program := "ytffkncohliollaagreatdoor", sum := "adc5124c46fc1f21053eee97dc5cc63c5a5fe1c977f5f07f4338cc9668eb4d44", func := "redraft/redraftlaw03.RopeAdds", spec := "ropeAdds", inPlace := ["internal/abi.NoEscape"], unfollowed := true, recurses := true, named := ["redraft/utext.barred"], apart := false, laid := [("redraft/utext.barred", laid_redraft_utext_barred)] }
def RopeAddsSaid : Prop := ropeAddsRow.holds Tryz.pinned (OpenSpec.ofChange ropeAddsSpec)

/-- ITS FALSE NEIGHBOUR: 'it returns false'. Refute it at one input. -/
def ropeAddsWrong : ChangeSpec := { name := "ropeAdds", fn := fun _ => fun
  | [d1, d2, d3] => { results := [.lit (.bool false)], args := [d1, d2, d3] }
  | _ => none }
def RopeAddsWrongFalsely : Prop := ropeAddsRow.holds Tryz.pinned (OpenSpec.ofChange ropeAddsWrong)

/-- 'redraftlaw03.RopeThrough': WHATEVER THE INPUT: true; the input reads as it did. -/
def ropeThroughSpec : ChangeSpec := { name := "ropeThrough", fn := fun _ => fun
  | [d1, d2, d3, d4] => { results := [.lit (.bool true)], args := [d1, d2, d3, d4] }
  | _ => none }
def ropeThroughRow : OpenClaim := { program := "ytffkncohliollaagreatdoor", sum := "adc5124c46fc1f21053eee97dc5cc63c5a5fe1c977f5f07f4338cc9668eb4d44", func := "redraft/redraftlaw03.RopeThrough", spec := "ropeThrough", inPlace := ["internal/abi.NoEscape"], unfollowed := true, recurses := true, named := ["redraft/utext.barred"], apart := false, laid := [("redraft/utext.barred", laid_redraft_utext_barred)] }
def RopeThroughSaid : Prop := ropeThroughRow.holds Tryz.pinned (OpenSpec.ofChange ropeThroughSpec)

/-- ITS FALSE NEIGHBOUR: 'it returns false'. Refute it at one input. -/
def ropeThroughWrong : ChangeSpec := { name := "ropeThrough", fn := fun _ => fun
  | [d1, d2, d3, d4] => { results := [.lit (.bool false)], args := [d1, d2, d3, d4] }
  | _ => none }
def RopeThroughWrongFalsely : Prop := ropeThroughRow.holds Tryz.pinned (OpenSpec.ofChange ropeThroughWrong)

/- THE SECOND FORM. 'bulk': how many values and letters a reading holds, each counted each time it is reached (what is shared counts as often as it is met; a slice's spare places count too). A statement '..UptoSaid' is the law's where the arguments, and the package variables that the reading takes, are together of bulk at most 1048576: NARROWER than '..Said'. Prove '..Said' where nothing that the law and all that it calls make is longer than what came in: it says more and counts as full. Else prove '..UptoSaid'. A law counts once. -/
mutual
def uptoBulk {H : Type} : DataW H → Nat
  | .lit (.string bytes) => bytes.length + 1
  | .lit _ => 1
  | .nil => 1
  | .ptr d => uptoBulk d + 1
  | .slice elems spare => uptoBulkAll elems + uptoBulkAll spare + 1
  | .agg parts => uptoBulkAll parts + 1
  | .iface _ d => uptoBulk d + 1
  | .map entries => uptoBulkEntries entries + 1
  | .held _ => 1
def uptoBulkAll {H : Type} : List (DataW H) → Nat
  | [] => 0
  | d :: r => uptoBulk d + uptoBulkAll r
def uptoBulkEntries {H : Type} : List (Lit × DataW H) → Nat
  | [] => 0
  | x :: r => uptoBulkEntry x + uptoBulkEntries r
def uptoBulkEntry {H : Type} : Lit × DataW H → Nat
  | (.string bytes, d) => bytes.length + uptoBulk d + 1
  | (_, d) => uptoBulk d + 1
 end
def uptoSmall : (H : Type) → List (DataW H) → Bool := fun _ ds => decide (uptoBulkAll ds ≤ 1048576)
def OpenSpec.upto (s : _root_.Go.ChangeSpec) : _root_.Go.OpenSpec := { _root_.Go.OpenSpec.ofChange s with cond := some uptoSmall }

/-- 'redraftlaw03.RopeAdds', WHERE WHAT IT READS IS OF BULK AT MOST 1048576: true; the input reads as it did. -/
def ropeAddsUptoRow : OpenClaim := { program := "ytffkncohliollaagreatdoor", sum := "adc5124c46fc1f21053eee97dc5cc63c5a5fe1c977f5f07f4338cc9668eb4d44", func := "redraft/redraftlaw03.RopeAdds", spec := "ropeAdds", inPlace := ["internal/abi.NoEscape"], unfollowed := true, recurses := true, named := ["redraft/utext.barred"], apart := false, laid := [("redraft/utext.barred", laid_redraft_utext_barred)], narrowed := true }
def RopeAddsUptoSaid : Prop := ropeAddsUptoRow.holds Tryz.pinned (OpenSpec.upto ropeAddsSpec)

/-- 'redraftlaw03.RopeThrough', WHERE WHAT IT READS IS OF BULK AT MOST 1048576: true; the input reads as it did. -/
def ropeThroughUptoRow : OpenClaim := { program := "ytffkncohliollaagreatdoor", sum := "adc5124c46fc1f21053eee97dc5cc63c5a5fe1c977f5f07f4338cc9668eb4d44", func := "redraft/redraftlaw03.RopeThrough", spec := "ropeThrough", inPlace := ["internal/abi.NoEscape"], unfollowed := true, recurses := true, named := ["redraft/utext.barred"], apart := false, laid := [("redraft/utext.barred", laid_redraft_utext_barred)], narrowed := true }
def RopeThroughUptoSaid : Prop := ropeThroughUptoRow.holds Tryz.pinned (OpenSpec.upto ropeThroughSpec)

end Rows
end Go.Proofs.YtffkncohliollaaGreatDoor
