/-
  NARROWER THAN 'FOR EVERY INPUT', by the rows' own cells (each row's printed sentence says how): XformCarets: laid · XformIncludes: laid · XformExcludes: laid · XformTransposes: laid · XformOvers: laid · XformAll: laid.
  DERIVED. THE GIVEN ROWS OF THIS SEAT. 6 by the template 'for every input the law returns true; each argument reads behind the call as it read before'; 0 by the template 'total and deterministic' (their statements: YtmeciikfnbbllaaGreatDoorTotals.lean).
  GIVEN WITH THE SEED: the statements are not yours to turn. If you find one false, say at which input.
  Laid BY PROGRAM, IN A SANDBOX (cutbox-rows.mjs): the forced cells as the released guide's own fill.sh prints them over the translation 62dcc7d624b383e3… (all of the seat's roots in one cut). By AI agents, Wed Nov 11 2026. No macro, syntax, notation, axiom, sorry.
-/
import Derived.Test.YtmeciikfnbbllaaGreatDoorChecked
import GoSem.Claim
import GoSem.ClaimJoined
import GoSem.ClaimMapViews
import Derived.JoinedTies
import Derived.KernelRfl
namespace Go.Proofs.YtmeciikfnbbllaaGreatDoor
/- THE CELL 'sum', in the pinned program and in every row, IS THE sha256 OF THE DUMP (.gsa) THAT YtmeciikfnbbllaaGreatDoorProg.lean LOADS. Nothing in Lean hashes anything: it is a label: what it is worth is what the hold of that sum in a sandbox is worth. -/
noncomputable def Tryz.pinned : Pinned := { name := "ytmeciikfnbbllaagreatdoor", sum := "62dcc7d624b383e391f05cf218f186ed5f4dbb8390829a50832b76a04ec9565f", checked := Tryz.checked }
namespace Rows
def none {H : Type} : Left H := { results := [], args := [] }

/- WHAT THE LISTED PACKAGE-LEVEL VARIABLES READ AS WHEN THE CALL BEGINS. Each datum BY PROGRAM (the guide's laid-datum.mjs) off the statement by which the dump's own 'gosem.cut.vars' lays the variable. In a bare row this is a premise. The card (YtmeciikfnbbllaaGreatDoorCards.lean) ties it to the program's text. -/
def laid_redraft_utext_barred {H : Type} : DataW H := .agg [.agg [.lit (.int .i32 0), .lit (.int .i32 8)], .agg [.lit (.int .i32 11), .lit (.int .i32 31)], .agg [.lit (.int .i32 127), .lit (.int .i32 159)], .agg [.lit (.int .i32 64976), .lit (.int .i32 65007)], .agg [.lit (.int .i32 65279), .lit (.int .i32 65279)]]

/-- 'redraftlaw05.XformCarets': WHATEVER THE INPUT: true; the input reads as it did. -/
def xformCaretsSpec : ChangeSpec := { name := "xformCarets", fn := fun _ => fun
  | [d] => { results := [.lit (.bool true)], args := [d] }
  | _ => none }
def xformCaretsRow : OpenClaim := { program := "ytmeciikfnbbllaagreatdoor", sum := "62dcc7d624b383e391f05cf218f186ed5f4dbb8390829a50832b76a04ec9565f", func := "redraft/redraftlaw05.XformCarets", spec := "xformCarets", recurses := true, named := ["redraft/utext.barred"], apart := false, laid := [("redraft/utext.barred", laid_redraft_utext_barred)] }
def XformCaretsSaid : Prop := xformCaretsRow.holds Tryz.pinned (OpenSpec.ofChange xformCaretsSpec)

/-- ITS FALSE NEIGHBOUR: 'it returns false'. Refute it at one input. -/
def xformCaretsWrong : ChangeSpec := { name := "xformCarets", fn := fun _ => fun
  | [d] => { results := [.lit (.bool false)], args := [d] }
  | _ => none }
def XformCaretsWrongFalsely : Prop := xformCaretsRow.holds Tryz.pinned (OpenSpec.ofChange xformCaretsWrong)

/-- 'redraftlaw05.XformIncludes': WHATEVER THE INPUT: true; the input reads as it did. -/
def xformIncludesSpec : ChangeSpec := { name := "xformIncludes", fn := fun _ => fun
  | [d] => { results := [.lit (.bool true)], args := [d] }
  | _ => none }
def xformIncludesRow : OpenClaim := { program := "ytmeciikfnbbllaagreatdoor", sum := "62dcc7d624b383e391f05cf218f186ed5f4dbb8390829a50832b76a04ec9565f", func := "redraft/redraftlaw05.XformIncludes", spec := "xformIncludes", recurses := true, named := ["redraft/utext.barred"], apart := false, laid := [("redraft/utext.barred", laid_redraft_utext_barred)] }
def XformIncludesSaid : Prop := xformIncludesRow.holds Tryz.pinned (OpenSpec.ofChange xformIncludesSpec)

/-- ITS FALSE NEIGHBOUR: 'it returns false'. Refute it at one input. -/
def xformIncludesWrong : ChangeSpec := { name := "xformIncludes", fn := fun _ => fun
  | [d] => { results := [.lit (.bool false)], args := [d] }
  | _ => none }
def XformIncludesWrongFalsely : Prop := xformIncludesRow.holds Tryz.pinned (OpenSpec.ofChange xformIncludesWrong)

/-- 'redraftlaw05.XformExcludes': WHATEVER THE INPUT: true; the input reads as it did. -/
def xformExcludesSpec : ChangeSpec := { name := "xformExcludes", fn := fun _ => fun
  | [d] => { results := [.lit (.bool true)], args := [d] }
  | _ => none }
def xformExcludesRow : OpenClaim := { program := "ytmeciikfnbbllaagreatdoor", sum := "62dcc7d624b383e391f05cf218f186ed5f4dbb8390829a50832b76a04ec9565f", func := "redraft/redraftlaw05.XformExcludes", spec := "xformExcludes", recurses := true, named := ["redraft/utext.barred"], apart := false, laid := [("redraft/utext.barred", laid_redraft_utext_barred)] }
def XformExcludesSaid : Prop := xformExcludesRow.holds Tryz.pinned (OpenSpec.ofChange xformExcludesSpec)

/-- ITS FALSE NEIGHBOUR: 'it returns false'. Refute it at one input. -/
def xformExcludesWrong : ChangeSpec := { name := "xformExcludes", fn := fun _ => fun
  | [d] => { results := [.lit (.bool false)], args := [d] }
  | _ => none }
def XformExcludesWrongFalsely : Prop := xformExcludesRow.holds Tryz.pinned (OpenSpec.ofChange xformExcludesWrong)

/-- 'redraftlaw05.XformTransposes': WHATEVER THE INPUT: true; the input reads as it did. -/
def xformTransposesSpec : ChangeSpec := { name := "xformTransposes", fn := fun _ => fun
  | [d] => { results := [.lit (.bool true)], args := [d] }
  | _ => none }
def xformTransposesRow : OpenClaim := { program := "ytmeciikfnbbllaagreatdoor", sum := "62dcc7d624b383e391f05cf218f186ed5f4dbb8390829a50832b76a04ec9565f", func := "redraft/redraftlaw05.XformTransposes", spec := "xformTransposes", recurses := true, named := ["redraft/utext.barred"], apart := false, laid := [("redraft/utext.barred", laid_redraft_utext_barred)] }
def XformTransposesSaid : Prop := xformTransposesRow.holds Tryz.pinned (OpenSpec.ofChange xformTransposesSpec)

/-- ITS FALSE NEIGHBOUR: 'it returns false'. Refute it at one input. -/
def xformTransposesWrong : ChangeSpec := { name := "xformTransposes", fn := fun _ => fun
  | [d] => { results := [.lit (.bool false)], args := [d] }
  | _ => none }
def XformTransposesWrongFalsely : Prop := xformTransposesRow.holds Tryz.pinned (OpenSpec.ofChange xformTransposesWrong)

/-- 'redraftlaw05.XformOvers': WHATEVER THE INPUT: true; the input reads as it did. -/
def xformOversSpec : ChangeSpec := { name := "xformOvers", fn := fun _ => fun
  | [d] => { results := [.lit (.bool true)], args := [d] }
  | _ => none }
def xformOversRow : OpenClaim := { program := "ytmeciikfnbbllaagreatdoor", sum := "62dcc7d624b383e391f05cf218f186ed5f4dbb8390829a50832b76a04ec9565f", func := "redraft/redraftlaw05.XformOvers", spec := "xformOvers", recurses := true, named := ["redraft/utext.barred"], apart := false, laid := [("redraft/utext.barred", laid_redraft_utext_barred)] }
def XformOversSaid : Prop := xformOversRow.holds Tryz.pinned (OpenSpec.ofChange xformOversSpec)

/-- ITS FALSE NEIGHBOUR: 'it returns false'. Refute it at one input. -/
def xformOversWrong : ChangeSpec := { name := "xformOvers", fn := fun _ => fun
  | [d] => { results := [.lit (.bool false)], args := [d] }
  | _ => none }
def XformOversWrongFalsely : Prop := xformOversRow.holds Tryz.pinned (OpenSpec.ofChange xformOversWrong)

/-- 'redraftlaw05.XformAll': WHATEVER THE INPUT: true; the input reads as it did. -/
def xformAllSpec : ChangeSpec := { name := "xformAll", fn := fun _ => fun
  | [d] => { results := [.lit (.bool true)], args := [d] }
  | _ => none }
def xformAllRow : OpenClaim := { program := "ytmeciikfnbbllaagreatdoor", sum := "62dcc7d624b383e391f05cf218f186ed5f4dbb8390829a50832b76a04ec9565f", func := "redraft/redraftlaw05.XformAll", spec := "xformAll", recurses := true, named := ["redraft/utext.barred"], apart := false, laid := [("redraft/utext.barred", laid_redraft_utext_barred)] }
def XformAllSaid : Prop := xformAllRow.holds Tryz.pinned (OpenSpec.ofChange xformAllSpec)

/-- ITS FALSE NEIGHBOUR: 'it returns false'. Refute it at one input. -/
def xformAllWrong : ChangeSpec := { name := "xformAll", fn := fun _ => fun
  | [d] => { results := [.lit (.bool false)], args := [d] }
  | _ => none }
def XformAllWrongFalsely : Prop := xformAllRow.holds Tryz.pinned (OpenSpec.ofChange xformAllWrong)

/- THE SECOND FORM. 'bulk': how many values and letters a reading holds, each counted each time it is reached (what is shared counts as often as it is met; a slice's spare places count too). A statement '..UptoSaid' is the law's where the arguments, and the package variables that the reading takes, are together of bulk at most 1048576: NARROWER than '..Said'. Prove '..Said' where nothing that the law and all that it calls make is longer than what came in: it says more and counts as full. Else prove '..UptoSaid'. A law counts once. -/
mutual
def uptoBulk {H : Type} : DataW H → Nat
  | .lit (.string bytes) => bytes.length + 1
  | .lit _ => 1
  | .nil => 1
  | .ptr d => uptoBulk d + 1
  | .slice elems spare => uptoBulkAll elems + uptoBulkAll spare + 1
  | .agg parts => uptoBulkAll parts + 1
  | .iface _ d => uptoBulk d + 1
  | .map entries => uptoBulkEntries entries + 1
  | .held _ => 1
def uptoBulkAll {H : Type} : List (DataW H) → Nat
  | [] => 0
  | d :: r => uptoBulk d + uptoBulkAll r
def uptoBulkEntries {H : Type} : List (Lit × DataW H) → Nat
  | [] => 0
  | x :: r => uptoBulkEntry x + uptoBulkEntries r
def uptoBulkEntry {H : Type} : Lit × DataW H → Nat
  | (.string bytes, d) => bytes.length + uptoBulk d + 1
  | (_, d) => uptoBulk d + 1
 end
def uptoSmall : (H : Type) → List (DataW H) → Bool := fun _ ds => decide (uptoBulkAll ds ≤ 1048576)
def OpenSpec.upto (s : _root_.Go.ChangeSpec) : _root_.Go.OpenSpec := { _root_.Go.OpenSpec.ofChange s with cond := some uptoSmall }

/-- 'redraftlaw05.XformCarets', WHERE WHAT IT READS IS OF BULK AT MOST 1048576: true; the input reads as it did. -/
def xformCaretsUptoRow : OpenClaim := { program := "ytmeciikfnbbllaagreatdoor", sum := "62dcc7d624b383e391f05cf218f186ed5f4dbb8390829a50832b76a04ec9565f", func := "redraft/redraftlaw05.XformCarets", spec := "xformCarets", recurses := true, named := ["redraft/utext.barred"], apart := false, laid := [("redraft/utext.barred", laid_redraft_utext_barred)], narrowed := true }
def XformCaretsUptoSaid : Prop := xformCaretsUptoRow.holds Tryz.pinned (OpenSpec.upto xformCaretsSpec)

/-- 'redraftlaw05.XformIncludes', WHERE WHAT IT READS IS OF BULK AT MOST 1048576: true; the input reads as it did. -/
def xformIncludesUptoRow : OpenClaim := { program := "ytmeciikfnbbllaagreatdoor", sum := "62dcc7d624b383e391f05cf218f186ed5f4dbb8390829a50832b76a04ec9565f", func := "redraft/redraftlaw05.XformIncludes", spec := "xformIncludes", recurses := true, named := ["redraft/utext.barred"], apart := false, laid := [("redraft/utext.barred", laid_redraft_utext_barred)], narrowed := true }
def XformIncludesUptoSaid : Prop := xformIncludesUptoRow.holds Tryz.pinned (OpenSpec.upto xformIncludesSpec)

/-- 'redraftlaw05.XformExcludes', WHERE WHAT IT READS IS OF BULK AT MOST 1048576: true; the input reads as it did. -/
def xformExcludesUptoRow : OpenClaim := { program := "ytmeciikfnbbllaagreatdoor", sum := "62dcc7d624b383e391f05cf218f186ed5f4dbb8390829a50832b76a04ec9565f", func := "redraft/redraftlaw05.XformExcludes", spec := "xformExcludes", recurses := true, named := ["redraft/utext.barred"], apart := false, laid := [("redraft/utext.barred", laid_redraft_utext_barred)], narrowed := true }
def XformExcludesUptoSaid : Prop := xformExcludesUptoRow.holds Tryz.pinned (OpenSpec.upto xformExcludesSpec)

/-- 'redraftlaw05.XformTransposes', WHERE WHAT IT READS IS OF BULK AT MOST 1048576: true; the input reads as it did. -/
def xformTransposesUptoRow : OpenClaim := { program := "ytmeciikfnbbllaagreatdoor", sum := "62dcc7d624b383e391f05cf218f186ed5f4dbb8390829a50832b76a04ec9565f", func := "redraft/redraftlaw05.XformTransposes", spec := "xformTransposes", recurses := true, named := ["redraft/utext.barred"], apart := false, laid := [("redraft/utext.barred", laid_redraft_utext_barred)], narrowed := true }
def XformTransposesUptoSaid : Prop := xformTransposesUptoRow.holds Tryz.pinned (OpenSpec.upto xformTransposesSpec)

/-- 'redraftlaw05.XformOvers', WHERE WHAT IT READS IS OF BULK AT MOST 1048576: true; the input reads as it did. -/
def xformOversUptoRow : OpenClaim := { program := "ytmeciikfnbbllaagreatdoor", sum := "62dcc7d624b383e391f05cf218f186ed5f4dbb8390829a50832b76a04ec9565f", func := "redraft/redraftlaw05.XformOvers", spec := "xformOvers", recurses := true, named := ["redraft/utext.barred"], apart := false, laid := [("redraft/utext.barred", laid_redraft_utext_barred)], narrowed := true }
def XformOversUptoSaid : Prop := xformOversUptoRow.holds Tryz.pinned (OpenSpec.upto xformOversSpec)

/-- 'redraftlaw05.XformAll', WHERE WHAT IT READS IS OF BULK AT MOST 1048576: true; the input reads as it did. -/
def xformAllUptoRow : OpenClaim := { program := "ytmeciikfnbbllaagreatdoor", sum := "62dcc7d624b383e391f05cf218f186ed5f4dbb8390829a50832b76a04ec9565f", func := "redraft/redraftlaw05.XformAll", spec := "xformAll", recurses := true, named := ["redraft/utext.barred"], apart := false, laid := [("redraft/utext.barred", laid_redraft_utext_barred)], narrowed := true }
def XformAllUptoSaid : Prop := xformAllUptoRow.holds Tryz.pinned (OpenSpec.upto xformAllSpec)

end Rows
end Go.Proofs.YtmeciikfnbbllaaGreatDoor
