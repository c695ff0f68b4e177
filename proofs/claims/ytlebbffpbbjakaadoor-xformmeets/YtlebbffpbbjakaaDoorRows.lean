/-
  NARROWER THAN 'FOR EVERY INPUT', by the rows' own cells (each row's printed sentence says how): XformRunsMeet: laid · XformOverIsCross: laid · XformMeets: laid · XformNewMemory: laid.
  DERIVED. THE GIVEN ROWS OF THIS SEAT. 4 by the template 'for every input the law returns true; each argument reads behind the call as it read before'; 0 by the template 'total and deterministic' (their statements: YtlebbffpbbjakaaDoorTotals.lean).
  GIVEN WITH THE SEED: the statements are not yours to turn. If you find one false, say at which input.
  Laid BY PROGRAM, IN A SANDBOX (cutbox-rows.mjs): the forced cells as the released guide's own fill.sh prints them over the translation d1acef1cf7756b2a… (all of the seat's roots in one cut). By AI agents, Wed Nov 11 2026. No macro, syntax, notation, axiom, sorry.
-/
import Derived.Test.YtlebbffpbbjakaaDoorChecked
import GoSem.Claim
import GoSem.ClaimJoined
import GoSem.ClaimMapViews
import Derived.JoinedTies
import Derived.KernelRfl
namespace Go.Proofs.YtlebbffpbbjakaaDoor
/- THE CELL 'sum', in the pinned program and in every row, IS THE sha256 OF THE DUMP (.gsa) THAT YtlebbffpbbjakaaDoorProg.lean LOADS. Nothing in Lean hashes anything: it is a label: what it is worth is what the hold of that sum in a sandbox is worth. -/
noncomputable def Tryd.pinned : Pinned := { name := "ytlebbffpbbjakaadoor", sum := "d1acef1cf7756b2ab33591fabb1344c7ee5676bd1d140a7d5538f7eda6d30e96", checked := Tryd.checked }
namespace Rows
def none {H : Type} : Left H := { results := [], args := [] }

/- WHAT THE LISTED PACKAGE-LEVEL VARIABLES READ AS WHEN THE CALL BEGINS. Each datum BY PROGRAM (the guide's laid-datum.mjs) off the statement by which the dump's own 'gosem.cut.vars' lays the variable. In a bare row this is a premise. The card (YtlebbffpbbjakaaDoorCards.lean) ties it to the program's text. -/
def laid_redraft_utext_barred {H : Type} : DataW H := .agg [.agg [.lit (.int .i32 0), .lit (.int .i32 8)], .agg [.lit (.int .i32 11), .lit (.int .i32 31)], .agg [.lit (.int .i32 127), .lit (.int .i32 159)], .agg [.lit (.int .i32 64976), .lit (.int .i32 65007)], .agg [.lit (.int .i32 65279), .lit (.int .i32 65279)]]
def laid_redraft_redraftlaw05_texts {H : Type} : DataW H := .agg [.lit (.string [97]), .lit (.string [97, 195, 169]), .lit (.string [226, 130, 172, 97, 195, 169]), .lit (.string [122, 195, 169, 240, 159, 152, 128, 97]), .lit (.string [97, 98, 99, 100, 101])]

/-- 'redraftlaw05.XformRunsMeet': WHATEVER THE INPUT: true; the input reads as it did. -/
def xformRunsMeetSpec : ChangeSpec := { name := "xformRunsMeet", fn := fun _ => fun
  | [d] => { results := [.lit (.bool true)], args := [d] }
  | _ => none }
def xformRunsMeetRow : OpenClaim := { program := "ytlebbffpbbjakaadoor", sum := "d1acef1cf7756b2ab33591fabb1344c7ee5676bd1d140a7d5538f7eda6d30e96", func := "redraft/redraftlaw05.XformRunsMeet", spec := "xformRunsMeet", named := ["redraft/redraftlaw05.texts", "redraft/utext.barred"], apart := false, laid := [("redraft/utext.barred", laid_redraft_utext_barred), ("redraft/redraftlaw05.texts", laid_redraft_redraftlaw05_texts)] }
def XformRunsMeetSaid : Prop := xformRunsMeetRow.holds Tryd.pinned (OpenSpec.ofChange xformRunsMeetSpec)

/-- ITS FALSE NEIGHBOUR: 'it returns false'. Refute it at one input. -/
def xformRunsMeetWrong : ChangeSpec := { name := "xformRunsMeet", fn := fun _ => fun
  | [d] => { results := [.lit (.bool false)], args := [d] }
  | _ => none }
def XformRunsMeetWrongFalsely : Prop := xformRunsMeetRow.holds Tryd.pinned (OpenSpec.ofChange xformRunsMeetWrong)

/-- 'redraftlaw05.XformOverIsCross': WHATEVER THE INPUT: true; the input reads as it did. -/
def xformOverIsCrossSpec : ChangeSpec := { name := "xformOverIsCross", fn := fun _ => fun
  | [d] => { results := [.lit (.bool true)], args := [d] }
  | _ => none }
def xformOverIsCrossRow : OpenClaim := { program := "ytlebbffpbbjakaadoor", sum := "d1acef1cf7756b2ab33591fabb1344c7ee5676bd1d140a7d5538f7eda6d30e96", func := "redraft/redraftlaw05.XformOverIsCross", spec := "xformOverIsCross", named := ["redraft/redraftlaw05.texts", "redraft/utext.barred"], apart := false, laid := [("redraft/utext.barred", laid_redraft_utext_barred), ("redraft/redraftlaw05.texts", laid_redraft_redraftlaw05_texts)] }
def XformOverIsCrossSaid : Prop := xformOverIsCrossRow.holds Tryd.pinned (OpenSpec.ofChange xformOverIsCrossSpec)

/-- ITS FALSE NEIGHBOUR: 'it returns false'. Refute it at one input. -/
def xformOverIsCrossWrong : ChangeSpec := { name := "xformOverIsCross", fn := fun _ => fun
  | [d] => { results := [.lit (.bool false)], args := [d] }
  | _ => none }
def XformOverIsCrossWrongFalsely : Prop := xformOverIsCrossRow.holds Tryd.pinned (OpenSpec.ofChange xformOverIsCrossWrong)

/-- 'redraftlaw05.XformMeets': WHATEVER THE INPUT: true; the input reads as it did. -/
def xformMeetsSpec : ChangeSpec := { name := "xformMeets", fn := fun _ => fun
  | [d] => { results := [.lit (.bool true)], args := [d] }
  | _ => none }
def xformMeetsRow : OpenClaim := { program := "ytlebbffpbbjakaadoor", sum := "d1acef1cf7756b2ab33591fabb1344c7ee5676bd1d140a7d5538f7eda6d30e96", func := "redraft/redraftlaw05.XformMeets", spec := "xformMeets", named := ["redraft/redraftlaw05.texts", "redraft/utext.barred"], apart := false, laid := [("redraft/utext.barred", laid_redraft_utext_barred), ("redraft/redraftlaw05.texts", laid_redraft_redraftlaw05_texts)] }
def XformMeetsSaid : Prop := xformMeetsRow.holds Tryd.pinned (OpenSpec.ofChange xformMeetsSpec)

/-- ITS FALSE NEIGHBOUR: 'it returns false'. Refute it at one input. -/
def xformMeetsWrong : ChangeSpec := { name := "xformMeets", fn := fun _ => fun
  | [d] => { results := [.lit (.bool false)], args := [d] }
  | _ => none }
def XformMeetsWrongFalsely : Prop := xformMeetsRow.holds Tryd.pinned (OpenSpec.ofChange xformMeetsWrong)

/-- 'redraftlaw05.XformNewMemory': WHATEVER THE INPUT: true; the input reads as it did. -/
def xformNewMemorySpec : ChangeSpec := { name := "xformNewMemory", fn := fun _ => fun
  | [d] => { results := [.lit (.bool true)], args := [d] }
  | _ => none }
def xformNewMemoryRow : OpenClaim := { program := "ytlebbffpbbjakaadoor", sum := "d1acef1cf7756b2ab33591fabb1344c7ee5676bd1d140a7d5538f7eda6d30e96", func := "redraft/redraftlaw05.XformNewMemory", spec := "xformNewMemory", named := ["redraft/redraftlaw05.texts", "redraft/utext.barred"], apart := false, laid := [("redraft/utext.barred", laid_redraft_utext_barred), ("redraft/redraftlaw05.texts", laid_redraft_redraftlaw05_texts)] }
def XformNewMemorySaid : Prop := xformNewMemoryRow.holds Tryd.pinned (OpenSpec.ofChange xformNewMemorySpec)

/-- ITS FALSE NEIGHBOUR: 'it returns false'. Refute it at one input. -/
def xformNewMemoryWrong : ChangeSpec := { name := "xformNewMemory", fn := fun _ => fun
  | [d] => { results := [.lit (.bool false)], args := [d] }
  | _ => none }
def XformNewMemoryWrongFalsely : Prop := xformNewMemoryRow.holds Tryd.pinned (OpenSpec.ofChange xformNewMemoryWrong)

/- THE SECOND FORM. 'bulk': how many values and letters a reading holds, each counted each time it is reached (what is shared counts as often as it is met; a slice's spare places count too). A statement '..UptoSaid' is the law's where the arguments, and the package variables that the reading takes, are together of bulk at most 1048576: NARROWER than '..Said'. Prove '..Said' where nothing that the law and all that it calls make is longer than what came in: it says more and counts as full. Else prove '..UptoSaid'. A law counts once. -/
mutual
def uptoBulk {H : Type} : DataW H → Nat
  | .lit (.string bytes) => bytes.length + 1
  | .lit _ => 1
  | .nil => 1
  | .ptr d => uptoBulk d + 1
  | .slice elems spare => uptoBulkAll elems + uptoBulkAll spare + 1
  | .agg parts => uptoBulkAll parts + 1
  | .iface _ d => uptoBulk d + 1
  | .map entries => uptoBulkEntries entries + 1
  | .held _ => 1
def uptoBulkAll {H : Type} : List (DataW H) → Nat
  | [] => 0
  | d :: r => uptoBulk d + uptoBulkAll r
def uptoBulkEntries {H : Type} : List (Lit × DataW H) → Nat
  | [] => 0
  | x :: r => uptoBulkEntry x + uptoBulkEntries r
def uptoBulkEntry {H : Type} : Lit × DataW H → Nat
  | (.string bytes, d) => bytes.length + uptoBulk d + 1
  | (_, d) => uptoBulk d + 1
 end
def uptoSmall : (H : Type) → List (DataW H) → Bool := fun _ ds => decide (uptoBulkAll ds ≤ 1048576)
def OpenSpec.upto (s : _root_.Go.ChangeSpec) : _root_.Go.OpenSpec := { _root_.Go.OpenSpec.ofChange s with cond := some uptoSmall }

/-- 'redraftlaw05.XformRunsMeet', WHERE WHAT IT READS IS OF BULK AT MOST 1048576: true; the input reads as it did. -/
def xformRunsMeetUptoRow : OpenClaim := { program := "ytlebbffpbbjakaadoor", sum := "d1acef1cf7756b2ab33591fabb1344c7ee5676bd1d140a7d5538f7eda6d30e96", func := "redraft/redraftlaw05.XformRunsMeet", spec := "xformRunsMeet", named := ["redraft/redraftlaw05.texts", "redraft/utext.barred"], apart := false, laid := [("redraft/utext.barred", laid_redraft_utext_barred), ("redraft/redraftlaw05.texts", laid_redraft_redraftlaw05_texts)], narrowed := true }
def XformRunsMeetUptoSaid : Prop := xformRunsMeetUptoRow.holds Tryd.pinned (OpenSpec.upto xformRunsMeetSpec)

/-- 'redraftlaw05.XformOverIsCross', WHERE WHAT IT READS IS OF BULK AT MOST 1048576: true; the input reads as it did. -/
def xformOverIsCrossUptoRow : OpenClaim := { program := "ytlebbffpbbjakaadoor", sum := "d1acef1cf7756b2ab33591fabb1344c7ee5676bd1d140a7d5538f7eda6d30e96", func := "redraft/redraftlaw05.XformOverIsCross", spec := "xformOverIsCross", named := ["redraft/redraftlaw05.texts", "redraft/utext.barred"], apart := false, laid := [("redraft/utext.barred", laid_redraft_utext_barred), ("redraft/redraftlaw05.texts", laid_redraft_redraftlaw05_texts)], narrowed := true }
def XformOverIsCrossUptoSaid : Prop := xformOverIsCrossUptoRow.holds Tryd.pinned (OpenSpec.upto xformOverIsCrossSpec)

/-- 'redraftlaw05.XformMeets', WHERE WHAT IT READS IS OF BULK AT MOST 1048576: true; the input reads as it did. -/
def xformMeetsUptoRow : OpenClaim := { program := "ytlebbffpbbjakaadoor", sum := "d1acef1cf7756b2ab33591fabb1344c7ee5676bd1d140a7d5538f7eda6d30e96", func := "redraft/redraftlaw05.XformMeets", spec := "xformMeets", named := ["redraft/redraftlaw05.texts", "redraft/utext.barred"], apart := false, laid := [("redraft/utext.barred", laid_redraft_utext_barred), ("redraft/redraftlaw05.texts", laid_redraft_redraftlaw05_texts)], narrowed := true }
def XformMeetsUptoSaid : Prop := xformMeetsUptoRow.holds Tryd.pinned (OpenSpec.upto xformMeetsSpec)

/-- 'redraftlaw05.XformNewMemory', WHERE WHAT IT READS IS OF BULK AT MOST 1048576: true; the input reads as it did. -/
def xformNewMemoryUptoRow : OpenClaim := { program := "ytlebbffpbbjakaadoor", sum := "d1acef1cf7756b2ab33591fabb1344c7ee5676bd1d140a7d5538f7eda6d30e96", func := "redraft/redraftlaw05.XformNewMemory", spec := "xformNewMemory", named := ["redraft/redraftlaw05.texts", "redraft/utext.barred"], apart := false, laid := [("redraft/utext.barred", laid_redraft_utext_barred), ("redraft/redraftlaw05.texts", laid_redraft_redraftlaw05_texts)], narrowed := true }
def XformNewMemoryUptoSaid : Prop := xformNewMemoryUptoRow.holds Tryd.pinned (OpenSpec.upto xformNewMemorySpec)

end Rows
end Go.Proofs.YtlebbffpbbjakaaDoor
