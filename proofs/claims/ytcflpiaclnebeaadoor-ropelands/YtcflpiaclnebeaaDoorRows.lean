/-
  NARROWER THAN 'FOR EVERY INPUT', by the rows' own cells (each row's printed sentence says how): RopePlaces: laid · RopeGrows: laid · RopeLands: laid · RopeKept: laid · RopeHides: laid · RopeIsRow: laid.
  DERIVED. THE GIVEN ROWS OF THIS SEAT. 6 by the template 'for every input the law returns true; each argument reads behind the call as it read before'; 0 by the template 'total and deterministic' (their statements: YtcflpiaclnebeaaDoorTotals.lean).
  GIVEN WITH THE SEED: the statements are not yours to turn. If you find one false, say at which input.
  Laid BY PROGRAM, IN A SANDBOX (cutbox-rows.mjs): the forced cells as the released guide's own fill.sh prints them over the translation 4dd617c9d97618c8… (all of the seat's roots in one cut). By AI agents, Wed Nov 11 2026. No macro, syntax, notation, axiom, sorry.
-/
import Derived.Test.YtcflpiaclnebeaaDoorChecked
import GoSem.Claim
import GoSem.ClaimJoined
import GoSem.ClaimMapViews
import Derived.JoinedTies
import Derived.KernelRfl
namespace Go.Proofs.YtcflpiaclnebeaaDoor
/- THE CELL 'sum', in the pinned program and in every row, IS THE sha256 OF THE DUMP (.gsa) THAT YtcflpiaclnebeaaDoorProg.lean LOADS. Nothing in Lean hashes anything: it is a label: what it is worth is what the hold of that sum in a sandbox is worth. -/
noncomputable def Tryd.pinned : Pinned := { name := "ytcflpiaclnebeaadoor", sum := "4dd617c9d97618c892dc215bb678d7225a907ade35fccf987ecd08cf60ab6eff", checked := Tryd.checked }
namespace Rows
def none {H : Type} : Left H := { results := [], args := [] }

/- WHAT THE LISTED PACKAGE-LEVEL VARIABLES READ AS WHEN THE CALL BEGINS. Each datum BY PROGRAM (the guide's laid-datum.mjs) off the statement by which the dump's own 'gosem.cut.vars' lays the variable. In a bare row this is a premise. The card (YtcflpiaclnebeaaDoorCards.lean) ties it to the program's text. -/
def laid_redraft_utext_barred {H : Type} : DataW H := .agg [.agg [.lit (.int .i32 0), .lit (.int .i32 8)], .agg [.lit (.int .i32 11), .lit (.int .i32 31)], .agg [.lit (.int .i32 127), .lit (.int .i32 159)], .agg [.lit (.int .i32 64976), .lit (.int .i32 65007)], .agg [.lit (.int .i32 65279), .lit (.int .i32 65279)]]

/-- 'redraftlaw03.RopePlaces': WHATEVER THE INPUT: true; the input reads as it did. -/
def ropePlacesSpec : ChangeSpec := { name := "ropePlaces", fn := fun _ => fun
  | [d] => { results := [.lit (.bool true)], args := [d] }
  | _ => none }
def ropePlacesRow : OpenClaim := { program := "ytcflpiaclnebeaadoor", sum := "4dd617c9d97618c892dc215bb678d7225a907ade35fccf987ecd08cf60ab6eff", func := "redraft/redraftlaw03.RopePlaces", spec := "ropePlaces", recurses := true, named := ["redraft/utext.barred"], apart := false, laid := [("redraft/utext.barred", laid_redraft_utext_barred)] }
def RopePlacesSaid : Prop := ropePlacesRow.holds Tryd.pinned (OpenSpec.ofChange ropePlacesSpec)

/-- ITS FALSE NEIGHBOUR: 'it returns false'. Refute it at one input. -/
def ropePlacesWrong : ChangeSpec := { name := "ropePlaces", fn := fun _ => fun
  | [d] => { results := [.lit (.bool false)], args := [d] }
  | _ => none }
def RopePlacesWrongFalsely : Prop := ropePlacesRow.holds Tryd.pinned (OpenSpec.ofChange ropePlacesWrong)

/-- 'redraftlaw03.RopeGrows': WHATEVER THE INPUT: true; the input reads as it did. -/
def ropeGrowsSpec : ChangeSpec := { name := "ropeGrows", fn := fun _ => fun
  | [] => { results := [.lit (.bool true)], args := [] }
  | _ => none }
def ropeGrowsRow : OpenClaim := { program := "ytcflpiaclnebeaadoor", sum := "4dd617c9d97618c892dc215bb678d7225a907ade35fccf987ecd08cf60ab6eff", func := "redraft/redraftlaw03.RopeGrows", spec := "ropeGrows", inPlace := ["internal/abi.NoEscape"], unfollowed := true, recurses := true, named := ["redraft/utext.barred"], apart := false, laid := [("redraft/utext.barred", laid_redraft_utext_barred)] }
def RopeGrowsSaid : Prop := ropeGrowsRow.holds Tryd.pinned (OpenSpec.ofChange ropeGrowsSpec)

/-- ITS FALSE NEIGHBOUR: 'it returns false'. Refute it at one input. -/
def ropeGrowsWrong : ChangeSpec := { name := "ropeGrows", fn := fun _ => fun
  | [] => { results := [.lit (.bool false)], args := [] }
  | _ => none }
def RopeGrowsWrongFalsely : Prop := ropeGrowsRow.holds Tryd.pinned (OpenSpec.ofChange ropeGrowsWrong)

/-- 'redraftlaw03.RopeLands': WHATEVER THE INPUT: true; the input reads as it did. -/
def ropeLandsSpec : ChangeSpec := { name := "ropeLands", fn := fun _ => fun
  | [d1, d2, d3, d4] => { results := [.lit (.bool true)], args := [d1, d2, d3, d4] }
  | _ => none }
def ropeLandsRow : OpenClaim := { program := "ytcflpiaclnebeaadoor", sum := "4dd617c9d97618c892dc215bb678d7225a907ade35fccf987ecd08cf60ab6eff", func := "redraft/redraftlaw03.RopeLands", spec := "ropeLands", inPlace := ["internal/abi.NoEscape"], unfollowed := true, recurses := true, named := ["redraft/utext.barred"], apart := false, laid := [("redraft/utext.barred", laid_redraft_utext_barred)] }
def RopeLandsSaid : Prop := ropeLandsRow.holds Tryd.pinned (OpenSpec.ofChange ropeLandsSpec)

/-- ITS FALSE NEIGHBOUR: 'it returns false'. Refute it at one input. -/
def ropeLandsWrong : ChangeSpec := { name := "ropeLands", fn := fun _ => fun
  | [d1, d2, d3, d4] => { results := [.lit (.bool false)], args := [d1, d2, d3, d4] }
  | _ => none }
def RopeLandsWrongFalsely : Prop := ropeLandsRow.holds Tryd.pinned (OpenSpec.ofChange ropeLandsWrong)

/-- 'redraftlaw03.RopeKept': WHATEVER THE INPUT: true; the input reads as it did. -/
def ropeKeptSpec : ChangeSpec := { name := "ropeKept", fn := fun _ => fun
  | [d1, d2] => { results := [.lit (.bool true)], args := [d1, d2] }
  | _ => none }
def ropeKeptRow : OpenClaim := { program := "ytcflpiaclnebeaadoor", sum := "4dd617c9d97618c892dc215bb678d7225a907ade35fccf987ecd08cf60ab6eff", func := "redraft/redraftlaw03.RopeKept", spec := "ropeKept", inPlace := ["internal/abi.NoEscape"], unfollowed := true, recurses := true, named := ["redraft/utext.barred"], apart := false, laid := [("redraft/utext.barred", laid_redraft_utext_barred)] }
def RopeKeptSaid : Prop := ropeKeptRow.holds Tryd.pinned (OpenSpec.ofChange ropeKeptSpec)

/-- ITS FALSE NEIGHBOUR: 'it returns false'. Refute it at one input. -/
def ropeKeptWrong : ChangeSpec := { name := "ropeKept", fn := fun _ => fun
  | [d1, d2] => { results := [.lit (.bool false)], args := [d1, d2] }
  | _ => none }
def RopeKeptWrongFalsely : Prop := ropeKeptRow.holds Tryd.pinned (OpenSpec.ofChange ropeKeptWrong)

/-- 'redraftlaw03.RopeHides': WHATEVER THE INPUT: true; the input reads as it did. -/
def ropeHidesSpec : ChangeSpec := { name := "ropeHides", fn := fun _ => fun
  | [d1, d2, d3] => { results := [.lit (.bool true)], args := [d1, d2, d3] }
  | _ => none }
def ropeHidesRow : OpenClaim := { program := "ytcflpiaclnebeaadoor", sum := "4dd617c9d97618c892dc215bb678d7225a907ade35fccf987ecd08cf60ab6eff", func := "redraft/redraftlaw03.RopeHides", spec := "ropeHides", inPlace := ["internal/abi.NoEscape"], unfollowed := true, recurses := true, named := ["redraft/utext.barred"], apart := false, laid := [("redraft/utext.barred", laid_redraft_utext_barred)] }
def RopeHidesSaid : Prop := ropeHidesRow.holds Tryd.pinned (OpenSpec.ofChange ropeHidesSpec)

/-- ITS FALSE NEIGHBOUR: 'it returns false'. Refute it at one input. -/
def ropeHidesWrong : ChangeSpec := { name := "ropeHides", fn := fun _ => fun
  | [d1, d2, d3] => { results := [.lit (.bool false)], args := [d1, d2, d3] }
  | _ => none }
def RopeHidesWrongFalsely : Prop := ropeHidesRow.holds Tryd.pinned (OpenSpec.ofChange ropeHidesWrong)

/-- 'redraftlaw03.RopeIsRow': WHATEVER THE INPUT: true; the input reads as it did. -/
def ropeIsRowSpec : ChangeSpec := { name := "ropeIsRow", fn := fun _ => fun
  | [d1, d2] => { results := [.lit (.bool true)], args := [d1, d2] }
  | _ => none }
def ropeIsRowRow : OpenClaim := { program := "ytcflpiaclnebeaadoor", sum := "4dd617c9d97618c892dc215bb678d7225a907ade35fccf987ecd08cf60ab6eff", func := "redraft/redraftlaw03.RopeIsRow", spec := "ropeIsRow", inPlace := ["internal/abi.NoEscape"], unfollowed := true, recurses := true, named := ["redraft/utext.barred"], apart := false, laid := [("redraft/utext.barred", laid_redraft_utext_barred)] }
def RopeIsRowSaid : Prop := ropeIsRowRow.holds Tryd.pinned (OpenSpec.ofChange ropeIsRowSpec)

/-- ITS FALSE NEIGHBOUR: 'it returns false'. Refute it at one input. -/
def ropeIsRowWrong : ChangeSpec := { name := "ropeIsRow", fn := fun _ => fun
  | [d1, d2] => { results := [.lit (.bool false)], args := [d1, d2] }
  | _ => none }
def RopeIsRowWrongFalsely : Prop := ropeIsRowRow.holds Tryd.pinned (OpenSpec.ofChange ropeIsRowWrong)

/- THE SECOND FORM. 'bulk': how many values and letters a reading holds, each counted each time it is reached (what is shared counts as often as it is met; a slice's spare places count too). A statement '..UptoSaid' is the law's where the arguments, and the package variables that the reading takes, are together of bulk at most 1048576: NARROWER than '..Said'. Prove '..Said' where nothing that the law and all that it calls make is longer than what came in: it says more and counts as full. Else prove '..UptoSaid'. A law counts once. -/
mutual
def uptoBulk {H : Type} : DataW H → Nat
  | .lit (.string bytes) => bytes.length + 1
  | .lit _ => 1
  | .nil => 1
  | .ptr d => uptoBulk d + 1
  | .slice elems spare => uptoBulkAll elems + uptoBulkAll spare + 1
  | .agg parts => uptoBulkAll parts + 1
  | .iface _ d => uptoBulk d + 1
  | .map entries => uptoBulkEntries entries + 1
  | .held _ => 1
def uptoBulkAll {H : Type} : List (DataW H) → Nat
  | [] => 0
  | d :: r => uptoBulk d + uptoBulkAll r
def uptoBulkEntries {H : Type} : List (Lit × DataW H) → Nat
  | [] => 0
  | x :: r => uptoBulkEntry x + uptoBulkEntries r
def uptoBulkEntry {H : Type} : Lit × DataW H → Nat
  | (.string bytes, d) => bytes.length + uptoBulk d + 1
  | (_, d) => uptoBulk d + 1
 end
def uptoSmall : (H : Type) → List (DataW H) → Bool := fun _ ds => decide (uptoBulkAll ds ≤ 1048576)
def OpenSpec.upto (s : _root_.Go.ChangeSpec) : _root_.Go.OpenSpec := { _root_.Go.OpenSpec.ofChange s with cond := some uptoSmall }

/-- 'redraftlaw03.RopePlaces', WHERE WHAT IT READS IS OF BULK AT MOST 1048576: true; the input reads as it did. -/
def ropePlacesUptoRow : OpenClaim := { program := "ytcflpiaclnebeaadoor", sum := "4dd617c9d97618c892dc215bb678d7225a907ade35fccf987ecd08cf60ab6eff", func := "redraft/redraftlaw03.RopePlaces", spec := "ropePlaces", recurses := true, named := ["redraft/utext.barred"], apart := false, laid := [("redraft/utext.barred", laid_redraft_utext_barred)], narrowed := true }
def RopePlacesUptoSaid : Prop := ropePlacesUptoRow.holds Tryd.pinned (OpenSpec.upto ropePlacesSpec)

/-- 'redraftlaw03.RopeGrows', WHERE WHAT IT READS IS OF BULK AT MOST 1048576: true; the input reads as it did. -/
def ropeGrowsUptoRow : OpenClaim := { program := "ytcflpiaclnebeaadoor", sum := "4dd617c9d97618c892dc215bb678d7225a907ade35fccf987ecd08cf60ab6eff", func := "redraft/redraftlaw03.RopeGrows", spec := "ropeGrows", inPlace := ["internal/abi.NoEscape"], unfollowed := true, recurses := true, named := ["redraft/utext.barred"], apart := false, laid := [("redraft/utext.barred", laid_redraft_utext_barred)], narrowed := true }
def RopeGrowsUptoSaid : Prop := ropeGrowsUptoRow.holds Tryd.pinned (OpenSpec.upto ropeGrowsSpec)

/-- 'redraftlaw03.RopeLands', WHERE WHAT IT READS IS OF BULK AT MOST 1048576: true; the input reads as it did. -/
def ropeLandsUptoRow : OpenClaim := { program := "ytcflpiaclnebeaadoor", sum := "4dd617c9d97618c892dc215bb678d7225a907ade35fccf987ecd08cf60ab6eff", func := "redraft/redraftlaw03.RopeLands", spec := "ropeLands", inPlace := ["internal/abi.NoEscape"], unfollowed := true, recurses := true, named := ["redraft/utext.barred"], apart := false, laid := [("redraft/utext.barred", laid_redraft_utext_barred)], narrowed := true }
def RopeLandsUptoSaid : Prop := ropeLandsUptoRow.holds Tryd.pinned (OpenSpec.upto ropeLandsSpec)

/-- 'redraftlaw03.RopeKept', WHERE WHAT IT READS IS OF BULK AT MOST 1048576: true; the input reads as it did. -/
def ropeKeptUptoRow : OpenClaim := { program := "ytcflpiaclnebeaadoor", sum := "4dd617c9d97618c892dc215bb678d7225a907ade35fccf987ecd08cf60ab6eff", func := "redraft/redraftlaw03.RopeKept", spec := "ropeKept", inPlace := ["internal/abi.NoEscape"], unfollowed := true, recurses := true, named := ["redraft/utext.barred"], apart := false, laid := [("redraft/utext.barred", laid_redraft_utext_barred)], narrowed := true }
def RopeKeptUptoSaid : Prop := ropeKeptUptoRow.holds Tryd.pinned (OpenSpec.upto ropeKeptSpec)

/-- 'redraftlaw03.RopeHides', WHERE WHAT IT READS IS OF BULK AT MOST 1048576: true; the input reads as it did. -/
def ropeHidesUptoRow : OpenClaim := { program := "ytcflpiaclnebeaadoor", sum := "4dd617c9d97618c892dc215bb678d7225a907ade35fccf987ecd08cf60ab6eff", func := "redraft/redraftlaw03.RopeHides", spec := "ropeHides", inPlace := ["internal/abi.NoEscape"], unfollowed := true, recurses := true, named := ["redraft/utext.barred"], apart := false, laid := [("redraft/utext.barred", laid_redraft_utext_barred)], narrowed := true }
def RopeHidesUptoSaid : Prop := ropeHidesUptoRow.holds Tryd.pinned (OpenSpec.upto ropeHidesSpec)

/-- 'redraftlaw03.RopeIsRow', WHERE WHAT IT READS IS OF BULK AT MOST 1048576: true; the input reads as it did. -/
def ropeIsRowUptoRow : OpenClaim := { program := "ytcflpiaclnebeaadoor", sum := "4dd617c9d97618c892dc215bb678d7225a907ade35fccf987ecd08cf60ab6eff", func := "redraft/redraftlaw03.RopeIsRow", spec := "ropeIsRow", inPlace := ["internal/abi.NoEscape"], unfollowed := true, recurses := true, named := ["redraft/utext.barred"], apart := false, laid := [("redraft/utext.barred", laid_redraft_utext_barred)], narrowed := true }
def RopeIsRowUptoSaid : Prop := ropeIsRowUptoRow.holds Tryd.pinned (OpenSpec.upto ropeIsRowSpec)

end Rows
end Go.Proofs.YtcflpiaclnebeaaDoor
