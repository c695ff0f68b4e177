/-
  No cell of these rows narrows 'for every input' (looked for: loops, veiled, ifaces, maps, wideKeys, modest, calm, conditions, laid).
  DERIVED. THE GIVEN ROWS OF THIS SEAT. 6 by the template 'for every input the law returns true; each argument reads behind the call as it read before'; 0 by the template 'total and deterministic' (their statements: YtohfckcikincoabTotals.lean).
  GIVEN WITH THE SEED: the statements are not yours to turn. If you find one false, say at which input.
  Laid BY PROGRAM, IN A SANDBOX (cutbox-rows.mjs): the forced cells as the released guide's own fill.sh prints them over the translation 45172f6215dad31f… (all of the seat's roots in one cut). By AI agents, Wed Nov 11 2026. No macro, syntax, notation, axiom, sorry.
-/
import Derived.Test.YtohfckcikincoabChecked
import GoSem.Claim
import GoSem.ClaimJoined
import GoSem.ClaimMapViews
import Derived.JoinedTies
import Derived.KernelRfl
namespace Go.Proofs.Ytohfckcikincoab
/- THE CELL 'sum', in the pinned program and in every row, IS THE sha256 OF THE DUMP (.gsa) THAT YtohfckcikincoabProg.lean LOADS. Nothing in Lean hashes anything: it is a label: what it is worth is what the hold of that sum in a sandbox is worth. -/
noncomputable def Try.pinned : Pinned := { name := "ytohfckcikincoab", sum := "45172f6215dad31fbe0f7d0619960db0292aa1243dc6b7da3cdbcf237af18fcb", checked := Try.checked }
namespace Rows
def none {H : Type} : Left H := { results := [], args := [] }

/-- 'redraftlaw02.SpanNewMemory': WHATEVER THE INPUT: true; the input reads as it did. -/
def spanNewMemorySpec : ChangeSpec := { name := "spanNewMemory", fn := fun _ => fun
  | [d] => { results := [.lit (.bool true)], args := [d] }
  | _ => none }
def spanNewMemoryRow : OpenClaim := { program := "ytohfckcikincoab", sum := "45172f6215dad31fbe0f7d0619960db0292aa1243dc6b7da3cdbcf237af18fcb", func := "redraft/redraftlaw02.SpanNewMemory", spec := "spanNewMemory", unfollowed := true, recurses := true, apart := false }
def SpanNewMemorySaid : Prop := spanNewMemoryRow.holds Try.pinned (OpenSpec.ofChange spanNewMemorySpec)

/-- ITS FALSE NEIGHBOUR: 'it returns false'. Refute it at one input. -/
def spanNewMemoryWrong : ChangeSpec := { name := "spanNewMemory", fn := fun _ => fun
  | [d] => { results := [.lit (.bool false)], args := [d] }
  | _ => none }
def SpanNewMemoryWrongFalsely : Prop := spanNewMemoryRow.holds Try.pinned (OpenSpec.ofChange spanNewMemoryWrong)

/-- 'redraftlaw02.SpanCounts': WHATEVER THE INPUT: true; the input reads as it did. -/
def spanCountsSpec : ChangeSpec := { name := "spanCounts", fn := fun _ => fun
  | [d] => { results := [.lit (.bool true)], args := [d] }
  | _ => none }
def spanCountsRow : OpenClaim := { program := "ytohfckcikincoab", sum := "45172f6215dad31fbe0f7d0619960db0292aa1243dc6b7da3cdbcf237af18fcb", func := "redraft/redraftlaw02.SpanCounts", spec := "spanCounts", unfollowed := true, recurses := true, apart := false }
def SpanCountsSaid : Prop := spanCountsRow.holds Try.pinned (OpenSpec.ofChange spanCountsSpec)

/-- ITS FALSE NEIGHBOUR: 'it returns false'. Refute it at one input. -/
def spanCountsWrong : ChangeSpec := { name := "spanCounts", fn := fun _ => fun
  | [d] => { results := [.lit (.bool false)], args := [d] }
  | _ => none }
def SpanCountsWrongFalsely : Prop := spanCountsRow.holds Try.pinned (OpenSpec.ofChange spanCountsWrong)

/-- 'redraftlaw02.SpanGives': WHATEVER THE INPUT: true; the input reads as it did. -/
def spanGivesSpec : ChangeSpec := { name := "spanGives", fn := fun _ => fun
  | [d] => { results := [.lit (.bool true)], args := [d] }
  | _ => none }
def spanGivesRow : OpenClaim := { program := "ytohfckcikincoab", sum := "45172f6215dad31fbe0f7d0619960db0292aa1243dc6b7da3cdbcf237af18fcb", func := "redraft/redraftlaw02.SpanGives", spec := "spanGives", unfollowed := true, recurses := true, apart := false }
def SpanGivesSaid : Prop := spanGivesRow.holds Try.pinned (OpenSpec.ofChange spanGivesSpec)

/-- ITS FALSE NEIGHBOUR: 'it returns false'. Refute it at one input. -/
def spanGivesWrong : ChangeSpec := { name := "spanGives", fn := fun _ => fun
  | [d] => { results := [.lit (.bool false)], args := [d] }
  | _ => none }
def SpanGivesWrongFalsely : Prop := spanGivesRow.holds Try.pinned (OpenSpec.ofChange spanGivesWrong)

/-- 'redraftlaw02.SpanChecks': WHATEVER THE INPUT: true; the input reads as it did. -/
def spanChecksSpec : ChangeSpec := { name := "spanChecks", fn := fun _ => fun
  | [d] => { results := [.lit (.bool true)], args := [d] }
  | _ => none }
def spanChecksRow : OpenClaim := { program := "ytohfckcikincoab", sum := "45172f6215dad31fbe0f7d0619960db0292aa1243dc6b7da3cdbcf237af18fcb", func := "redraft/redraftlaw02.SpanChecks", spec := "spanChecks", unfollowed := true, recurses := true, apart := false }
def SpanChecksSaid : Prop := spanChecksRow.holds Try.pinned (OpenSpec.ofChange spanChecksSpec)

/-- ITS FALSE NEIGHBOUR: 'it returns false'. Refute it at one input. -/
def spanChecksWrong : ChangeSpec := { name := "spanChecks", fn := fun _ => fun
  | [d] => { results := [.lit (.bool false)], args := [d] }
  | _ => none }
def SpanChecksWrongFalsely : Prop := spanChecksRow.holds Try.pinned (OpenSpec.ofChange spanChecksWrong)

/-- 'redraftlaw02.SpanSets': WHATEVER THE INPUT: true; the input reads as it did. -/
def spanSetsSpec : ChangeSpec := { name := "spanSets", fn := fun _ => fun
  | [d] => { results := [.lit (.bool true)], args := [d] }
  | _ => none }
def spanSetsRow : OpenClaim := { program := "ytohfckcikincoab", sum := "45172f6215dad31fbe0f7d0619960db0292aa1243dc6b7da3cdbcf237af18fcb", func := "redraft/redraftlaw02.SpanSets", spec := "spanSets", unfollowed := true, recurses := true, apart := false }
def SpanSetsSaid : Prop := spanSetsRow.holds Try.pinned (OpenSpec.ofChange spanSetsSpec)

/-- ITS FALSE NEIGHBOUR: 'it returns false'. Refute it at one input. -/
def spanSetsWrong : ChangeSpec := { name := "spanSets", fn := fun _ => fun
  | [d] => { results := [.lit (.bool false)], args := [d] }
  | _ => none }
def SpanSetsWrongFalsely : Prop := spanSetsRow.holds Try.pinned (OpenSpec.ofChange spanSetsWrong)

/-- 'redraftlaw02.SpanMoves': WHATEVER THE INPUT: true; the input reads as it did. -/
def spanMovesSpec : ChangeSpec := { name := "spanMoves", fn := fun _ => fun
  | [d] => { results := [.lit (.bool true)], args := [d] }
  | _ => none }
def spanMovesRow : OpenClaim := { program := "ytohfckcikincoab", sum := "45172f6215dad31fbe0f7d0619960db0292aa1243dc6b7da3cdbcf237af18fcb", func := "redraft/redraftlaw02.SpanMoves", spec := "spanMoves", unfollowed := true, recurses := true, apart := false }
def SpanMovesSaid : Prop := spanMovesRow.holds Try.pinned (OpenSpec.ofChange spanMovesSpec)

/-- ITS FALSE NEIGHBOUR: 'it returns false'. Refute it at one input. -/
def spanMovesWrong : ChangeSpec := { name := "spanMoves", fn := fun _ => fun
  | [d] => { results := [.lit (.bool false)], args := [d] }
  | _ => none }
def SpanMovesWrongFalsely : Prop := spanMovesRow.holds Try.pinned (OpenSpec.ofChange spanMovesWrong)

/- THE SECOND FORM. 'bulk': how many values and letters a reading holds, each counted each time it is reached (what is shared counts as often as it is met; a slice's spare places count too). A statement '..UptoSaid' is the law's where the arguments, and the package variables that the reading takes, are together of bulk at most 1048576: NARROWER than '..Said'. Prove '..Said' where nothing that the law and all that it calls make is longer than what came in: it says more and counts as full. Else prove '..UptoSaid'. A law counts once. -/
mutual
def uptoBulk {H : Type} : DataW H → Nat
  | .lit (.string bytes) => bytes.length + 1
  | .lit _ => 1
  | .nil => 1
  | .ptr d => uptoBulk d + 1
  | .slice elems spare => uptoBulkAll elems + uptoBulkAll spare + 1
  | .agg parts => uptoBulkAll parts + 1
  | .iface _ d => uptoBulk d + 1
  | .map entries => uptoBulkEntries entries + 1
  | .held _ => 1
def uptoBulkAll {H : Type} : List (DataW H) → Nat
  | [] => 0
  | d :: r => uptoBulk d + uptoBulkAll r
def uptoBulkEntries {H : Type} : List (Lit × DataW H) → Nat
  | [] => 0
  | x :: r => uptoBulkEntry x + uptoBulkEntries r
def uptoBulkEntry {H : Type} : Lit × DataW H → Nat
  | (.string bytes, d) => bytes.length + uptoBulk d + 1
  | (_, d) => uptoBulk d + 1
 end
def uptoSmall : (H : Type) → List (DataW H) → Bool := fun _ ds => decide (uptoBulkAll ds ≤ 1048576)
def OpenSpec.upto (s : _root_.Go.ChangeSpec) : _root_.Go.OpenSpec := { _root_.Go.OpenSpec.ofChange s with cond := some uptoSmall }

/-- 'redraftlaw02.SpanNewMemory', WHERE WHAT IT READS IS OF BULK AT MOST 1048576: true; the input reads as it did. -/
def spanNewMemoryUptoRow : OpenClaim := { program := "ytohfckcikincoab", sum := "45172f6215dad31fbe0f7d0619960db0292aa1243dc6b7da3cdbcf237af18fcb", func := "redraft/redraftlaw02.SpanNewMemory", spec := "spanNewMemory", unfollowed := true, recurses := true, apart := false, narrowed := true }
def SpanNewMemoryUptoSaid : Prop := spanNewMemoryUptoRow.holds Try.pinned (OpenSpec.upto spanNewMemorySpec)

/-- 'redraftlaw02.SpanCounts', WHERE WHAT IT READS IS OF BULK AT MOST 1048576: true; the input reads as it did. -/
def spanCountsUptoRow : OpenClaim := { program := "ytohfckcikincoab", sum := "45172f6215dad31fbe0f7d0619960db0292aa1243dc6b7da3cdbcf237af18fcb", func := "redraft/redraftlaw02.SpanCounts", spec := "spanCounts", unfollowed := true, recurses := true, apart := false, narrowed := true }
def SpanCountsUptoSaid : Prop := spanCountsUptoRow.holds Try.pinned (OpenSpec.upto spanCountsSpec)

/-- 'redraftlaw02.SpanGives', WHERE WHAT IT READS IS OF BULK AT MOST 1048576: true; the input reads as it did. -/
def spanGivesUptoRow : OpenClaim := { program := "ytohfckcikincoab", sum := "45172f6215dad31fbe0f7d0619960db0292aa1243dc6b7da3cdbcf237af18fcb", func := "redraft/redraftlaw02.SpanGives", spec := "spanGives", unfollowed := true, recurses := true, apart := false, narrowed := true }
def SpanGivesUptoSaid : Prop := spanGivesUptoRow.holds Try.pinned (OpenSpec.upto spanGivesSpec)

/-- 'redraftlaw02.SpanChecks', WHERE WHAT IT READS IS OF BULK AT MOST 1048576: true; the input reads as it did. -/
def spanChecksUptoRow : OpenClaim := { program := "ytohfckcikincoab", sum := "45172f6215dad31fbe0f7d0619960db0292aa1243dc6b7da3cdbcf237af18fcb", func := "redraft/redraftlaw02.SpanChecks", spec := "spanChecks", unfollowed := true, recurses := true, apart := false, narrowed := true }
def SpanChecksUptoSaid : Prop := spanChecksUptoRow.holds Try.pinned (OpenSpec.upto spanChecksSpec)

/-- 'redraftlaw02.SpanSets', WHERE WHAT IT READS IS OF BULK AT MOST 1048576: true; the input reads as it did. -/
def spanSetsUptoRow : OpenClaim := { program := "ytohfckcikincoab", sum := "45172f6215dad31fbe0f7d0619960db0292aa1243dc6b7da3cdbcf237af18fcb", func := "redraft/redraftlaw02.SpanSets", spec := "spanSets", unfollowed := true, recurses := true, apart := false, narrowed := true }
def SpanSetsUptoSaid : Prop := spanSetsUptoRow.holds Try.pinned (OpenSpec.upto spanSetsSpec)

/-- 'redraftlaw02.SpanMoves', WHERE WHAT IT READS IS OF BULK AT MOST 1048576: true; the input reads as it did. -/
def spanMovesUptoRow : OpenClaim := { program := "ytohfckcikincoab", sum := "45172f6215dad31fbe0f7d0619960db0292aa1243dc6b7da3cdbcf237af18fcb", func := "redraft/redraftlaw02.SpanMoves", spec := "spanMoves", unfollowed := true, recurses := true, apart := false, narrowed := true }
def SpanMovesUptoSaid : Prop := spanMovesUptoRow.holds Try.pinned (OpenSpec.upto spanMovesSpec)

end Rows
end Go.Proofs.Ytohfckcikincoab
