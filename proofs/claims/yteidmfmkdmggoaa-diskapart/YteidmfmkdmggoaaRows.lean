/-
  No cell of these rows narrows 'for every input' (looked for: loops, veiled, ifaces, maps, wideKeys, modest, calm, conditions, laid).
  DERIVED. THE GIVEN ROWS OF THIS SEAT. 6 by the template 'for every input the law returns true; each argument reads behind the call as it read before'; 0 by the template 'total and deterministic' (their statements: YteidmfmkdmggoaaTotals.lean).
  GIVEN WITH THE SEED: the statements are not yours to turn. If you find one false, say at which input.
  Laid BY PROGRAM, IN A SANDBOX (cutbox-rows.mjs): the forced cells as the released guide's own fill.sh prints them over the translation ad49bd4e87d85bdf… (all of the seat's roots in one cut). By AI agents, Wed Nov 11 2026. No macro, syntax, notation, axiom, sorry.
-/
import Derived.Test.YteidmfmkdmggoaaChecked
import GoSem.Claim
import GoSem.ClaimJoined
import GoSem.ClaimMapViews
import Derived.JoinedTies
import Derived.KernelRfl
namespace Go.Proofs.Yteidmfmkdmggoaa
/- THE CELL 'sum', in the pinned program and in every row, IS THE sha256 OF THE DUMP (.gsa) THAT YteidmfmkdmggoaaProg.lean LOADS. Nothing in Lean hashes anything: it is a label: what it is worth is what the hold of that sum in a sandbox is worth. -/
noncomputable def Try.pinned : Pinned := { name := "yteidmfmkdmggoaa", sum := "ad49bd4e87d85bdf479cfe11a4f2004ac5b77a90367fd5c0aa75c9a5512db047", checked := Try.checked }
namespace Rows
def none {H : Type} : Left H := { results := [], args := [] }

/-- 'redraftlaw11.DiskPrefix': WHATEVER THE INPUT: true; the input reads as it did. -/
def diskPrefixSpec : ChangeSpec := { name := "diskPrefix", fn := fun _ => fun
  | [d] => { results := [.lit (.bool true)], args := [d] }
  | _ => none }
def diskPrefixRow : OpenClaim := { program := "yteidmfmkdmggoaa", sum := "ad49bd4e87d85bdf479cfe11a4f2004ac5b77a90367fd5c0aa75c9a5512db047", func := "redraft/redraftlaw11.DiskPrefix", spec := "diskPrefix", inPlace := ["internal/bytealg.abigen_runtime_cmpstring"], unfollowed := true, recurses := true, apart := false }
def DiskPrefixSaid : Prop := diskPrefixRow.holds Try.pinned (OpenSpec.ofChange diskPrefixSpec)

/-- ITS FALSE NEIGHBOUR: 'it returns false'. Refute it at one input. -/
def diskPrefixWrong : ChangeSpec := { name := "diskPrefix", fn := fun _ => fun
  | [d] => { results := [.lit (.bool false)], args := [d] }
  | _ => none }
def DiskPrefixWrongFalsely : Prop := diskPrefixRow.holds Try.pinned (OpenSpec.ofChange diskPrefixWrong)

/-- 'redraftlaw11.DiskNewMemory': WHATEVER THE INPUT: true; the input reads as it did. -/
def diskNewMemorySpec : ChangeSpec := { name := "diskNewMemory", fn := fun _ => fun
  | [d] => { results := [.lit (.bool true)], args := [d] }
  | _ => none }
def diskNewMemoryRow : OpenClaim := { program := "yteidmfmkdmggoaa", sum := "ad49bd4e87d85bdf479cfe11a4f2004ac5b77a90367fd5c0aa75c9a5512db047", func := "redraft/redraftlaw11.DiskNewMemory", spec := "diskNewMemory", inPlace := ["internal/bytealg.abigen_runtime_cmpstring"], unfollowed := true, recurses := true, apart := false }
def DiskNewMemorySaid : Prop := diskNewMemoryRow.holds Try.pinned (OpenSpec.ofChange diskNewMemorySpec)

/-- ITS FALSE NEIGHBOUR: 'it returns false'. Refute it at one input. -/
def diskNewMemoryWrong : ChangeSpec := { name := "diskNewMemory", fn := fun _ => fun
  | [d] => { results := [.lit (.bool false)], args := [d] }
  | _ => none }
def DiskNewMemoryWrongFalsely : Prop := diskNewMemoryRow.holds Try.pinned (OpenSpec.ofChange diskNewMemoryWrong)

/-- 'redraftlaw11.DiskLimit': WHATEVER THE INPUT: true; the input reads as it did. -/
def diskLimitSpec : ChangeSpec := { name := "diskLimit", fn := fun _ => fun
  | [d] => { results := [.lit (.bool true)], args := [d] }
  | _ => none }
def diskLimitRow : OpenClaim := { program := "yteidmfmkdmggoaa", sum := "ad49bd4e87d85bdf479cfe11a4f2004ac5b77a90367fd5c0aa75c9a5512db047", func := "redraft/redraftlaw11.DiskLimit", spec := "diskLimit", inPlace := ["internal/bytealg.abigen_runtime_cmpstring"], unfollowed := true, recurses := true, apart := false }
def DiskLimitSaid : Prop := diskLimitRow.holds Try.pinned (OpenSpec.ofChange diskLimitSpec)

/-- ITS FALSE NEIGHBOUR: 'it returns false'. Refute it at one input. -/
def diskLimitWrong : ChangeSpec := { name := "diskLimit", fn := fun _ => fun
  | [d] => { results := [.lit (.bool false)], args := [d] }
  | _ => none }
def DiskLimitWrongFalsely : Prop := diskLimitRow.holds Try.pinned (OpenSpec.ofChange diskLimitWrong)

/-- 'redraftlaw11.DiskArmedIsCrash': WHATEVER THE INPUT: true; the input reads as it did. -/
def diskArmedIsCrashSpec : ChangeSpec := { name := "diskArmedIsCrash", fn := fun _ => fun
  | [d1, d2, d3] => { results := [.lit (.bool true)], args := [d1, d2, d3] }
  | _ => none }
def diskArmedIsCrashRow : OpenClaim := { program := "yteidmfmkdmggoaa", sum := "ad49bd4e87d85bdf479cfe11a4f2004ac5b77a90367fd5c0aa75c9a5512db047", func := "redraft/redraftlaw11.DiskArmedIsCrash", spec := "diskArmedIsCrash", inPlace := ["internal/bytealg.abigen_runtime_cmpstring"], unfollowed := true, recurses := true, apart := false }
def DiskArmedIsCrashSaid : Prop := diskArmedIsCrashRow.holds Try.pinned (OpenSpec.ofChange diskArmedIsCrashSpec)

/-- ITS FALSE NEIGHBOUR: 'it returns false'. Refute it at one input. -/
def diskArmedIsCrashWrong : ChangeSpec := { name := "diskArmedIsCrash", fn := fun _ => fun
  | [d1, d2, d3] => { results := [.lit (.bool false)], args := [d1, d2, d3] }
  | _ => none }
def DiskArmedIsCrashWrongFalsely : Prop := diskArmedIsCrashRow.holds Try.pinned (OpenSpec.ofChange diskArmedIsCrashWrong)

/-- 'redraftlaw11.DiskApart': WHATEVER THE INPUT: true; the input reads as it did. -/
def diskApartSpec : ChangeSpec := { name := "diskApart", fn := fun _ => fun
  | [d1, d2] => { results := [.lit (.bool true)], args := [d1, d2] }
  | _ => none }
def diskApartRow : OpenClaim := { program := "yteidmfmkdmggoaa", sum := "ad49bd4e87d85bdf479cfe11a4f2004ac5b77a90367fd5c0aa75c9a5512db047", func := "redraft/redraftlaw11.DiskApart", spec := "diskApart", inPlace := ["internal/bytealg.abigen_runtime_cmpstring"], unfollowed := true, recurses := true, apart := false }
def DiskApartSaid : Prop := diskApartRow.holds Try.pinned (OpenSpec.ofChange diskApartSpec)

/-- ITS FALSE NEIGHBOUR: 'it returns false'. Refute it at one input. -/
def diskApartWrong : ChangeSpec := { name := "diskApart", fn := fun _ => fun
  | [d1, d2] => { results := [.lit (.bool false)], args := [d1, d2] }
  | _ => none }
def DiskApartWrongFalsely : Prop := diskApartRow.holds Try.pinned (OpenSpec.ofChange diskApartWrong)

/-- 'redraftlaw11.DiskLoaded': WHATEVER THE INPUT: true; the input reads as it did. -/
def diskLoadedSpec : ChangeSpec := { name := "diskLoaded", fn := fun _ => fun
  | [d1, d2] => { results := [.lit (.bool true)], args := [d1, d2] }
  | _ => none }
def diskLoadedRow : OpenClaim := { program := "yteidmfmkdmggoaa", sum := "ad49bd4e87d85bdf479cfe11a4f2004ac5b77a90367fd5c0aa75c9a5512db047", func := "redraft/redraftlaw11.DiskLoaded", spec := "diskLoaded", inPlace := ["internal/bytealg.abigen_runtime_cmpstring"], unfollowed := true, recurses := true, apart := false }
def DiskLoadedSaid : Prop := diskLoadedRow.holds Try.pinned (OpenSpec.ofChange diskLoadedSpec)

/-- ITS FALSE NEIGHBOUR: 'it returns false'. Refute it at one input. -/
def diskLoadedWrong : ChangeSpec := { name := "diskLoaded", fn := fun _ => fun
  | [d1, d2] => { results := [.lit (.bool false)], args := [d1, d2] }
  | _ => none }
def DiskLoadedWrongFalsely : Prop := diskLoadedRow.holds Try.pinned (OpenSpec.ofChange diskLoadedWrong)

/- THE SECOND FORM. 'bulk': how many values and letters a reading holds, each counted each time it is reached (what is shared counts as often as it is met; a slice's spare places count too). A statement '..UptoSaid' is the law's where the arguments, and the package variables that the reading takes, are together of bulk at most 1048576: NARROWER than '..Said'. Prove '..Said' where nothing that the law and all that it calls make is longer than what came in: it says more and counts as full. Else prove '..UptoSaid'. A law counts once. -/
mutual
def uptoBulk {H : Type} : DataW H → Nat
  | .lit (.string bytes) => bytes.length + 1
  | .lit _ => 1
  | .nil => 1
  | .ptr d => uptoBulk d + 1
  | .slice elems spare => uptoBulkAll elems + uptoBulkAll spare + 1
  | .agg parts => uptoBulkAll parts + 1
  | .iface _ d => uptoBulk d + 1
  | .map entries => uptoBulkEntries entries + 1
  | .held _ => 1
def uptoBulkAll {H : Type} : List (DataW H) → Nat
  | [] => 0
  | d :: r => uptoBulk d + uptoBulkAll r
def uptoBulkEntries {H : Type} : List (Lit × DataW H) → Nat
  | [] => 0
  | x :: r => uptoBulkEntry x + uptoBulkEntries r
def uptoBulkEntry {H : Type} : Lit × DataW H → Nat
  | (.string bytes, d) => bytes.length + uptoBulk d + 1
  | (_, d) => uptoBulk d + 1
 end
def uptoSmall : (H : Type) → List (DataW H) → Bool := fun _ ds => decide (uptoBulkAll ds ≤ 1048576)
def OpenSpec.upto (s : _root_.Go.ChangeSpec) : _root_.Go.OpenSpec := { _root_.Go.OpenSpec.ofChange s with cond := some uptoSmall }

/-- 'redraftlaw11.DiskPrefix', WHERE WHAT IT READS IS OF BULK AT MOST 1048576: true; the input reads as it did. -/
def diskPrefixUptoRow : OpenClaim := { program := "yteidmfmkdmggoaa", sum := "ad49bd4e87d85bdf479cfe11a4f2004ac5b77a90367fd5c0aa75c9a5512db047", func := "redraft/redraftlaw11.DiskPrefix", spec := "diskPrefix", inPlace := ["internal/bytealg.abigen_runtime_cmpstring"], unfollowed := true, recurses := true, apart := false, narrowed := true }
def DiskPrefixUptoSaid : Prop := diskPrefixUptoRow.holds Try.pinned (OpenSpec.upto diskPrefixSpec)

/-- 'redraftlaw11.DiskNewMemory', WHERE WHAT IT READS IS OF BULK AT MOST 1048576: true; the input reads as it did. -/
def diskNewMemoryUptoRow : OpenClaim := { program := "yteidmfmkdmggoaa", sum := "ad49bd4e87d85bdf479cfe11a4f2004ac5b77a90367fd5c0aa75c9a5512db047", func := "redraft/redraftlaw11.DiskNewMemory", spec := "diskNewMemory", inPlace := ["internal/bytealg.abigen_runtime_cmpstring"], unfollowed := true, recurses := true, apart := false, narrowed := true }
def DiskNewMemoryUptoSaid : Prop := diskNewMemoryUptoRow.holds Try.pinned (OpenSpec.upto diskNewMemorySpec)

/-- 'redraftlaw11.DiskLimit', WHERE WHAT IT READS IS OF BULK AT MOST 1048576: true; the input reads as it did. -/
def diskLimitUptoRow : OpenClaim := { program := "yteidmfmkdmggoaa", sum := "ad49bd4e87d85bdf479cfe11a4f2004ac5b77a90367fd5c0aa75c9a5512db047", func := "redraft/redraftlaw11.DiskLimit", spec := "diskLimit", inPlace := ["internal/bytealg.abigen_runtime_cmpstring"], unfollowed := true, recurses := true, apart := false, narrowed := true }
def DiskLimitUptoSaid : Prop := diskLimitUptoRow.holds Try.pinned (OpenSpec.upto diskLimitSpec)

/-- 'redraftlaw11.DiskArmedIsCrash', WHERE WHAT IT READS IS OF BULK AT MOST 1048576: true; the input reads as it did. -/
def diskArmedIsCrashUptoRow : OpenClaim := { program := "yteidmfmkdmggoaa", sum := "ad49bd4e87d85bdf479cfe11a4f2004ac5b77a90367fd5c0aa75c9a5512db047", func := "redraft/redraftlaw11.DiskArmedIsCrash", spec := "diskArmedIsCrash", inPlace := ["internal/bytealg.abigen_runtime_cmpstring"], unfollowed := true, recurses := true, apart := false, narrowed := true }
def DiskArmedIsCrashUptoSaid : Prop := diskArmedIsCrashUptoRow.holds Try.pinned (OpenSpec.upto diskArmedIsCrashSpec)

/-- 'redraftlaw11.DiskApart', WHERE WHAT IT READS IS OF BULK AT MOST 1048576: true; the input reads as it did. -/
def diskApartUptoRow : OpenClaim := { program := "yteidmfmkdmggoaa", sum := "ad49bd4e87d85bdf479cfe11a4f2004ac5b77a90367fd5c0aa75c9a5512db047", func := "redraft/redraftlaw11.DiskApart", spec := "diskApart", inPlace := ["internal/bytealg.abigen_runtime_cmpstring"], unfollowed := true, recurses := true, apart := false, narrowed := true }
def DiskApartUptoSaid : Prop := diskApartUptoRow.holds Try.pinned (OpenSpec.upto diskApartSpec)

/-- 'redraftlaw11.DiskLoaded', WHERE WHAT IT READS IS OF BULK AT MOST 1048576: true; the input reads as it did. -/
def diskLoadedUptoRow : OpenClaim := { program := "yteidmfmkdmggoaa", sum := "ad49bd4e87d85bdf479cfe11a4f2004ac5b77a90367fd5c0aa75c9a5512db047", func := "redraft/redraftlaw11.DiskLoaded", spec := "diskLoaded", inPlace := ["internal/bytealg.abigen_runtime_cmpstring"], unfollowed := true, recurses := true, apart := false, narrowed := true }
def DiskLoadedUptoSaid : Prop := diskLoadedUptoRow.holds Try.pinned (OpenSpec.upto diskLoadedSpec)

end Rows
end Go.Proofs.Yteidmfmkdmggoaa
