import Derived.Test.YtijpfbcippijoaaGreatDoorGr14
import Derived.Test.YtijpfbcippijoaaGreatDoorQkAE
import Derived.Deep.Cut
import Derived.Deep.MidRow
import Derived.Deep.WholeRow
namespace Go.Proofs.YtijpfbcippijoaaGreatDoor
open Go.RowKit Go.Lib
set_option maxRecDepth 100000
def StepOk2 (W : World) (x : StepV) : Prop := StepOk W x ∧ x.m ≤ 1048576 ∧ Sp.Rng W x.a2 x.m2 x.cap2 x.o2.l ∧ x.m2 ≤ 1048576 ∧ x.o2.s.size ≤ 2097152
end Go.Proofs.YtijpfbcippijoaaGreatDoor
