import Derived.Test.YtijpfbcippijoaaGreatDoorRpPR
import Derived.Test.YtijpfbcippijoaaGreatDoorRpST
namespace Go.Proofs.YtijpfbcippijoaaGreatDoor
open Go.RowKit Go.Lib
set_option maxRecDepth 100000
structure Tr.Fine (t : Tr) : Prop where
  wf : t.Wf
  bd : t.Bd
  avl : t.Avl
end Go.Proofs.YtijpfbcippijoaaGreatDoor

namespace Go.Proofs.YtijpfbcippijoaaGreatDoor
open Go.RowKit Go.Lib
set_option maxRecDepth 100000
def Tr.Can (t : Tr) : Prop := t = .nil ∨ t.Fine
end Go.Proofs.YtijpfbcippijoaaGreatDoor
