import Derived.WalkKit
import Derived.Lib.OthersKept
import Derived.RangeFuncNested
import Derived.RangeFuncBound
import Derived.RangeFuncCalls
import Derived.RangeFuncLeaves
import Derived.Test.YtijpfbcippijoaaGreatDoorRpPR
import Derived.Test.YtijpfbcippijoaaGreatDoorRqJK
import Derived.Shelf.Abstract
import Derived.Shelf.RegionOpen
import Derived.OwnWalkIn
import Derived.TacticsInMore
import Derived.LoopNIn
import Derived.LoopIn
import Derived.Sort.QuietIn
namespace Go.Proofs.YtijpfbcippijoaaGreatDoor
set_option maxRecDepth 100000
def one (p : List Int × Int) (f lo hi : Int) : List (Int × List Int × Int) :=
  if max lo f < min hi (f + p.1.length) then [(max lo f, (p.1.take (min hi (f + p.1.length) - f).toNat).drop (max lo f - f).toNat, p.2)] else []
end Go.Proofs.YtijpfbcippijoaaGreatDoor
