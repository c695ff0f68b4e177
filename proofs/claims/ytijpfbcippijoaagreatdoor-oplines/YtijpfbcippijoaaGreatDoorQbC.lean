import Derived.Test.YtijpfbcippijoaaGreatDoorGr22
import Derived.Test.YtijpfbcippijoaaGreatDoorOpLR
import Derived.Deep.RegionHeld3
namespace Go.Proofs.YtijpfbcippijoaaGreatDoor
open Go.RowKit Go.Lib Sp
set_option maxRecDepth 100000
end Go.Proofs.YtijpfbcippijoaaGreatDoor
