import Derived.Test.YtijpfbcippijoaaGreatDoorGr28
import Derived.Lib.RuneBytes
import Derived.Lib.FrozenHead2
import Derived.Lib.OthersKept