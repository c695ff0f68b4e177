import Derived.Test.YtijpfbcippijoaaGreatDoorRqOP
import Derived.Lib.RuneBytes
import Derived.Lib.FrozenHead2
import Derived.Lib.OthersKept