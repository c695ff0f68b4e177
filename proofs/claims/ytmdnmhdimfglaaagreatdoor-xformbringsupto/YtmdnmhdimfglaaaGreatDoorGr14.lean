import Derived.Test.YtmdnmhdimfglaaaGreatDoorXkD
import Derived.Test.YtmdnmhdimfglaaaGreatDoorGaA
namespace Go.Proofs.YtmdnmhdimfglaaaGreatDoor
open Go.RowKit Go.Lib
set_option maxRecDepth 100000
def no2 (e : Int) : (List OpV × List OpV) × Int := (([], []), e)
end Go.Proofs.YtmdnmhdimfglaaaGreatDoor
