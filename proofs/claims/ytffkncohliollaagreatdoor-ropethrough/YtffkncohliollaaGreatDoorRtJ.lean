import Derived.Test.YtffkncohliollaaGreatDoorRrPI
import Derived.Test.YtffkncohliollaaGreatDoorRvA
namespace Go.Proofs.YtffkncohliollaaGreatDoor
open Go.RowKit Go.Lib
set_option maxRecDepth 100000

end Go.Proofs.YtffkncohliollaaGreatDoor
