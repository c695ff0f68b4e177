import Derived.Test.YtjngncamhnpphaaDeA
import Derived.Test.YtjngncamhnpphaaDcG
/-! DiskApart, where a limit is refused. -/
namespace Go.Proofs.Ytjngncamhnpphaa
open Go.RowKit Go.Lib Go.Sort Go.Shelf
set_option maxRecDepth 100000

end Go.Proofs.Ytjngncamhnpphaa
