import Derived.Test.YtfehgaioioejoaaDeA
import Derived.Test.YtfehgaioioejoaaDcG
/-! DiskApart, where a limit is refused. -/
namespace Go.Proofs.Ytfehgaioioejoaa
open Go.RowKit Go.Lib Go.Sort Go.Shelf
set_option maxRecDepth 100000

end Go.Proofs.Ytfehgaioioejoaa
