import Derived.Test.YtjnglghhcbdpmaaSpX
import Derived.Test.YtjnglghhcbdpmaaLayF
import Derived.Test.YtjnglghhcbdpmaaSpCp
namespace Go.Proofs.Ytjnglghhcbdpmaa
open Go.RowKit Go.Lib Go.Sort Go.Shelf
set_option maxRecDepth 100000

end Go.Proofs.Ytjnglghhcbdpmaa
