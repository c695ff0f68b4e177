import Derived.Test.YtjnglghhcbdpmaaSpC
namespace Go.Proofs.Ytjnglghhcbdpmaa
open Go.RowKit Go.Lib
set_option maxRecDepth 100000

end Go.Proofs.Ytjnglghhcbdpmaa
