import Derived.Test.YtjnglghhcbdpmaaSpSo
import Derived.Test.YtjnglghhcbdpmaaSpPc
namespace Go.Proofs.Ytjnglghhcbdpmaa
open Go.RowKit Go.Lib
set_option maxRecDepth 100000

end Go.Proofs.Ytjnglghhcbdpmaa
