import Derived.Test.YtohfckcikincoaaSpX
import Derived.Test.YtohfckcikincoaaLayF
import Derived.Test.YtohfckcikincoaaSpCp
namespace Go.Proofs.Ytohfckcikincoaa
open Go.RowKit Go.Lib Go.Sort Go.Shelf
set_option maxRecDepth 100000

end Go.Proofs.Ytohfckcikincoaa
