import Derived.Test.YtohfckcikincoabSpX
import Derived.Test.YtohfckcikincoabLayF
import Derived.Test.YtohfckcikincoabSpCp
namespace Go.Proofs.Ytohfckcikincoab
open Go.RowKit Go.Lib Go.Sort Go.Shelf
set_option maxRecDepth 100000

end Go.Proofs.Ytohfckcikincoab
