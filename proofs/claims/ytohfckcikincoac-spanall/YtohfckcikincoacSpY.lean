import Derived.Test.YtohfckcikincoacSpX
import Derived.Test.YtohfckcikincoacLayF
import Derived.Test.YtohfckcikincoacSpCp
namespace Go.Proofs.Ytohfckcikincoac
open Go.RowKit Go.Lib Go.Sort Go.Shelf
set_option maxRecDepth 100000

end Go.Proofs.Ytohfckcikincoac
