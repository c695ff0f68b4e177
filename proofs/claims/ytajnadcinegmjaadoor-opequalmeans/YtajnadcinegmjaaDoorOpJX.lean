import Derived.Test.YtajnadcinegmjaaDoorOpI
namespace Go.Proofs.YtajnadcinegmjaaDoor
open Go.RowKit Go.Lib Sp
set_option maxRecDepth 100000


end Go.Proofs.YtajnadcinegmjaaDoor

namespace Go.Proofs.YtajnadcinegmjaaDoor
open Go.RowKit Go.Lib Sp
set_option maxRecDepth 100000


end Go.Proofs.YtajnadcinegmjaaDoor

namespace Go.Proofs.YtajnadcinegmjaaDoor
open Go.RowKit Go.Lib Sp
set_option maxRecDepth 100000


end Go.Proofs.YtajnadcinegmjaaDoor

namespace Go.Proofs.YtajnadcinegmjaaDoor
open Go.RowKit Go.Lib Sp
set_option maxRecDepth 100000


end Go.Proofs.YtajnadcinegmjaaDoor
