import Derived.Test.YtnbedohlgghhdaaDoorOpI
namespace Go.Proofs.YtnbedohlgghhdaaDoor
open Go.RowKit Go.Lib Sp
set_option maxRecDepth 100000


end Go.Proofs.YtnbedohlgghhdaaDoor

namespace Go.Proofs.YtnbedohlgghhdaaDoor
open Go.RowKit Go.Lib Sp
set_option maxRecDepth 100000


end Go.Proofs.YtnbedohlgghhdaaDoor

namespace Go.Proofs.YtnbedohlgghhdaaDoor
open Go.RowKit Go.Lib Sp
set_option maxRecDepth 100000


end Go.Proofs.YtnbedohlgghhdaaDoor

namespace Go.Proofs.YtnbedohlgghhdaaDoor
open Go.RowKit Go.Lib Sp
set_option maxRecDepth 100000


end Go.Proofs.YtnbedohlgghhdaaDoor
