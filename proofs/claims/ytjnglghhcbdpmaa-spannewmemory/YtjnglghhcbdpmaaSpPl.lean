import Derived.Test.YtjnglghhcbdpmaaSpPo
namespace Go.Proofs.Ytjnglghhcbdpmaa
open Go.RowKit Go.Lib
set_option maxRecDepth 100000

/-- Two rows that share no block. -/
def Apart (u v : Value) : Prop := ∀ g, u.ownBlock = some g → v.ownBlock ≠ some g
end Go.Proofs.Ytjnglghhcbdpmaa
