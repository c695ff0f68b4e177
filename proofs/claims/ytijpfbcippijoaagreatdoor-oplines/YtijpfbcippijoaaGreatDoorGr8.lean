import Derived.Test.YtijpfbcippijoaaGreatDoorRtCG
import Derived.Test.YtijpfbcippijoaaGreatDoorRpST
namespace Go.Proofs.YtijpfbcippijoaaGreatDoor
open Go.RowKit Go.Lib
set_option maxRecDepth 100000
theorem Bout.len {t t' : Tr} {f : Nat} {l : List (Int × Int)} {d : Int} (h : Bout t f l d t') : t'.row.length = t.row.length := by rw [h.row, bmp_len]
end Go.Proofs.YtijpfbcippijoaaGreatDoor

namespace Go.Proofs.YtijpfbcippijoaaGreatDoor
open Go.RowKit Go.Lib
set_option maxRecDepth 100000
end Go.Proofs.YtijpfbcippijoaaGreatDoor
