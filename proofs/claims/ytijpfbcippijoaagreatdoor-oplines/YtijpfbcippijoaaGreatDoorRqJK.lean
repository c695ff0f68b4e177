import Derived.Test.YtijpfbcippijoaaGreatDoorRqGI
import Derived.Test.YtijpfbcippijoaaGreatDoorGr7
namespace Go.Proofs.YtijpfbcippijoaaGreatDoor
open Go.RowKit Go.Lib
set_option maxRecDepth 100000
structure Sp (R1 R2 : List (Int × Int)) (a b : Tr) : Prop where
  ra : rowOf a.lv = R1
  rb : rowOf b.lv = R2
  ca : a.Can
  cb : b.Can
  pa : Pcs a.lv
  pb : Pcs b.lv
end Go.Proofs.YtijpfbcippijoaaGreatDoor
