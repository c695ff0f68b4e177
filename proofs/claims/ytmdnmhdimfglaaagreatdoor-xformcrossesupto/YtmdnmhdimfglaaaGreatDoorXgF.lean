import Derived.Test.YtmdnmhdimfglaaaGreatDoorXgE
namespace Go.Proofs.YtmdnmhdimfglaaaGreatDoor
open Go.RowKit Go.Lib
set_option maxRecDepth 100000
structure Scr (w : World) (a : Option Addr) (n cap : Nat) (L : List XOp) : Prop where
  row : Rw xopF 24 w a n cap L
  ok : ∀ x ∈ L, XOk w x
  bar : Bar w
theorem Scr.below {w W : World} {a : Option Addr} {n cap : Nat} {L : List XOp} (h : Scr w a n cap L) (hb : Below w.heap.size w W) : Scr W a n cap L :=
  ⟨h.row.below hb, fun x hx => (h.ok x hx).below hb, h.bar.below hb⟩
end Go.Proofs.YtmdnmhdimfglaaaGreatDoor
