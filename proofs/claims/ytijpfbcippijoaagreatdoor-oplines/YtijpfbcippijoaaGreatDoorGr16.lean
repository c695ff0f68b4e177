import Derived.Test.YtijpfbcippijoaaGreatDoorRqBC
import Derived.Lib.AppendZerosOnto
namespace Go.Proofs.YtijpfbcippijoaaGreatDoor
open Go.RowKit Go.Lib
set_option maxRecDepth 100000
structure TwoRows (w : World) (g : Nat) (a1 : Option Addr) (n1 c1 : Nat) (r1 : List Int) (a2 : Option Addr) (n2 c2 : Nat) (r2 : List Int) : Prop where
  first : w.cell? ⟨g, 0, none⟩ = some (.slice a1 n1 c1)
  second : w.cell? ⟨g, 1, none⟩ = some (.slice a2 n2 c2)
  lt : g < w.heap.size
  row1 : Rw runeV 1 w a1 n1 c1 r1
  row2 : Rw runeV 1 w a2 n2 c2 r2
theorem TwoRows.below {w w' : World} {g : Nat} {a1 : Option Addr} {n1 c1 : Nat} {r1 : List Int} {a2 : Option Addr} {n2 c2 : Nat} {r2 : List Int} (h : TwoRows w g a1 n1 c1 r1 a2 n2 c2 r2) (hb : Below w.heap.size w w') : TwoRows w' g a1 n1 c1 r1 a2 n2 c2 r2 :=
  ⟨(hb.cell (p := ⟨g, 0, none⟩) h.lt).trans h.first, (hb.cell (p := ⟨g, 1, none⟩) h.lt).trans h.second, by have := hb.size; have := h.lt; omega, h.row1.below hb, h.row2.below hb⟩
end Go.Proofs.YtijpfbcippijoaaGreatDoor

namespace Go.Proofs.YtijpfbcippijoaaGreatDoor
open Go.RowKit Go.Lib
set_option maxRecDepth 100000
end Go.Proofs.YtijpfbcippijoaaGreatDoor

namespace Go.Proofs.YtijpfbcippijoaaGreatDoor
open Go.RowKit Go.Lib
set_option maxRecDepth 100000
end Go.Proofs.YtijpfbcippijoaaGreatDoor
