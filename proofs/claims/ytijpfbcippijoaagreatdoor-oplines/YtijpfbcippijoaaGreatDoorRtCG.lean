import Derived.Test.YtijpfbcippijoaaGreatDoorGr19
import Derived.Test.YtijpfbcippijoaaGreatDoorRqGI
namespace Go.Proofs.YtijpfbcippijoaaGreatDoor
open Go.RowKit Go.Lib
set_option maxRecDepth 100000
section
variable (rs : List Int) (h : Int) (f : Nat) (d : Int)
end
end Go.Proofs.YtijpfbcippijoaaGreatDoor

namespace Go.Proofs.YtijpfbcippijoaaGreatDoor
open Go.RowKit Go.Lib
set_option maxRecDepth 100000
def inL (l : List (Int × Int)) (q : Int) : Bool := l.any fun x => decide (x.1 ≤ q ∧ q < x.2)
def bmp (l : List (Int × Int)) (d : Int) : Int → List (Int × Int) → List (Int × Int)
  | _, [] => []
  | f, c :: R => (if inL l f = true then (c.1, c.2 + d) else c) :: bmp l d (f + 1) R
section
variable {l k : List (Int × Int)} {d : Int}
theorem bmp_len : ∀ (R : List (Int × Int)) (f : Int), (bmp l d f R).length = R.length
  | [], _ => rfl
  | _ :: R, f => by simp only [bmp, List.length_cons, bmp_len R]
end
theorem Srt.first {x : Int × Int} {l : List (Int × Int)} (h : Srt (x :: l)) : ∀ y ∈ l, x.2 < y.1 := fun y hy => by
  obtain ⟨j, hj⟩ := List.getElem?_of_mem hy
  exact h.apart 0 (j + 1) x y (by omega) (by simp) (by simpa using hj)
end Go.Proofs.YtijpfbcippijoaaGreatDoor

namespace Go.Proofs.YtijpfbcippijoaaGreatDoor
open Go.RowKit Go.Lib
set_option maxRecDepth 100000
structure Bout (t : Tr) (f : Nat) (l : List (Int × Int)) (d : Int) (t' : Tr) : Prop where
  fine : t'.Fine
  pcs : Pcs t'.lv
  row : t'.row = bmp l d f t.row
end Go.Proofs.YtijpfbcippijoaaGreatDoor

namespace Go.Proofs.YtijpfbcippijoaaGreatDoor
open Go.RowKit Go.Lib
set_option maxRecDepth 100000
end Go.Proofs.YtijpfbcippijoaaGreatDoor
