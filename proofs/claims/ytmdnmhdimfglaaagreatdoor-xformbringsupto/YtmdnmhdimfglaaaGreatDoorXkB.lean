import Derived.Test.YtmdnmhdimfglaaaGreatDoorGr11
import Derived.Test.YtmdnmhdimfglaaaGreatDoorXfC
import Derived.Test.YtmdnmhdimfglaaaGreatDoorGaI
import Derived.Deep.RegionWith
namespace Go.Proofs.YtmdnmhdimfglaaaGreatDoor
open Go.RowKit Go.Lib
set_option maxRecDepth 100000
theorem src_rdy {W w5 : World} {x : OpM} {o1 : OpV} {va : Option Addr} {vm vc g1 g2 : Nat} (hb : Below W.heap.size W w5) (hx : Rdy W x ∧ Apt (some ⟨g1, 0, none⟩) x ∧ Apt (some ⟨g2, 0, none⟩) x) (hg1 : g1 < W.heap.size) (hg2 : g2 < W.heap.size)
    (hs : Src (.slice x.2.1 x.2.2.1 x.2.2.2) x.1.l W w5 (.slice va vm vc) o1.l) (q1 : o1.l.length ≤ 1000000000) (q2 : o1.s.size ≤ 281474976710656) :
    Rdy w5 (o1, (va, vm, vc)) ∧ Apt (some ⟨g1, 0, none⟩) ((o1, (va, vm, vc)) : OpM) ∧ Apt (some ⟨g2, 0, none⟩) ((o1, (va, vm, vc)) : OpM) := by
  rcases hs with ⟨e, el⟩ | ho
  · cases e
    exact ⟨⟨by rw [el]; exact hx.1.rng.below hb, q1, q2⟩, hx.2.1, hx.2.2⟩
  · refine ⟨⟨rng_of_rw (ho.rw_ layG), q1, q2⟩, own_apt (B := W.heap.size) ho (fun ad e => ?_), own_apt (B := W.heap.size) ho (fun ad e => ?_)⟩
    · cases e; exact hg1
    · cases e; exact hg2
theorem opOk_rdy {w : World} {x : OpM} (h : OpOk w x) : Rdy w x := ⟨h.1, by have := h.1.len; have := h.2.1; omega, by have := h.2.2; omega⟩
end Go.Proofs.YtmdnmhdimfglaaaGreatDoor
