import Derived.Test.YtijpfbcippijoaaGreatDoorLayP
import Derived.Test.YtijpfbcippijoaaGreatDoorEscU
import Derived.LaidLaws
namespace Go.Proofs.YtijpfbcippijoaaGreatDoor
open Go.ChangeShapes Go.WideShapes Go.ChangeAt Go.RowKit
theorem gSyn : Tryz.prog.globalNamed "strconv.ErrSyntax" = some 3 := by kernel_rfl
theorem gSynType : (Tryz.prog.globals[3]?).map (·.type) = some 129 := by kernel_rfl
theorem gRng : Tryz.prog.globalNamed "strconv.ErrRange" = some 4 := by kernel_rfl
theorem gRngType : (Tryz.prog.globals[4]?).map (·.type) = some 129 := by kernel_rfl
theorem errVar {W : World} {n : String} {g : Nat} {cs0 : Array Value} {f0 : Nat} {nm : String} {d : DataW Unit} {p0 : List MemPlace} (hg : Tryz.prog.globalNamed n = some g) (hv0 : World.var? Tryz.prog W n = some cs0)
    (hd0 : DataW.trod (fun _ => ()) Tryz.prog W 0 (fun _ => true) false f0 129 cs0.toList = some (.iface nm d, p0)) : ∃ T v, W.cell? ⟨g, 0, none⟩ = some (.iface T v) ∧ g < W.heap.size := by
  obtain ⟨f1, u, v, hcs, _, _⟩ := iface_of_trod Tryz.underlying129 hd0
  obtain ⟨t, fr, hh⟩ := var_heap hg hv0
  refine ⟨u, v, ?_, (Array.getElem?_eq_some_iff.1 hh).1⟩
  have h4 : cs0.toList[0]? = some (.iface u v) := by rw [hcs]; rfl
  simp only [World.cell?, hh]
  simpa using h4
end Go.Proofs.YtijpfbcippijoaaGreatDoor
