import Derived.Test.YtnbedohlgghhdaaDoorLayP
import Derived.Test.YtnbedohlgghhdaaDoorEscX
import Derived.LaidLaws
namespace Go.Proofs.YtnbedohlgghhdaaDoor
open Go.ChangeShapes Go.WideShapes Go.ChangeAt Go.RowKit

theorem gSyn : Tryd.prog.globalNamed "strconv.ErrSyntax" = some 3 := by kernel_rfl
theorem gSynType : (Tryd.prog.globals[3]?).map (·.type) = some 81 := by kernel_rfl
theorem gRng : Tryd.prog.globalNamed "strconv.ErrRange" = some 4 := by kernel_rfl
theorem gRngType : (Tryd.prog.globals[4]?).map (·.type) = some 81 := by kernel_rfl
theorem errVar {W : World} {n : String} {g : Nat} {cs0 : Array Value} {f0 : Nat} {nm : String} {d : DataW Unit} {p0 : List MemPlace} (hg : Tryd.prog.globalNamed n = some g) (hv0 : World.var? Tryd.prog W n = some cs0)
    (hd0 : DataW.trod (fun _ => ()) Tryd.prog W 0 (fun _ => true) false f0 81 cs0.toList = some (.iface nm d, p0)) : ∃ T v, W.cell? ⟨g, 0, none⟩ = some (.iface T v) ∧ g < W.heap.size := by
  obtain ⟨f1, u, v, hcs, _, _⟩ := iface_of_trod Tryd.underlying81 hd0
  obtain ⟨t, fr, hh⟩ := var_heap hg hv0
  refine ⟨u, v, ?_, (Array.getElem?_eq_some_iff.1 hh).1⟩
  have h4 : cs0.toList[0]? = some (.iface u v) := by rw [hcs]; rfl
  simp only [World.cell?, hh]
  simpa using h4
end Go.Proofs.YtnbedohlgghhdaaDoor
