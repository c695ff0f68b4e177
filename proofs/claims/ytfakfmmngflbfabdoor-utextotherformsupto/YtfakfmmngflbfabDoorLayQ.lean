import Derived.Test.YtfakfmmngflbfabDoorFrame
import Derived.Test.YtfakfmmngflbfabDoorRows
import Derived.Test.YtfakfmmngflbfabDoorEsc
import Derived.LaidLaws
namespace Go.Proofs.YtfakfmmngflbfabDoor
open Go.ChangeShapes Go.WideShapes Go.ChangeAt Go.RowKit

theorem gDeb : Tryd.prog.globalNamed "math/bits.deBruijn64tab" = some 3 := by kernel_rfl
theorem gDebType : (Tryd.prog.globals[3]?).map (·.type) = some 100 := by kernel_rfl
theorem gSyn : Tryd.prog.globalNamed "strconv.ErrSyntax" = some 4 := by kernel_rfl
theorem gSynType : (Tryd.prog.globals[4]?).map (·.type) = some 51 := by kernel_rfl
theorem gRng : Tryd.prog.globalNamed "strconv.ErrRange" = some 5 := by kernel_rfl
theorem gRngType : (Tryd.prog.globals[5]?).map (·.type) = some 51 := by kernel_rfl
theorem cells8 : Tryd.prog.cellsOf 5 = 1 := by kernel_rfl

theorem var_heap {W : World} {n : String} {g : Nat} {cs : Array Value} (hg : Tryd.prog.globalNamed n = some g) (hv : World.var? Tryd.prog W n = some cs) : ∃ t fr, W.heap[g]? = some (.cells cs t fr) := by
  unfold World.var? at hv
  rw [hg] at hv
  simp only [Option.bind_some] at hv
  split at hv
  · rename_i c t fr he
    refine ⟨t, fr, ?_⟩
    rw [he]
    simp only [Option.some.injEq] at hv
    rw [hv]
  · cases hv
set_option maxRecDepth 100000 in
theorem debTable {W : World} {cs0 : Array Value} {f0 : Nat} {p0 : List MemPlace} (hv0 : World.var? Tryd.prog W "math/bits.deBruijn64tab" = some cs0)
    (hd0 : DataW.trod (fun _ => ()) Tryd.prog W 0 (fun _ => true) false f0 100 cs0.toList = some (Rows.laid_math_bits_deBruijn64tab, p0)) : Deb W := by
  obtain ⟨xs, m, _, hx, hlen, hn, hel⟩ := DataW.trod_array Tryd.underlying100 hd0
  have h15 := hel 15 (by decide)
  rw [cells8] at h15
  have hx1 := congrArg Prod.fst hx
  unfold Rows.laid_math_bits_deBruijn64tab at hx1
  simp only [DataW.agg.injEq] at hx1
  have h2 := congrArg (fun l => l[15]?) hx1
  simp only [List.getElem?_map] at h2
  obtain ⟨y, hy⟩ : ∃ y, xs[15]? = some y := ⟨xs[15]'(by omega), List.getElem?_eq_getElem (by omega)⟩
  rw [hy] at h15 h2
  obtain ⟨k, e2, f2, _⟩ := DataW.trod_int Tryd.underlying5 h15
  rw [f2] at h2
  have h3 : k = 4 := by
    simp at h2
    omega
  subst h3
  obtain ⟨t, fr, hh⟩ := var_heap gDeb hv0
  refine ⟨?_⟩
  have h4 : cs0.toList[15]? = some (.int .u8 4) := by
    have := congrArg (fun l => l[0]?) e2
    simpa [List.getElem?_take, List.getElem?_drop] using this
  simp only [World.cell?, hh]
  simpa using h4
theorem errVar {W : World} {n : String} {g : Nat} {cs0 : Array Value} {f0 : Nat} {nm : String} {d : DataW Unit} {p0 : List MemPlace} (hg : Tryd.prog.globalNamed n = some g) (hv0 : World.var? Tryd.prog W n = some cs0)
    (hd0 : DataW.trod (fun _ => ()) Tryd.prog W 0 (fun _ => true) false f0 51 cs0.toList = some (.iface nm d, p0)) : ∃ T v, W.cell? ⟨g, 0, none⟩ = some (.iface T v) ∧ g < W.heap.size := by
  obtain ⟨f1, u, v, hcs, _, _⟩ := iface_of_trod Tryd.underlying51 hd0
  obtain ⟨t, fr, hh⟩ := var_heap hg hv0
  refine ⟨u, v, ?_, (Array.getElem?_eq_some_iff.1 hh).1⟩
  have h4 : cs0.toList[0]? = some (.iface u v) := by rw [hcs]; rfl
  simp only [World.cell?, hh]
  simpa using h4
end Go.Proofs.YtfakfmmngflbfabDoor
