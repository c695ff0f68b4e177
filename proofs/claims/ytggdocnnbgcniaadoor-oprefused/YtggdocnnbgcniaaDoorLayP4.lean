import Derived.Test.YtggdocnnbgcniaaDoorQfCO
import Derived.Test.YtggdocnnbgcniaaDoorRows
import Derived.Test.YtggdocnnbgcniaaDoorOpLR
import Derived.LaidLaws
import Derived.Test.YtggdocnnbgcniaaDoorTxtF
namespace Go.Proofs.YtggdocnnbgcniaaDoor
open Go.ChangeShapes Go.WideShapes Go.ChangeAt Go.RowKit

theorem gDeb : Tryd.prog.globalNamed "math/bits.deBruijn64tab" = some 3 := by kernel_rfl
theorem gDebType : (Tryd.prog.globals[3]?).map (·.type) = some 177 := by kernel_rfl
theorem cells8 : Tryd.prog.cellsOf 5 = 1 := by kernel_rfl

theorem var_heap {W : World} {n : String} {g : Nat} {cs : Array Value} (hg : Tryd.prog.globalNamed n = some g) (hv : World.var? Tryd.prog W n = some cs) : ∃ t fr, W.heap[g]? = some (.cells cs t fr) := by
  unfold World.var? at hv
  rw [hg] at hv
  simp only [Option.bind_some] at hv
  split at hv
  · rename_i c t fr he
    refine ⟨t, fr, ?_⟩
    rw [he]
    simp only [Option.some.injEq] at hv
    rw [hv]
  · cases hv
set_option maxRecDepth 100000 in
theorem debTable {W : World} {cs0 : Array Value} {f0 : Nat} {p0 : List MemPlace} (hv0 : World.var? Tryd.prog W "math/bits.deBruijn64tab" = some cs0)
    (hd0 : DataW.trod (fun _ => ()) Tryd.prog W 0 (fun _ => true) false f0 177 cs0.toList = some (Rows.laid_math_bits_deBruijn64tab, p0)) : Deb W := by
  obtain ⟨xs, m, _, hx, hlen, hn, hel⟩ := DataW.trod_array Tryd.underlying177 hd0
  have h15 := hel 15 (by decide)
  rw [cells8] at h15
  have hx1 := congrArg Prod.fst hx
  unfold Rows.laid_math_bits_deBruijn64tab at hx1
  simp only [DataW.agg.injEq] at hx1
  have h2 := congrArg (fun l => l[15]?) hx1
  simp only [List.getElem?_map] at h2
  obtain ⟨y, hy⟩ : ∃ y, xs[15]? = some y := ⟨xs[15]'(by omega), List.getElem?_eq_getElem (by omega)⟩
  rw [hy] at h15 h2
  obtain ⟨k, e2, f2, _⟩ := DataW.trod_int Tryd.underlying5 h15
  rw [f2] at h2
  have h3 : k = 4 := by
    simp at h2
    omega
  subst h3
  obtain ⟨t, fr, hh⟩ := var_heap gDeb hv0
  refine ⟨?_⟩
  have h4 : cs0.toList[15]? = some (.int .u8 4) := by
    have := congrArg (fun l => l[0]?) e2
    simpa [List.getElem?_take, List.getElem?_drop] using this
  simp only [World.cell?, hh]
  simpa using h4
theorem gPowType : (Tryd.prog.globals[1]?).map (·.type) = some 172 := by kernel_rfl
theorem cells64 : Tryd.prog.cellsOf 166 = 1 := by kernel_rfl
theorem cells20 : Tryd.prog.cellsOf 172 = 20 := by kernel_rfl
theorem powLits : (Rows.laid_internal_strconv_uint64pow10 : DataW Unit) = .agg (Lib.pow10Tab.map fun z => .lit (.int .u64 z)) := rfl
set_option maxRecDepth 100000 in
theorem powTable {W : World} {cs0 : Array Value} {f0 : Nat} {p0 : List MemPlace} (hv0 : World.var? Tryd.prog W "internal/strconv.uint64pow10" = some cs0)
    (hd0 : DataW.trod (fun _ => ()) Tryd.prog W 0 (fun _ => true) false f0 172 cs0.toList = some (Rows.laid_internal_strconv_uint64pow10, p0)) : Pow W := by
  obtain ⟨xs, m, _, hx, hlen, hn, hel⟩ := DataW.trod_array Tryd.underlying172 hd0
  rw [cells20] at hlen
  have hx1 := congrArg Prod.fst hx
  rw [powLits] at hx1
  simp only [DataW.agg.injEq] at hx1
  have hcs : cs0 = powCells := by
    apply Array.ext_getElem?
    intro j
    by_cases hj : j < 20
    · have h15 := hel j hj
      rw [cells64] at h15
      have h2 := congrArg (fun l => l[j]?) hx1
      simp only [List.getElem?_map] at h2
      obtain ⟨y, hy⟩ : ∃ y, xs[j]? = some y := ⟨xs[j]'(by omega), List.getElem?_eq_getElem (by omega)⟩
      rw [hy] at h15 h2
      obtain ⟨k, e2, f2, _⟩ := DataW.trod_int Tryd.underlying166 h15
      rw [f2] at h2
      have h4 : cs0.toList[j]? = some (.int .u64 k) := by
        have := congrArg (fun l => l[0]?) e2
        simpa [List.getElem?_take, List.getElem?_drop] using this
      obtain ⟨z, hz⟩ : ∃ z, Lib.pow10Tab[j]? = some z := ⟨_, List.getElem?_eq_getElem (show j < Lib.pow10Tab.length from hj)⟩
      rw [hz] at h2
      simp only [Option.map_some, Option.some.injEq, DataW.lit.injEq, Lit.int.injEq, true_and] at h2
      subst h2
      have h5 : powCells.toList[j]? = some (.int .u64 z) := by
        unfold powCells
        simp [List.getElem?_map, hz]
      rw [← Array.getElem?_toList, ← Array.getElem?_toList, h4, h5]
    · have h1 : cs0.size = 20 := by simpa using hlen
      have h2 : powCells.size = 20 := rfl
      rw [Array.getElem?_eq_none (by omega), Array.getElem?_eq_none (by omega)]
  subst hcs
  obtain ⟨t, fr, hh⟩ := var_heap gPow hv0
  exact ⟨t, fr, hh⟩
end Go.Proofs.YtggdocnnbgcniaaDoor

namespace Go.Proofs.YtggdocnnbgcniaaDoor
open Go.RowKit Go.Lib

/-- A package-level variable that holds these cells. -/
def layAt (g : Nat) (cs : Array Value) (w : World) : World :=
  { w with heap := w.heap.modify g fun
      | .cells _ t frozen => .cells cs t frozen
      | o => o }
def tab32 : Array Value := #[.int .u8 0, .int .u8 1, .int .u8 28, .int .u8 2, .int .u8 29, .int .u8 14, .int .u8 24, .int .u8 3, .int .u8 30, .int .u8 22, .int .u8 20, .int .u8 15, .int .u8 25, .int .u8 17, .int .u8 4, .int .u8 8, .int .u8 31, .int .u8 27, .int .u8 13, .int .u8 23, .int .u8 21, .int .u8 19, .int .u8 16, .int .u8 7, .int .u8 26, .int .u8 12, .int .u8 18, .int .u8 6, .int .u8 11, .int .u8 5, .int .u8 10, .int .u8 9]
def tab64 : Array Value := #[.int .u8 0, .int .u8 1, .int .u8 56, .int .u8 2, .int .u8 57, .int .u8 49, .int .u8 28, .int .u8 3, .int .u8 61, .int .u8 58, .int .u8 42, .int .u8 50, .int .u8 38, .int .u8 29, .int .u8 17, .int .u8 4, .int .u8 62, .int .u8 47, .int .u8 59, .int .u8 36, .int .u8 45, .int .u8 43, .int .u8 51, .int .u8 22, .int .u8 53, .int .u8 39, .int .u8 33, .int .u8 30, .int .u8 24, .int .u8 18, .int .u8 12, .int .u8 5, .int .u8 63, .int .u8 55, .int .u8 48, .int .u8 27, .int .u8 60, .int .u8 41, .int .u8 37, .int .u8 16, .int .u8 46, .int .u8 35, .int .u8 44, .int .u8 21, .int .u8 52, .int .u8 32, .int .u8 23, .int .u8 11, .int .u8 54, .int .u8 26, .int .u8 40, .int .u8 15, .int .u8 34, .int .u8 20, .int .u8 31, .int .u8 10, .int .u8 25, .int .u8 14, .int .u8 19, .int .u8 9, .int .u8 13, .int .u8 8, .int .u8 7, .int .u8 6]
def pow10 : Array Value := #[.int .u64 1, .int .u64 10, .int .u64 100, .int .u64 1000, .int .u64 10000, .int .u64 100000, .int .u64 1000000, .int .u64 10000000, .int .u64 100000000, .int .u64 1000000000, .int .u64 10000000000, .int .u64 100000000000, .int .u64 1000000000000, .int .u64 10000000000000, .int .u64 100000000000000, .int .u64 1000000000000000, .int .u64 10000000000000000, .int .u64 100000000000000000, .int .u64 1000000000000000000, .int .u64 10000000000000000000]
def lay4 (w : World) : World := layAt 2 tab32 (layAt 3 tab64 (layAt 1 pow10 (layAt 0 barCells w)))
end Go.Proofs.YtggdocnnbgcniaaDoor
