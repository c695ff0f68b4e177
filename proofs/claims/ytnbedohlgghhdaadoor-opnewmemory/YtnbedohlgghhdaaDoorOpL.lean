import Derived.Test.YtnbedohlgghhdaaDoorIto
import Derived.Test.YtnbedohlgghhdaaDoorOpAG
namespace Go.Proofs.YtnbedohlgghhdaaDoor
open Go.RowKit Go.Lib Sp Go.Sort
set_option maxRecDepth 100000

def powCells : Array Value := (Lib.pow10Tab.map fun z => Value.int .u64 z).toArray
/-- the table of powers lies where it lies -/
structure Pow (w : World) : Prop where
  lies : ∃ t fr, w.heap[2]? = some (.cells powCells t fr)
theorem Pow.below {w w' : World} (h : Pow w) (hb : Below w.heap.size w w') : Pow w' := by
  obtain ⟨t, fr, hg⟩ := h.lies
  exact ⟨t, fr, (hb.block _ (Array.getElem?_eq_some_iff.1 hg).1).trans hg⟩
theorem gPow : Tryd.prog.globalNamed "internal/strconv.uint64pow10" = some 2 := by kernel_rfl
theorem itoa_any (n : Int) (h0 : -9223372036854775808 ≤ n) (h1 : n ≤ 9223372036854775807) (w : World) (hp : Pow w) :
    Calls Tryd.prog 23 #[.int .i64 n] w fun e w' => e = .returned (.string ⟨(Lib.itoa n).toArray⟩) ∧ Below w.heap.size w w' := by
  obtain ⟨t, fr, hg⟩ := hp.lies
  refine Calls.mono (Any.strconv_Itoa Tryd.lays171 n h0 h1 w ?_) ?_
  · unfold Lib.TabIs World.var?
    rw [gPow]
    simp only [Option.bind_some, hg]
    rfl
  · rintro e w' ⟨rfl, k, os, rfl⟩
    refine ⟨rfl, rfl, rfl, rfl, ?_, fun j hj => ?_⟩
    · show w.heap.size ≤ (w.heap ++ os).size
      rw [Array.size_append]; omega
    · show (w.heap ++ os)[j]? = _
      rw [Array.getElem?_append_left hj]
end Go.Proofs.YtnbedohlgghhdaaDoor
