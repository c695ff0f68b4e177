import Derived.Test.YtlebbffpbbjakaaDoorXbB
import Derived.Test.YtlebbffpbbjakaaDoorXbQ
namespace Go.Proofs.YtlebbffpbbjakaaDoor
open Go.RowKit Go.Lib
set_option maxRecDepth 100000

theorem one_op1 {W : World} {g : Nat} {x : OpM} {T : TypeId} (h : W.heap[g]? = some (.cells (opF x).toArray T)) : Rw opF 9 W (some ⟨g, 0, none⟩) 1 1 [x] :=
  ⟨rfl, ⟨Nat.le_refl _, by decide⟩, fun _ => ⟨g, 0, rfl, (Array.getElem?_eq_some_iff.1 h).1, fun j z hj i v hv => by
    rw [Lib.cell_of_heap h, Nat.zero_add]
    match j, hj with
    | 0, hj =>
      simp at hj; subst hj
      simp only [Nat.zero_mul, Nat.zero_add, List.getElem?_toArray]
      exact hv
    | j + 1, hj => simp at hj⟩⟩
def caretP (x : Int) (o : OpV) : Int × Int :=
  if ownP o ≠ 0 then (0, ownP o) else if x < 0 ∨ 1048576 < x then (0, 12) else if o.k ≠ 1 ∨ x ≤ o.p then (x, 0)
  else if 1048576 < x + widthP o then (0, 24) else (x + widthP o, 0)
end Go.Proofs.YtlebbffpbbjakaaDoor
