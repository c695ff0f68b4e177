import Derived.Test.YtelcjhflopgojaaMkI
/-! Boxes of four cells. -/
namespace Go.Proofs.Ytelcjhflopgojaa
open Go.RowKit Go.Lib
set_option maxRecDepth 100000
theorem box4 {W : World} {b : Nat} {T : TypeId} {v0 v1 v2 v3 : Value} (h : W.heap[b]? = some (.cells #[v0, v1, v2, v3] T)) : W.cell? ⟨b, 0, none⟩ = some v0 ∧ W.cell? ⟨b, 1, none⟩ = some v1 ∧ W.cell? ⟨b, 2, none⟩ = some v2 ∧ W.cell? ⟨b, 3, none⟩ = some v3 := by
  simp only [Lib.cell_of_heap h]
  exact ⟨rfl, rfl, rfl, rfl⟩
end Go.Proofs.Ytelcjhflopgojaa
