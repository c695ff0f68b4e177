import Derived.Test.YtelcjhflopgojaaDoorOpG
namespace Go.Proofs.YtelcjhflopgojaaDoor
open Go.RowKit Go.Lib Sp
set_option maxRecDepth 100000

/-- A list that was just built. -/
theorem rng_one {w : World} {g : Nat} {x y : Int} {T : TypeId} (h : w.heap[g]? = some (.cells #[.int .i64 x, .int .i64 y] T)) : Rng w (some ⟨g, 0, none⟩) 1 1 [(x, y)] :=
  ⟨rfl, ⟨Nat.le_refl _, by decide⟩, fun j hj => by
    obtain rfl : j = 0 := by omega
    refine ⟨g, 0, rfl, (Array.getElem?_eq_some_iff.1 h).1, ?_, ?_⟩
    · rw [Lib.cell_of_heap h]; rfl
    · rw [Lib.cell_of_heap h]; rfl⟩
theorem rng_two {w : World} {g : Nat} {x y x2 y2 : Int} {T : TypeId} (h : w.heap[g]? = some (.cells #[.int .i64 x, .int .i64 y, .int .i64 x2, .int .i64 y2] T)) : Rng w (some ⟨g, 0, none⟩) 2 2 [(x, y), (x2, y2)] :=
  ⟨rfl, ⟨Nat.le_refl _, by decide⟩, fun j hj => by
    have : j = 0 ∨ j = 1 := by omega
    refine ⟨g, 0, rfl, (Array.getElem?_eq_some_iff.1 h).1, ?_, ?_⟩
    · rw [Lib.cell_of_heap h]; rcases this with rfl | rfl <;> rfl
    · rw [Lib.cell_of_heap h]; rcases this with rfl | rfl <;> rfl⟩

theorem alloc_last (w : World) (o : Obj) (k : Nat) (hk : k = w.heap.size) : (w.alloc o).heap[k]? = some o := by
  subst hk
  show (w.heap.push o)[w.heap.size]? = _
  simp

end Go.Proofs.YtelcjhflopgojaaDoor
