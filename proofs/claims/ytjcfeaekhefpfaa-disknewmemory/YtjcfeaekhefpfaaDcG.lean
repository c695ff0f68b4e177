import Derived.Test.YtjcfeaekhefpfaaDcF
/-! DiskLimit. -/
namespace Go.Proofs.Ytjcfeaekhefpfaa
open Go.RowKit Go.Lib Go.Sort Go.Shelf
set_option maxRecDepth 100000

theorem box3 {W : World} {b : Nat} {T : TypeId} {v0 v1 v2 : Value} (h : W.heap[b]? = some (.cells #[v0, v1, v2] T)) : W.cell? ⟨b, 0, none⟩ = some v0 ∧ W.cell? ⟨b, 1, none⟩ = some v1 ∧ W.cell? ⟨b, 2, none⟩ = some v2 := by
  simp only [Lib.cell_of_heap h]
  exact ⟨rfl, rfl, rfl⟩
theorem set5 {W : World} {q : Nat} {T : TypeId} {u0 u1 u2 u3 u4 : Value} (h : W.heap[q]? = some (.cells #[u0, u1, u2, u3, u4] T)) (v0 v1 v2 v3 v4 : Value) :
    ∃ W9, ((((W.setCell ⟨q, 0, none⟩ v0).setCell ⟨q, 1, none⟩ v1).setCell ⟨q, 2, none⟩ v2).setCell ⟨q, 3, none⟩ v3).setCell ⟨q, 4, none⟩ v4 = W9 ∧ W9.heap[q]? = some (.cells #[v0, v1, v2, v3, v4] T) ∧ Chg (fun g => g = q) W W9 := by
  have e0 := heap_setCell_cells h 0 v0
  have e1 := heap_setCell_cells e0 1 v1
  have e2 := heap_setCell_cells e1 2 v2
  have e3 := heap_setCell_cells e2 3 v3
  have e4 := heap_setCell_cells e3 4 v4
  have hs : ∀ (i : Nat) (W : World) (u : Value), Chg (fun g => g = q) W (W.setCell ⟨q, i, none⟩ u) := fun i W u => Chg.set (D := fun g => g = q) (q := q) i W u rfl
  exact ⟨_, rfl, e4, ((((hs 0 _ _).trans (hs 1 _ _)).trans (hs 2 _ _)).trans (hs 3 _ _)).trans (hs 4 _ _)⟩
theorem DiskAt.used {W : World} {p b ck : Nat} {S : Dk} {xs : List X} (h : DiskAt W p b S xs ck) : lenX xs = Go.Proofs.Ytjcfeaekhefpfaa.used S.fs := by rw [h.fs, used_lenX]
/-- the bytes of answered files, summed from the front -/
def sumZ (zs : List (Fv × X)) (k : Nat) : Nat := lenX ((zs.map (·.2)).take k)
theorem sumZ_succ (zs : List (Fv × X)) (k : Nat) (z : Fv × X) (h : zs[k]? = some z) : sumZ zs (k + 1) = sumZ zs k + z.2.bs.length := by
  unfold sumZ
  rw [List.take_add_one, List.getElem?_map, h, lenX_append]
  simp [lenX]
end Go.Proofs.Ytjcfeaekhefpfaa
