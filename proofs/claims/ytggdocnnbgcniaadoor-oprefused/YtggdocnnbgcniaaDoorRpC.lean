import Derived.Test.YtggdocnnbgcniaaDoorRpB
import Derived.Test.YtggdocnnbgcniaaDoorRpPR
namespace Go.Proofs.YtggdocnnbgcniaaDoor
open Go.RowKit Go.Lib
set_option maxRecDepth 100000

section
variable {α : Type} {f : α → List Value} {k : Nat} {T : TypeId}
theorem OwnF.keep {w w' : World} {B : Nat} {v : Value} {l : List α} (h : OwnF f k T w B v l) (hk : ∀ g, v.ownBlock = some g → w'.heap[g]? = w.heap[g]?) : OwnF f k T w' B v l := by
  refine ⟨h.1, ?_⟩
  rcases h.2 with h0 | ⟨g, cap, cur, e, h1, hh, rest⟩
  · exact .inl h0
  · exact .inr ⟨g, cap, cur, e, h1, (hk g (by rw [e]; rfl)).trans hh, rest⟩
theorem OwnF.notIter {w : World} {B K p : Nat} {s : ByteArray} {v : Value} {l : List α} (h : OwnF f k T w B v l) (hi : w.heap[K]? = some (.stringIter s p)) : v.ownBlock ≠ some K := by
  intro e
  rcases h.2 with ⟨rfl, _⟩ | ⟨g, cap, cur, rfl, h1, hh, rest⟩
  · simp [Value.ownBlock] at e
  · simp only [Value.ownBlock, Option.some.injEq] at e
    subst e
    rw [hi] at hh
    cases hh
end
theorem cellsOf_take_succ (L : List GRun) (i : Nat) (x : GRun) (hx : L[i]? = some x) : cellsOf (L.take (i + 1)) = cellsOf (L.take i) ++ x.rs.map fun c => (c, x.h) := by
  obtain ⟨hi, rfl⟩ := List.getElem?_eq_some_iff.1 hx
  rw [List.take_succ_eq_append_getElem hi]
  unfold cellsOf
  rw [List.flatMap_append]
  simp
theorem map_take_succ (rs : List Int) (j : Nat) (hj : j < rs.length) (h : Int) : ((rs.take (j + 1)).map fun c => (c, h)) = ((rs.take j).map fun c => (c, h)) ++ [(rs[j], h)] := by
  rw [List.take_succ_eq_append_getElem hj, List.map_append]
  rfl
theorem cellsOf_le (L : List GRun) (i : Nat) (x : GRun) (hx : L[i]? = some x) : (cellsOf (L.take i)).length + x.rs.length ≤ (cellsOf L).length := by
  have h1 := cellsOf_take_succ L i x hx
  have h2 : cellsOf L = cellsOf (L.take (i + 1)) ++ cellsOf (L.drop (i + 1)) := by
    unfold cellsOf
    rw [← List.flatMap_append, List.take_append_drop]
  rw [h2, h1]
  simp
theorem vis_take_succ (l : List (Int × Int)) (i : Nat) (x : Int × Int) (hx : l[i]? = some x) : vis (l.take (i + 1)) = vis (l.take i) + if x.2 = 0 then 1 else 0 := by
  obtain ⟨hi, rfl⟩ := List.getElem?_eq_some_iff.1 hx
  rw [List.take_succ_eq_append_getElem hi, vis_append]
  simp [vis, cnt]
end Go.Proofs.YtggdocnnbgcniaaDoor

