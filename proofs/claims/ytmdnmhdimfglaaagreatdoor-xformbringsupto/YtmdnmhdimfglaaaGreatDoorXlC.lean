import Derived.Test.YtmdnmhdimfglaaaGreatDoorGr14
import Derived.Deep.RegionWith
namespace Go.Proofs.YtmdnmhdimfglaaaGreatDoor
open Go.RowKit Go.Lib
set_option maxRecDepth 100000
theorem cells_of {W : World} {B g n cap : Nat} {L : List OpM} (h : OwnF opF 9 34 W B (.slice (some ⟨g, 0, none⟩) n cap) L) {j : Nat} {x : OpM} (hx : L[j]? = some x) : W.cell? ⟨g, j * 9, none⟩ = some (.int .i64 x.1.c) ∧ W.cell? ⟨g, j * 9 + 1, none⟩ = some (.int .i64 x.1.n) ∧ W.cell? ⟨g, j * 9 + 2, none⟩ = some (.int .i64 x.1.k) ∧ W.cell? ⟨g, j * 9 + 3, none⟩ = some (.int .i64 x.1.p) ∧ W.cell? ⟨g, j * 9 + 4, none⟩ = some (.string x.1.s) ∧ W.cell? ⟨g, j * 9 + 5, none⟩ = some (.slice x.2.1 x.2.2.1 x.2.2.2) ∧ W.cell? ⟨g, j * 9 + 6, none⟩ = some (.int .i64 x.1.tc) ∧ W.cell? ⟨g, j * 9 + 7, none⟩ = some (.int .i64 x.1.tn) ∧ W.cell? ⟨g, j * 9 + 8, none⟩ = some (.bool x.1.on) := by
  have hl := (h.rw_ layO).len
  have hj : j < n := by have := (List.getElem?_eq_some_iff.1 hx).1; omega
  obtain ⟨g', off, x', ha', _, hx', c0, c1, c2, c3, c4, c5, c6, c7, c8⟩ := (h.rw_ layO).at9 (Below.refl _ _) j hj
  cases ha'
  rw [hx] at hx'
  cases hx'
  simp only [Nat.zero_add] at c0 c1 c2 c3 c4 c5 c6 c7 c8
  exact ⟨c0, c1, c2, c3, c4, c5, c6, c7, c8⟩
theorem okOps_of {w : World} {L : List OpM} (h : ∀ x ∈ L, Rdy w x) : OkOps w L := fun x hx => ⟨(h x hx).rng, by have := (h x hx).size; omega⟩
theorem runIn_nil (w : World) : RunIn w none 0 0 [] := ⟨[], rfl, ⟨0, ownF_nil _ _⟩, fun x hx => by cases hx⟩
end Go.Proofs.YtmdnmhdimfglaaaGreatDoor
