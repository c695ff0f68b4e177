import Derived.Test.YtmdnmhdimfglaaaGreatDoorXlE
namespace Go.Proofs.YtmdnmhdimfglaaaGreatDoor
open Go.RowKit Go.Lib
set_option maxRecDepth 100000
theorem rdy_nil {w : World} {o : OpV} (h : o.l = []) (hs : o.s.size ≤ 281474976710656) : Rdy w (o, (none, 0, 0)) := ⟨by simp only; rw [h]; exact rng_of_rw (rw_nil w), by simp only; rw [h]; decide, hs⟩
theorem runIn_one {W : World} {g : Nat} {x : OpM} (h : W.heap[g]? = some (.cells (opF x).toArray 34)) (hx : Rdy W x) : RunIn W (some ⟨g, 0, none⟩) 1 1 [x.1] :=
  ⟨[x], rfl, ⟨g, ⟨rfl, .inr ⟨g, 1, (opF x).toArray, rfl, Nat.le_refl _, h, Nat.le_refl _, by decide, rfl, by simp [flatF, opF]⟩⟩⟩, fun y hy => by simp at hy; subst hy; exact hx⟩
theorem runIn_two {W : World} {g : Nat} {x y : OpM} (h : W.heap[g]? = some (.cells (opF x ++ opF y).toArray 34)) (hx : Rdy W x) (hy : Rdy W y) : RunIn W (some ⟨g, 0, none⟩) 2 2 [x.1, y.1] :=
  ⟨[x, y], rfl, ⟨g, ⟨rfl, .inr ⟨g, 2, (opF x ++ opF y).toArray, rfl, Nat.le_refl _, h, Nat.le_refl _, by decide, rfl, by simp [flatF, opF]⟩⟩⟩, fun z hz => by simp at hz; rcases hz with rfl | rfl <;> assumption⟩
theorem RunIn.at_ {W : World} {a : Option Addr} {n cap : Nat} {L : List OpV} (h : RunIn W a n cap L) (hL : 0 < L.length) : ∃ g, a = some ⟨g, 0, none⟩ ∧ n = L.length ∧ ∀ (j : Nat) (o : OpV), L[j]? = some o → W.cell? ⟨g, j * 9 + 3, none⟩ = some (.int .i64 o.p) ∧ W.cell? ⟨g, j * 9 + 4, none⟩ = some (.string o.s) := by
  obtain ⟨FM, rfl, ⟨B, ho⟩, -⟩ := h
  have ln := (ho.rw_ layO).len
  rw [List.length_map] at hL ⊢
  obtain ⟨g, cc, e, -⟩ := ho.ptr hL
  simp only [Value.slice.injEq] at e
  obtain ⟨rfl, -, rfl⟩ := e
  refine ⟨g, rfl, ln.symm, fun j o hj => ?_⟩
  rw [List.getElem?_map] at hj
  cases hx : FM[j]? with
  | none => rw [hx] at hj; cases hj
  | some x =>
    rw [hx] at hj
    simp only [Option.map_some, Option.some.injEq] at hj
    subst hj
    obtain ⟨-, -, -, q3, q4, -⟩ := cells_of ho hx
    exact ⟨q3, q4⟩
end Go.Proofs.YtmdnmhdimfglaaaGreatDoor
