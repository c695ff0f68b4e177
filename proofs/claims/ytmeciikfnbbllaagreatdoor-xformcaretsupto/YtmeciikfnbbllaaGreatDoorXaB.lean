import Derived.Test.YtmeciikfnbbllaaGreatDoorOqI
namespace Go.Proofs.YtmeciikfnbbllaaGreatDoor
open Go.RowKit Go.Lib
set_option maxRecDepth 100000
theorem box9 {W : World} {b : Nat} {T : TypeId} {v0 v1 v2 v3 v4 v5 v6 v7 v8 : Value} (h : W.heap[b]? = some (.cells #[v0, v1, v2, v3, v4, v5, v6, v7, v8] T)) :
    W.cell? ⟨b, 0, none⟩ = some v0 ∧ W.cell? ⟨b, 1, none⟩ = some v1 ∧ W.cell? ⟨b, 2, none⟩ = some v2 ∧ W.cell? ⟨b, 3, none⟩ = some v3 ∧ W.cell? ⟨b, 4, none⟩ = some v4 ∧ W.cell? ⟨b, 5, none⟩ = some v5 ∧ W.cell? ⟨b, 6, none⟩ = some v6 ∧ W.cell? ⟨b, 7, none⟩ = some v7 ∧ W.cell? ⟨b, 8, none⟩ = some v8 := by
  simp only [Lib.cell_of_heap h]
  exact ⟨rfl, rfl, rfl, rfl, rfl, rfl, rfl, rfl, rfl⟩
theorem wr9 {W : World} {b : Nat} {T : TypeId} {v0 v1 v2 v3 v4 v5 v6 v7 v8 : Value} (h : W.heap[b]? = some (.cells #[v0, v1, v2, v3, v4, v5, v6, v7, v8] T)) :
    W.frozen? ⟨b, 0, none⟩ = false ∧ W.frozen? ⟨b, 1, none⟩ = false ∧ W.frozen? ⟨b, 2, none⟩ = false ∧ W.frozen? ⟨b, 3, none⟩ = false ∧ W.frozen? ⟨b, 4, none⟩ = false ∧ W.frozen? ⟨b, 5, none⟩ = false ∧ W.frozen? ⟨b, 6, none⟩ = false ∧ W.frozen? ⟨b, 7, none⟩ = false ∧ W.frozen? ⟨b, 8, none⟩ = false :=
  ⟨Lib.frozen_of_heap h 0, Lib.frozen_of_heap h 1, Lib.frozen_of_heap h 2, Lib.frozen_of_heap h 3, Lib.frozen_of_heap h 4, Lib.frozen_of_heap h 5, Lib.frozen_of_heap h 6, Lib.frozen_of_heap h 7, Lib.frozen_of_heap h 8⟩
def But (b : Nat) (w w' : World) : Prop := w'.heap.size = w.heap.size ∧ ∀ k, k ≠ b → w'.heap[k]? = w.heap[k]?
theorem But.refl (b : Nat) (w : World) : But b w w := ⟨rfl, fun _ _ => rfl⟩
theorem But.trans {b : Nat} {w w' w'' : World} (h : But b w w') (h' : But b w' w'') : But b w w'' := ⟨h'.1.trans h.1, fun k hk => (h'.2 k hk).trans (h.2 k hk)⟩
theorem But.set (b i : Nat) (w : World) (u : Value) : But b w (w.setCell ⟨b, i, none⟩ u) := ⟨by simp [World.setCell], fun k hk => Below.heap_setCell _ _ _ _ (by simp only; omega)⟩
theorem But.own {b : Nat} {w w' : World} (h : But b w w') {α : Type} {f : α → List Value} {k : Nat} {T : TypeId} {B : Nat} {v : Value} {l : List α} (ho : OwnF f k T w B v l) (hb : b < B) : OwnF f k T w' B v l := by
  refine ⟨ho.1, ?_⟩
  rcases ho.2 with h0 | ⟨g, cap, cur, e, h1, hh, rest⟩
  · exact .inl h0
  · exact .inr ⟨g, cap, cur, e, h1, (h.2 g (by omega)).trans hh, rest⟩
theorem But.block {b : Nat} {w w' : World} (h : But b w w') {k : Nat} {o : Obj} (hk : w.heap[k]? = some o) (hb : k ≠ b) : w'.heap[k]? = some o := (h.2 k hb).trans hk
theorem store9 {W : World} {b n : Nat} {w0 : World} {T : TypeId} {u0 u1 u2 u3 u4 u5 u6 u7 u8 : Value} (h : W.heap[b]? = some (.cells #[u0, u1, u2, u3, u4, u5, u6, u7, u8] T)) (hB : Below n w0 W) (hn : n ≤ b) (v0 v1 v2 v3 v4 v5 v6 v7 v8 : Value) :
    ∃ W9, (((((((((W.setCell ⟨b, 0, none⟩ v0).setCell ⟨b, 1, none⟩ v1).setCell ⟨b, 2, none⟩ v2).setCell ⟨b, 3, none⟩ v3).setCell ⟨b, 4, none⟩ v4).setCell ⟨b, 5, none⟩ v5).setCell ⟨b, 6, none⟩ v6).setCell ⟨b, 7, none⟩ v7).setCell ⟨b, 8, none⟩ v8) = W9 ∧
      W9.heap[b]? = some (.cells #[v0, v1, v2, v3, v4, v5, v6, v7, v8] T) ∧ Below n w0 W9 ∧ But b W W9 :=
  ⟨_, rfl, set9g h, by
    refine Below.setCell ?_ (by simp only; omega) _
    refine Below.setCell ?_ (by simp only; omega) _
    refine Below.setCell ?_ (by simp only; omega) _
    refine Below.setCell ?_ (by simp only; omega) _
    refine Below.setCell ?_ (by simp only; omega) _
    refine Below.setCell ?_ (by simp only; omega) _
    refine Below.setCell ?_ (by simp only; omega) _
    refine Below.setCell ?_ (by simp only; omega) _
    exact Below.setCell hB (by simp only; omega) _,
    ((((((((But.set _ _ _ _).trans (But.set _ _ _ _)).trans (But.set _ _ _ _)).trans (But.set _ _ _ _)).trans (But.set _ _ _ _)).trans (But.set _ _ _ _)).trans (But.set _ _ _ _)).trans (But.set _ _ _ _)).trans (But.set _ _ _ _)⟩
def Rd (w : World) (v : Value) (l : List (Int × Int)) : Prop := ∃ a m cap, v = .slice a m cap ∧ Sp.Rng w a m cap l
theorem Rd.below {w w' : World} {v : Value} {l : List (Int × Int)} (h : Rd w v l) (hb : Below w.heap.size w w') : Rd w' v l := by
  obtain ⟨a, m, cap, e, hR⟩ := h
  exact ⟨a, m, cap, e, hR.below hb⟩
theorem rd_nil (w : World) : Rd w (.slice none 0 0) [] := ⟨none, 0, 0, rfl, rng_of_rw (rw_nil w)⟩
theorem OwnF.rd {w : World} {B : Nat} {v : Value} {l : List (Int × Int)} (h : OwnF rangeV 2 94 w B v l) : Rd w v l := by
  obtain ⟨a, cap, rfl⟩ := h.shape
  exact ⟨a, _, cap, rfl, rng_of_rw (h.rw_ layG)⟩
def Src (u : Value) (lu : List (Int × Int)) (w w' : World) (v : Value) (l : List (Int × Int)) : Prop := (v = u ∧ l = lu) ∨ OwnF rangeV 2 94 w' w.heap.size v l
theorem src_same (u : Value) (lu : List (Int × Int)) (w w' : World) : Src u lu w w' u lu := .inl ⟨rfl, rfl⟩
theorem src_nil (u : Value) (lu : List (Int × Int)) (w w' : World) : Src u lu w w' (.slice none 0 0) [] := .inr (ownF_nil _ _)
theorem Src.rd {u v : Value} {lu l : List (Int × Int)} {w w' : World} (h : Src u lu w w' v l) (hu : Rd w u lu) (hb : Below w.heap.size w w') : Rd w' v l := by
  rcases h with ⟨rfl, rfl⟩ | h
  · exact hu.below hb
  · exact h.rd
theorem Src.step {u v : Value} {lu l : List (Int × Int)} {w W w' W9 : World} {b : Nat} (h : Src u lu W w' v l) (hK : But b w' W9) (hb : b < W.heap.size) (hs : w.heap.size ≤ W.heap.size) : Src u lu w W9 v l := by
  rcases h with h | h
  · exact .inl h
  · exact .inr ((hK.own h hb).mono hs)
theorem Src.below {u v : Value} {lu l : List (Int × Int)} {w w' w'' : World} (h : Src u lu w w' v l) (hb : Below w'.heap.size w' w'') : Src u lu w w'' v l := by
  rcases h with h | h
  · exact .inl h
  · exact .inr (h.below hb)
def op0 : OpV := ⟨0, 0, 0, 0, ⟨#[]⟩, [], 0, 0, false⟩
end Go.Proofs.YtmeciikfnbbllaaGreatDoor
