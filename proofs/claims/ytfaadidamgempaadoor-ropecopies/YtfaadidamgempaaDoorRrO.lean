import Derived.Test.YtfaadidamgempaaDoorRrAC
namespace Go.Proofs.YtfaadidamgempaaDoor
open Go.RowKit Go.Lib
set_option maxRecDepth 100000

theorem isBuilderF_parts {B b : Nat} {bs : List Value} {w : World} (h : Lib.IsBuilderF 73 5 B b bs w) : B ≤ b ∧ ∃ p a cap, w.heap[b]? = some (.cells #[p, .slice a bs.length cap] 73 (0, 0)) ∧ w.ownsRowF B 5 1 (.slice a bs.length cap) bs.length bs := by
  have key : ∀ p, Lib.BuilderAtF 73 5 B b p bs w → B ≤ b ∧ ∃ p a cap, w.heap[b]? = some (.cells #[p, .slice a bs.length cap] 73 (0, 0)) ∧ w.ownsRowF B 5 1 (.slice a bs.length cap) bs.length bs := fun p ⟨hB, v, hb, ho, _⟩ => by
    rcases ho.2 with ⟨e, h0⟩ | ⟨g, cap, cur, fz, e, _⟩
    · subst e
      refine ⟨hB, p, none, 0, ?_, ?_⟩
      · rw [h0]; exact hb
      · rw [h0] at ho ⊢; exact ho
    · subst e
      exact ⟨hB, p, _, cap, hb, ho⟩
  rcases h with h | h
  · exact key _ h
  · exact key _ h
set_option maxHeartbeats 1000000 in
theorem builderLen_any {B b : Nat} {bs : List Value} {w : World} (h : Lib.IsBuilderF 73 5 B b bs w) :
    Calls Tryd.prog 35 #[.pointer (some ⟨b, 0, none⟩)] w fun e w' => e = .returned (.int .i64 (bs.length : Int)) ∧ w' = w := by
  obtain ⟨_, p, a, cap, hb, _⟩ := isBuilderF_parts h
  have c1 : w.cell? ⟨b, 1, none⟩ = some (.slice a bs.length cap) := by rw [Lib.cell_of_heap hb]; rfl
  clear h hb
  go_enter Tryd.func35, Tryd.ntmps35
  go_wp2_with fail
  go_ret
  exact ⟨rfl, rfl⟩
theorem two_getF {w : World} {b : Nat} {u v x y : Value} {T : TypeId} {fz : Nat × Nat} (h : w.heap[b]? = some (.cells #[x, y] T fz)) : ((w.setCell ⟨b, 0, none⟩ u).setCell ⟨b, 1, none⟩ v).heap[b]? = some (.cells #[u, v] T fz) := by
  simp only [World.setCell, Array.getElem?_modify, h, if_true, Option.map_some]
  rfl
set_option maxHeartbeats 1000000 in
theorem builderReset_any {B b : Nat} {bs : List Value} {w : World} (h : Lib.IsBuilderF 73 5 B b bs w) :
    Calls Tryd.prog 33 #[.pointer (some ⟨b, 0, none⟩)] w fun e w' => (∃ v, e = .returned v) ∧ Lib.IsBuilderF 73 5 B b [] w' ∧ Below B w w' ∧ Lib.OthersKept 5 (some b) w w' := by
  obtain ⟨hB, p, a, cap, hb, _⟩ := isBuilderF_parts h
  have c0 : w.cell? ⟨b, 0, none⟩ = some p := by rw [Lib.cell_of_heap hb]; rfl
  have c1 : w.cell? ⟨b, 1, none⟩ = some (.slice a bs.length cap) := by rw [Lib.cell_of_heap hb]; rfl
  have f0 : w.frozen? ⟨b, 0, none⟩ = false := Lib.frozen_of_heap hb 0
  have f1 : w.frozen? ⟨b, 1, none⟩ = false := Lib.frozen_of_heap hb 1
  have hg := two_getF (u := .pointer none) (v := .slice none 0 0) hb
  have hb2 : Below B w ((w.setCell ⟨b, 0, none⟩ (.pointer none)).setCell ⟨b, 1, none⟩ (.slice none 0 0)) := ((Below.refl B w).setCell (p := ⟨b, 0, none⟩) hB _).setCell (p := ⟨b, 1, none⟩) hB _
  have ho2 : Lib.OthersKept 5 (some b) w ((w.setCell ⟨b, 0, none⟩ (.pointer none)).setCell ⟨b, 1, none⟩ (.slice none 0 0)) := ((Lib.OthersKept.refl _ _ w).setCell ⟨b, 0, none⟩ rfl _).setCell ⟨b, 1, none⟩ rfl _
  clear h hb
  go_enter Tryd.func33, Tryd.ntmps33
  go_wp2_with fail
  go_end0
  exact ⟨⟨_, rfl⟩, .inl ⟨hB, _, hg, World.ownsRowF_nil _ _ _ _, by simp [Value.ownBlock]⟩, hb2, ho2⟩
end Go.Proofs.YtfaadidamgempaaDoor
