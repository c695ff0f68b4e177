import Derived.Test.YtchkeckblpmehaaWxG
import Derived.Deep.DeepAppendWide
/-! An append after which the row from before still reads as it did; a cell of a row is written. -/
namespace Go.Proofs.Ytchkeckblpmehaa
open Go.RowKit Go.Lib
section
variable {α : Type} {f : α → List Value} {k : Nat} {T : TypeId}
theorem appendF_both {P : Program} {S : TypeId} {by_ : Nat} (hK : Kind P S T k by_) (hf : Lay f k) {w : World} {B : Nat} {v : Value} {l : List α} (h : OwnF f k T w B v l) (hB : B ≤ w.heap.size)
    {b : Option Addr} {m capb : Nat} {ys : List α} (hy : Rw f k w b m capb ys) (hm : 0 < m) (hs : (l.length + m) * by_ ≤ 140737488355328) (hs2 : l.length + m ≤ 9223372036854775807) (ty : TypeId) :
    ∃ g cap' w', (Builtin.append_ #[S, S] ty #[v, .slice b m capb]).run P w = .ok (.slice (some ⟨g, 0, none⟩) (l.length + m) cap') w' ∧ OwnF f k T w' B (.slice (some ⟨g, 0, none⟩) (l.length + m) cap') (l ++ ys) ∧ OwnF f k T w' B v l ∧ Below B w w' ∧ Keeps w w' v ∧ (v.ownBlock = some g ∨ g = w.heap.size) := by
  obtain ⟨g, cap', w', hr, ho, hb, hk, hat⟩ := appendF hK hf h hB hy hm hs hs2 ty
  refine ⟨g, cap', w', hr, ho, ?_, hb, hk, hat⟩
  obtain ⟨i, z, hi, hz, hsz, hby, hzc⟩ := hK.info
  obtain ⟨ga, off, rfl, hg, hc⟩ := hy.row hf hm
  have hl1 : (flatF f ys).length = m * k := by rw [flatF_length hf, hy.len]
  have h0 := h
  rcases h.2 with ⟨rfl, h1⟩ | ⟨g0, cap, cur, rfl, hBg, hh, hnc, hcm, hcs, htake⟩
  · have : l = [] := List.length_eq_zero_iff.1 h1
    subst this
    exact ownF_nil _ _
  · by_cases hroom : l.length + m ≤ cap
    · have hr2 := run_append_room (P := P) w S ty T i hK.under hi g0 l.length cap cur hh ⟨ga, off, none⟩ m capb (flatF f ys) (by rw [hsz]; exact hl1) hc (flatF_one hf ys) hroom (by rw [hsz, hl1, hcs, ← Nat.add_mul]; exact Nat.mul_le_mul_right _ hroom)
      rw [hr2] at hr
      cases hr
      rcases ho.2 with ⟨e, _⟩ | ⟨g1, cap1, cur1, e, hB1, hh1, hn1, hm1, hc1, ht1⟩
      · cases e
      · simp only [Value.slice.injEq, Option.some.injEq, Addr.mk.injEq, and_true] at e
        obtain ⟨rfl, _, rfl⟩ := e
        refine ⟨h0.1, .inr ⟨_, _, cur1, rfl, hB1, hh1, hnc, hcm, hc1, ?_⟩⟩
        have h2 : (flatF f l).length = l.length * k := flatF_length hf l
        have h3 := congrArg (List.take (l.length * k)) ht1
        have h4 : l.length * k ≤ (l ++ ys).length * k := by rw [List.length_append]; exact Nat.mul_le_mul_right _ (by omega)
        rw [List.take_take, Nat.min_eq_left h4, flatF_append, List.take_append_of_le_length (by omega), List.take_of_length_le (l := flatF f l) (by omega)] at h3
        exact h3
    · have hr2 := run_append_grow (P := P) w S ty T i z hK.under hi hz ⟨g0, 0, none⟩ l.length cap (flatF f l) (by rw [hsz]; exact h0.1) (h0.cells (g := g0) rfl) ⟨ga, off, none⟩ m capb (flatF f ys) (by rw [hsz]; exact hl1) hc (by omega) (by omega) (by rw [hby]; exact growslice_fits (by omega) hs)
      rw [hr2] at hr
      cases hr
      exact h0.below ((⟨rfl, rfl, rfl, Nat.le_refl _, fun _ _ => rfl⟩ : Below w.heap.size w w.drew).alloc (Nat.le_refl _) _)
end
theorem flat_intV (l : List Int) : flatF intV l = l.map (Value.int .i64) := by
  induction l with
  | nil => rfl
  | cons x l ih => simp [flatF, intV] at ih ⊢; exact ih
theorem own_setI {w : World} {B g n cap : Nat} {l : List Int} (h : OwnF intV 1 3 w B (.slice (some ⟨g, 0, none⟩) n cap) l) (i : Nat) (hi : i < n) (x : Int) :
    OwnF intV 1 3 (w.setCell ⟨g, i, none⟩ (.int .i64 x)) B (.slice (some ⟨g, 0, none⟩) n cap) (l.set i x) ∧ w.frozen? ⟨g, i, none⟩ = false := by
  rcases h.2 with ⟨e, _⟩ | ⟨g1, cap1, cur, e, hB, hh, hn, hm, hc, ht⟩
  · cases e
  · simp only [Value.slice.injEq, Option.some.injEq, Addr.mk.injEq, and_true] at e
    obtain ⟨rfl, rfl, rfl⟩ := e
    refine ⟨⟨by rw [flat_intV]; simp, .inr ⟨g, cap, _, by rw [List.length_set], hB, heap_setCell_cells hh i _, by rw [List.length_set]; exact hn, hm, by simpa using hc, ?_⟩⟩, Lib.frozen_of_heap hh i⟩
    rw [List.length_set, flat_intV, List.map_set, ← flat_intV, ← ht]
    simp [List.take_set]
end Go.Proofs.Ytchkeckblpmehaa
