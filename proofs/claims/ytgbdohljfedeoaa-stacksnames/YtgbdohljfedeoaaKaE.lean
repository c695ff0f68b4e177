import Derived.Test.YtgbdohljfedeoaaKaD
namespace Go.Proofs.Ytgbdohljfedeoaa
open Go.RowKit Go.Lib
set_option maxRecDepth 100000

theorem stacksNew_any (w : World) : Calls Try.prog 10 #[] w fun e w' => e = .returned (.pointer (some ⟨w.heap.size, 0, none⟩)) ∧ StkAt w' w.heap.size (fun g => w.heap.size ≤ g) [] [] (.slice none 0 0) (.slice none 0 0) ∧ Below w.heap.size w w' := by
  go_enter Try.func10, Try.ntmps10
  go_wp2_with fail
  go_ret
  exact ⟨rfl, ⟨heap_alloc_new _ _, Nat.le_refl _, ownF_nil _ _, ownF_nil _ _, fun g hg => by simp [Value.ownBlock] at hg, fun g hg => by simp [Value.ownBlock] at hg⟩, (Below.refl _ _).alloc (Nat.le_refl _) _⟩

set_option maxHeartbeats 1000000 in
theorem stacksNames_any (w : World) : Calls Try.prog 5 #[] w fun e w' => e = .returned (.bool true) ∧ Below w.heap.size w w' := by
  go_enter Try.func5, Try.ntmps5
  go_wp2_with fail
  refine (stacksNew_any w).mono ?_
  rintro e w1 ⟨rfl, hs1, hb1⟩
  go_wp2_with fail
  refine (did_any hs1 (by simp) (1, 1)).mono ?_
  rintro e w2 ⟨rfl, ⟨vu, vr, hs2⟩, hc2⟩
  have e1 : didP [] [] (1, 1) = (0, [(1, 1)], []) := by decide
  rw [e1] at hs2 ⊢
  simp only at hs2 ⊢
  have hb2 : Below w.heap.size w1 w2 := hc2.below (fun g hg => hg) hb1.size
  have hz1 := hb1.size
  clear hs1 hc2
  go_wp2_with fail
  refine (did_any hs2 (by simp) (1, 1)).mono ?_
  rintro e w3 ⟨rfl, _, hc3⟩
  have e2 : didP [(1, 1)] [] (1, 1) = (61, [(1, 1)], []) := by decide
  rw [e2]
  simp only
  have hb3 : Below w.heap.size w2 w3 := hc3.below (fun g hg => by rcases hg with h | h <;> omega) (by have := hb2.size; omega)
  clear hs2 hc3
  go_wp2_with fail
  go_ret
  exact ⟨rfl, hb1.trans (hb2.trans hb3)⟩
end Go.Proofs.Ytgbdohljfedeoaa
