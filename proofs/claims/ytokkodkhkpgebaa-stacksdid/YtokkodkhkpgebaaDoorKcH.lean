import Derived.Test.YtokkodkhkpgebaaDoorKcG
/-! arrived. -/
namespace Go.Proofs.YtokkodkhkpgebaaDoor
open Go.RowKit Go.Lib
set_option maxRecDepth 100000

set_option maxHeartbeats 4000000 in
theorem arrivedX {w : World} (hw : Bar w) :
    Calls Tryd.prog 6 #[] w fun e w' => ∃ u s h r oa oc na nc pa pc P, e = .returned (.tuple #[.pointer (some ⟨u, 0, none⟩), .bool true]) ∧ Usr w' u s h r oa oc na nc pa pc P [(1, 1)] [] (fun g => g < w.heap.size) ∧ w.heap.size ≤ s ∧ w.heap.size ≤ P ∧ Below w.heap.size w w' := by
  go_enter Tryd.func6, Tryd.ntmps6
  go_wp2_with fail
  refine (historyNew_any _).mono ?_
  rintro e w1 ⟨⟨h, r, rfl, hR, h1, h2, h3⟩, hb1⟩
  go_wp2_with fail
  refine (stacksNew_any _).mono ?_
  rintro e w2 ⟨rfl, hS, hb2⟩
  have hS2 : StkAt w2 w1.heap.size (fun g => g = w1.heap.size) [] [] (.slice none 0 0) (.slice none 0 0) := ⟨hS.box, rfl, hS.undo, hS.redo, fun g hg => by simp [Value.ownBlock] at hg, fun g hg => by simp [Value.ownBlock] at hg⟩
  obtain ⟨w3, hw3⟩ : ∃ w3, w2.alloc (.cells #[.pointer (some ⟨h, 0, none⟩), .pointer (some ⟨w1.heap.size, 0, none⟩), .slice none 0 0, .int .i64 0, .int .i64 0] 32) = w3 := ⟨_, rfl⟩
  have k3 : Below w2.heap.size w2 w3 := by rw [← hw3]; exact (Below.refl _ _).alloc (Nat.le_refl _) _
  have hu3 : w3.heap[w2.heap.size]? = some (.cells #[.pointer (some ⟨h, 0, none⟩), .pointer (some ⟨w1.heap.size, 0, none⟩), .slice none 0 0, .int .i64 0, .int .i64 0] 32) := by rw [← hw3]; exact heap_alloc_new _ _
  have hbA : Below w.heap.size w w2 := hb1.trans (hb2.mono hb1.size)
  have hb3 : Below w.heap.size w w3 := hbA.trans (k3.mono hbA.size)
  have HD := doesX hu3 ((hR.hb.below hb2).below k3) (hS2.chg (E := fun _ => False) (Chg.of_below k3) (fun _ _ h => h)) (hw.below hb3)
  obtain ⟨c0, c1, c2, c3, c4⟩ := box5 hu3
  have s1 := hb1.size
  have s2 := hb2.size
  have s3 := k3.size
  clear hS hS2 hR hu3 hw k3
  go_wp2_with fail
  refine HD.mono ?_
  rintro e w4 ⟨rfl, ⟨oa, oc, na, nc, pa, pc, P, hU, hP⟩, hC⟩
  clear HD c0 c1 c2 c3 c4
  go_wp2_with fail
  refine bodyPost_ret (v := .tuple #[.pointer (some ⟨w2.heap.size, 0, none⟩), .bool true]) (by simp [results, Tryd.results6, go_sem]) rfl ?_
  exact ⟨w2.heap.size, w1.heap.size, h, r, oa, oc, na, nc, pa, pc, P, rfl, hU.monoK (fun g hg => ⟨by omega, by omega⟩), by omega, by omega, hb3.trans (hC.below (fun g hg => by omega) hb3.size)⟩
end Go.Proofs.YtokkodkhkpgebaaDoor
