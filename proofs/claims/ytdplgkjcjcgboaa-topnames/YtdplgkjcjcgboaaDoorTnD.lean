import Derived.Test.YtdplgkjcjcgboaaDoorTnC
/-! TopNames. -/
namespace Go.Proofs.YtdplgkjcjcgboaaDoor
open Go.RowKit Go.Lib
set_option maxRecDepth 100000

def ErrT (w : World) : Prop := w.cell? ⟨0, 0, none⟩ = some (.iface 48 (.agg #[.pointer (some ⟨4, 26, none⟩)]))
theorem ErrT.below {w w' : World} (h : ErrT w) (hb : Below w.heap.size w w') : ErrT w' := by
  have hgl : 0 < w.heap.size := by
    rcases Nat.lt_or_ge 0 w.heap.size with h0 | h0
    · exact h0
    · simp [ErrT, World.cell?, Array.getElem?_eq_none h0] at h
  exact (hb.cell (p := ⟨0, 0, none⟩) hgl).trans h
theorem eqlErr (w : World) : (binOp .eql 26 (.iface 24 (.int .i64 12)) (.iface 24 (.int .i64 12))).run Tryd.prog w = .ok (.bool true) w := by kernel_rfl
set_option maxHeartbeats 4000000 in
theorem told_any {w : World} (he : ErrT w) (hp : Pow w) : Calls Tryd.prog 10 #[] w fun e w' => e = .returned (.bool true) ∧ Below w.heap.size w w' := by
  obtain ⟨w1, hw1⟩ : ∃ w1, w.alloc (.cells #[.string ⟨#[84, 97, 107, 101]⟩, .int .i64 7, .iface 24 (.int .i64 12)] 28) = w1 := ⟨_, rfl⟩
  have k1 : Below w.heap.size w w1 := by rw [← hw1]; exact (Below.refl _ _).alloc (Nat.le_refl _) _
  have hf1 : w1.heap[w.heap.size]? = some (.cells #[.string ⟨#[84, 97, 107, 101]⟩, .int .i64 7, .iface 24 (.int .i64 12)] 28) := by rw [← hw1]; exact heap_alloc_new _ _
  obtain ⟨w2, hw2⟩ : ∃ w2, w1.alloc (.cells #[.string ⟨#[80, 117, 116]⟩, .int .i64 (-1), .iface 23 (.pointer (some ⟨w.heap.size, 0, none⟩))] 28) = w2 := ⟨_, rfl⟩
  have k2 : Below w1.heap.size w1 w2 := by rw [← hw2]; exact (Below.refl _ _).alloc (Nat.le_refl _) _
  have hg2 : w2.heap[w1.heap.size]? = some (.cells #[.string ⟨#[80, 117, 116]⟩, .int .i64 (-1), .iface 23 (.pointer (some ⟨w.heap.size, 0, none⟩))] 28) := by rw [← hw2]; exact heap_alloc_new _ _
  have hf2 := (k2.block _ (Array.getElem?_eq_some_iff.1 hf1).1).trans hf1
  have k12 : Below w.heap.size w w2 := k1.trans (k2.mono k1.size)
  have HT : Two2 w2 w1.heap.size w.heap.size 12 := ⟨⟨_, _, hg2⟩, ⟨_, _, hf2⟩⟩
  have HC := code2 HT (he.below k12)
  have HB : Hid (∀ W, Below w2.heap.size w2 W → W.heap[w.heap.size]? = some (.cells #[.string ⟨#[84, 97, 107, 101]⟩, .int .i64 7, .iface 24 (.int .i64 12)] 28) ∧ W.heap[w1.heap.size]? = some (.cells #[.string ⟨#[80, 117, 116]⟩, .int .i64 (-1), .iface 23 (.pointer (some ⟨w.heap.size, 0, none⟩))] 28) ∧ Pow W) := fun W hb => ⟨(hb.block _ (Array.getElem?_eq_some_iff.1 hf2).1).trans hf2, (hb.block _ (Array.getElem?_eq_some_iff.1 hg2).1).trans hg2, (hp.below k12).below hb⟩
  have heq := eqlErr
  clear HT hf1 hf2 hg2 he hp
  go_enter Tryd.func10, Tryd.ntmps10
  go_wp2_with fail
  refine (code_nil _).mono ?_
  rintro e w0 ⟨rfl, rfl⟩
  go_wp2_with fail
  refine HC.mono ?_
  rintro e w3 ⟨rfl, hb3⟩
  clear HC hw1 hw2
  go_wp2_with fail
  refine (errno12 (HB.out w3 hb3).2.2).mono ?_
  rintro e w4 ⟨rfl, hb4⟩
  have h4 := hb3.trans (hb4.mono hb3.size)
  go_wp2_with fail
  refine (faultM (HB.out w4 h4).2.1 (HB.out w4 h4).1 (HB.out w4 h4).2.2).mono ?_
  rintro e w5 ⟨rfl, hb5⟩
  have h5 := h4.trans (hb5.mono h4.size)
  go_wp2_with fail
  refine (unwrap_any w.heap.size _ _ _ _ w5 (HB.out w5 h5).1).mono ?_
  rintro e w6 ⟨rfl, rfl⟩
  go_wp2_with fail
  go_ret
  exact ⟨rfl, k12.trans (h5.mono k12.size)⟩
theorem general_any (w : World) : Calls Tryd.prog 4 #[] w fun e w' => e = .returned (.bool true) ∧ w' = w := by
  go_enter Tryd.func4, Tryd.ntmps4
  go_wp2
  go_ret
  exact ⟨rfl, rfl⟩
theorem lower_any (w : World) : Calls Tryd.prog 5 #[] w fun e w' => e = .returned (.bool true) ∧ w' = w := by
  go_enter Tryd.func5, Tryd.ntmps5
  go_wp2
  go_ret
  exact ⟨rfl, rfl⟩
theorem limits_any (w : World) : Calls Tryd.prog 7 #[] w fun e w' => e = .returned (.bool true) ∧ w' = w := by
  go_enter Tryd.func7, Tryd.ntmps7
  go_wp2
  go_ret
  exact ⟨rfl, rfl⟩
theorem later_any (w : World) : Calls Tryd.prog 9 #[] w fun e w' => e = .returned (.bool true) ∧ w' = w := by
  go_enter Tryd.func9, Tryd.ntmps9
  go_wp2
  go_ret
  exact ⟨rfl, rfl⟩
theorem upper_any (w : World) : Calls Tryd.prog 6 #[] w fun e w' => e = .returned (.bool true) ∧ w' = w := by
  go_enter Tryd.func6, Tryd.ntmps6
  go_wp2_with fail
  refine (later_any _).mono ?_
  rintro e w1 ⟨rfl, rfl⟩
  go_wp2_with fail
  go_ret
  exact ⟨rfl, rfl⟩
theorem kinds_any {w : World} (he : ErrT w) (hp : Pow w) : Calls Tryd.prog 8 #[] w fun e w' => e = .returned (.bool true) ∧ Below w.heap.size w w' := by
  go_enter Tryd.func8, Tryd.ntmps8
  go_wp2_with fail
  refine (told_any he hp).mono ?_
  rintro e w1 ⟨rfl, hb⟩
  go_wp2_with fail
  go_ret
  exact ⟨rfl, hb⟩
theorem topNames_any {w : World} (he : ErrT w) (hp : Pow w) : Calls Tryd.prog 3 #[] w fun e w' => e = .returned (.bool true) ∧ Below w.heap.size w w' := by
  go_enter Tryd.func3, Tryd.ntmps3
  go_wp2_with fail
  refine (general_any _).mono ?_
  rintro e w1 ⟨rfl, rfl⟩
  go_wp2_with fail
  refine (lower_any _).mono ?_
  rintro e w1 ⟨rfl, rfl⟩
  go_wp2_with fail
  refine (upper_any _).mono ?_
  rintro e w1 ⟨rfl, rfl⟩
  go_wp2_with fail
  refine (limits_any _).mono ?_
  rintro e w1 ⟨rfl, rfl⟩
  go_wp2_with fail
  refine (kinds_any he hp).mono ?_
  rintro e w1 ⟨rfl, hb⟩
  go_wp2_with fail
  go_ret
  exact ⟨rfl, hb⟩
end Go.Proofs.YtdplgkjcjcgboaaDoor
