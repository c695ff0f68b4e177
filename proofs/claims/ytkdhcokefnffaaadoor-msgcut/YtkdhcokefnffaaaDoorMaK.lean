import Derived.Test.YtkdhcokefnffaaaDoorMaJ
/-! Encode of a Hello without a command. -/
namespace Go.Proofs.YtkdhcokefnffaaaDoor
open Go.RowKit Go.Lib Sp
set_option maxRecDepth 100000

set_option maxHeartbeats 4000000 in
theorem encode_ok (w : World) (k r : Nat) (hk : 1 ≤ k ∧ k ≤ 8) (hr : r ≤ 8192) :
    Calls Tryd.prog 8 #[.agg #[.int .i64 1, .int .i64 (k : Int), .int .i64 (r : Int), .int .i64 0, .int .i64 0, .int .i64 0, .int .i64 0, .int .i64 0, .string ⟨#[]⟩, .slice none 0 0, .int .i64 0, .int .i64 0, .bool false]] w fun e w' => ∃ v', e = .returned (.tuple #[v', .int .i64 0]) ∧ OwnF byV 1 5 w' w.heap.size v' (encL [1, k, r]) ∧ Below w.heap.size w w' := by
  have HC := fun w => checkMessage_ok w k r (by omega) (by omega)
  have HA := fun w => appendMessage_hello w k r (by omega) (by omega) 0 o0 (.slice none 0 0)
  simp only [msgV, msgA, o0] at HA
  clear hk hr
  go_enter Tryd.func8, Tryd.ntmps8
  go_wp2_with fail
  refine (HC _).mono ?_
  rintro e w1 ⟨rfl, hb⟩
  have hq : w1.heap[w.heap.size]? = some (.cells #[.int .i64 1, .int .i64 (k : Int), .int .i64 (r : Int), .int .i64 0, .int .i64 0, .int .i64 0, .int .i64 0, .int .i64 0, .string ⟨#[]⟩, .slice none 0 0, .int .i64 0, .int .i64 0, .bool false] 37) := (hb.block _ (by simp)).trans (heap_alloc_new _ _)
  have hb0 : Below w.heap.size w w1 := ((Below.refl _ _).alloc (Nat.le_refl _) _).trans (hb.mono (by simp))
  have HB : Hid (Below w.heap.size w w1) := hb0
  obtain ⟨q0, q1, q2, q3, q4, q5, q6, q7, q8, q9, q10, q11, q12⟩ := box13 hq
  clear hq hb hb0 HC
  go_wp2_with fail
  refine (HA _).mono ?_
  rintro e w2 ⟨v', rfl, ho, hb2⟩
  clear HA q0 q1 q2 q3 q4 q5 q6 q7 q8 q9 q10 q11 q12
  go_wp2_with fail
  refine bodyPost_ret (v := .tuple #[v', .int .i64 0]) (by simp [results, Tryd.results8, go_sem]) rfl ?_
  have hs := HB.out.size
  exact ⟨v', rfl, ho.mono hs, HB.out.trans (hb2.mono hs)⟩

set_option maxHeartbeats 4000000 in
theorem encode_rev (w : World) (k r : Int) (hk : 1 ≤ k ∧ k ≤ 8) (hr : ¬ (0 ≤ r ∧ r ≤ 8192)) :
    Calls Tryd.prog 8 #[.agg #[.int .i64 1, .int .i64 k, .int .i64 r, .int .i64 0, .int .i64 0, .int .i64 0, .int .i64 0, .int .i64 0, .string ⟨#[]⟩, .slice none 0 0, .int .i64 0, .int .i64 0, .bool false]] w fun e w' => e = .returned (.tuple #[.slice none 0 0, .int .i64 104]) ∧ Below w.heap.size w w' := by
  have HC := fun w => checkMessage_rev w k r hk hr
  clear hk hr
  go_enter Tryd.func8, Tryd.ntmps8
  go_wp2_with fail
  refine (HC _).mono ?_
  rintro e w1 ⟨rfl, hb⟩
  have HB : Hid (Below w.heap.size w w1) := ((Below.refl _ _).alloc (Nat.le_refl _) _).trans (hb.mono (by simp))
  clear hb HC
  go_wp2_with fail
  refine bodyPost_ret (v := .tuple #[.slice none 0 0, .int .i64 104]) (by simp [results, Tryd.results8, go_sem]) rfl ?_
  exact ⟨rfl, HB.out⟩
end Go.Proofs.YtkdhcokefnffaaaDoor
