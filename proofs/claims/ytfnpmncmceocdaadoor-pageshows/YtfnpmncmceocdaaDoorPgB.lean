import Derived.Test.YtfnpmncmceocdaaDoorPgA
import Derived.Test.YtfnpmncmceocdaaDoorRpB
namespace Go.Proofs.YtfnpmncmceocdaaDoor
open Go.RowKit Go.Lib
set_option maxRecDepth 100000

/-- The table's cells. -/
def noneCells : Array Value := #[.int .i32 10, .int .i32 10, .int .i32 768, .int .i32 879, .int .i32 8203, .int .i32 8205, .int .i32 65024, .int .i32 65039]
def noneTab : List (Int × Int) := [(10, 10), (768, 879), (8203, 8205), (65024, 65039)]
theorem noneI0 (w : World) : (Instr.index 75 (.agg noneCells) (.int .i64 0)).run Tryd.prog w = .ok (.agg #[.int .i32 10, .int .i32 10]) w := by kernel_rfl
theorem noneI1 (w : World) : (Instr.index 75 (.agg noneCells) (.int .i64 1)).run Tryd.prog w = .ok (.agg #[.int .i32 768, .int .i32 879]) w := by kernel_rfl
theorem noneI2 (w : World) : (Instr.index 75 (.agg noneCells) (.int .i64 2)).run Tryd.prog w = .ok (.agg #[.int .i32 8203, .int .i32 8205]) w := by kernel_rfl
theorem noneI3 (w : World) : (Instr.index 75 (.agg noneCells) (.int .i64 3)).run Tryd.prog w = .ok (.agg #[.int .i32 65024, .int .i32 65039]) w := by kernel_rfl
set_option maxHeartbeats 4000000 in
theorem none_any (r : Int) (w : World) (fr : Nat × Nat) (t : TypeId) (hg : w.heap[0]? = some (.cells noneCells t fr)) :
    Calls Tryd.prog 20 #[.int .i32 r] w fun e w' => e = .returned (.bool (noneR r)) ∧ Below w.heap.size w w' := by
  have i0 := noneI0; have i1 := noneI1; have i2 := noneI2; have i3 := noneI3
  go_enter Tryd.func20, Tryd.ntmps20
  go_wp2_with (refine wpList_load_row rfl 75 _ rfl 0 rfl t _ fr _ hg Tryd.underlying75 rfl (by kernel_rfl) ?_)
  clear hg
  go_loopw [6] (fun i w' => ∃ k : Nat, k ≤ 4 ∧ i = .int .i64 k ∧ (∀ p ∈ noneTab.take k, ¬ (p.1 ≤ r ∧ r ≤ p.2)) ∧ Below w.heap.size w w') (fun i _ => 4 - (intOf i).toNat)
  case atStart => exact ⟨0, by omega, rfl, fun p hp => (by cases hp), Below.refl _ _⟩
  case round =>
    obtain ⟨k, hk, rfl, hcl, hb⟩ := hrel
    have hsz := hb.size
    have hkn : k = 0 ∨ k = 1 ∨ k = 2 ∨ k = 3 ∨ k = 4 := by omega
    rcases hkn with rfl | rfl | rfl | rfl | rfl
    all_goals simp only [noneTab, List.take_succ_cons, List.take_zero, List.forall_mem_cons, List.not_mem_nil, false_implies, implies_true, and_true] at hcl
    · go_wp2
      · go_ret
        exact ⟨congrArg (fun b => Ending.returned (.bool b)) (by unfold noneR; rw [eq_comm, decide_eq_true_eq]; omega), hb.alloc hsz _⟩
      all_goals exact ⟨⟨1, by omega, rfl, by simp only [noneTab, List.take_succ_cons, List.take_zero, List.forall_mem_cons, List.not_mem_nil, false_implies, implies_true, and_true]; omega, hb.alloc hsz _⟩, by simp [intOf]⟩
    · go_wp2
      · go_ret
        exact ⟨congrArg (fun b => Ending.returned (.bool b)) (by unfold noneR; rw [eq_comm, decide_eq_true_eq]; omega), hb.alloc hsz _⟩
      all_goals exact ⟨⟨2, by omega, rfl, by simp only [noneTab, List.take_succ_cons, List.take_zero, List.forall_mem_cons, List.not_mem_nil, false_implies, implies_true, and_true]; omega, hb.alloc hsz _⟩, by simp [intOf]⟩
    · go_wp2
      · go_ret
        exact ⟨congrArg (fun b => Ending.returned (.bool b)) (by unfold noneR; rw [eq_comm, decide_eq_true_eq]; omega), hb.alloc hsz _⟩
      all_goals exact ⟨⟨3, by omega, rfl, by simp only [noneTab, List.take_succ_cons, List.take_zero, List.forall_mem_cons, List.not_mem_nil, false_implies, implies_true, and_true]; omega, hb.alloc hsz _⟩, by simp [intOf]⟩
    · go_wp2
      · go_ret
        exact ⟨congrArg (fun b => Ending.returned (.bool b)) (by unfold noneR; rw [eq_comm, decide_eq_true_eq]; omega), hb.alloc hsz _⟩
      all_goals exact ⟨⟨4, by omega, rfl, by simp only [noneTab, List.take_succ_cons, List.take_zero, List.forall_mem_cons, List.not_mem_nil, false_implies, implies_true, and_true]; omega, hb.alloc hsz _⟩, by simp [intOf]⟩
    · go_wp2
      go_ret
      exact ⟨congrArg (fun b => Ending.returned (.bool b)) (by unfold noneR; rw [eq_comm, decide_eq_false_iff_not]; omega), hb⟩
/-- The table's cells. -/
def twoCells : Array Value := #[.int .i32 4352, .int .i32 4447, .int .i32 11904, .int .i32 12350, .int .i32 12353, .int .i32 42191, .int .i32 44032, .int .i32 55203, .int .i32 63744, .int .i32 64255, .int .i32 65072, .int .i32 65135, .int .i32 65280, .int .i32 65376, .int .i32 65504, .int .i32 65510, .int .i32 127744, .int .i32 129791, .int .i32 131072, .int .i32 262141]
def twoTab : List (Int × Int) := [(4352, 4447), (11904, 12350), (12353, 42191), (44032, 55203), (63744, 64255), (65072, 65135), (65280, 65376), (65504, 65510), (127744, 129791), (131072, 262141)]
theorem twoI0 (w : World) : (Instr.index 76 (.agg twoCells) (.int .i64 0)).run Tryd.prog w = .ok (.agg #[.int .i32 4352, .int .i32 4447]) w := by kernel_rfl
theorem twoI1 (w : World) : (Instr.index 76 (.agg twoCells) (.int .i64 1)).run Tryd.prog w = .ok (.agg #[.int .i32 11904, .int .i32 12350]) w := by kernel_rfl
theorem twoI2 (w : World) : (Instr.index 76 (.agg twoCells) (.int .i64 2)).run Tryd.prog w = .ok (.agg #[.int .i32 12353, .int .i32 42191]) w := by kernel_rfl
theorem twoI3 (w : World) : (Instr.index 76 (.agg twoCells) (.int .i64 3)).run Tryd.prog w = .ok (.agg #[.int .i32 44032, .int .i32 55203]) w := by kernel_rfl
theorem twoI4 (w : World) : (Instr.index 76 (.agg twoCells) (.int .i64 4)).run Tryd.prog w = .ok (.agg #[.int .i32 63744, .int .i32 64255]) w := by kernel_rfl
theorem twoI5 (w : World) : (Instr.index 76 (.agg twoCells) (.int .i64 5)).run Tryd.prog w = .ok (.agg #[.int .i32 65072, .int .i32 65135]) w := by kernel_rfl
theorem twoI6 (w : World) : (Instr.index 76 (.agg twoCells) (.int .i64 6)).run Tryd.prog w = .ok (.agg #[.int .i32 65280, .int .i32 65376]) w := by kernel_rfl
theorem twoI7 (w : World) : (Instr.index 76 (.agg twoCells) (.int .i64 7)).run Tryd.prog w = .ok (.agg #[.int .i32 65504, .int .i32 65510]) w := by kernel_rfl
theorem twoI8 (w : World) : (Instr.index 76 (.agg twoCells) (.int .i64 8)).run Tryd.prog w = .ok (.agg #[.int .i32 127744, .int .i32 129791]) w := by kernel_rfl
theorem twoI9 (w : World) : (Instr.index 76 (.agg twoCells) (.int .i64 9)).run Tryd.prog w = .ok (.agg #[.int .i32 131072, .int .i32 262141]) w := by kernel_rfl
set_option maxHeartbeats 4000000 in
theorem two_any (r : Int) (w : World) (fr : Nat × Nat) (t : TypeId) (hg : w.heap[1]? = some (.cells twoCells t fr)) :
    Calls Tryd.prog 21 #[.int .i32 r] w fun e w' => e = .returned (.bool (twoR r)) ∧ Below w.heap.size w w' := by
  have i0 := twoI0; have i1 := twoI1; have i2 := twoI2; have i3 := twoI3; have i4 := twoI4; have i5 := twoI5; have i6 := twoI6; have i7 := twoI7; have i8 := twoI8; have i9 := twoI9
  go_enter Tryd.func21, Tryd.ntmps21
  go_wp2_with (refine wpList_load_row rfl 76 _ rfl 1 rfl t _ fr _ hg Tryd.underlying76 rfl (by kernel_rfl) ?_)
  clear hg
  go_loopw [6] (fun i w' => ∃ k : Nat, k ≤ 10 ∧ i = .int .i64 k ∧ (∀ p ∈ twoTab.take k, ¬ (p.1 ≤ r ∧ r ≤ p.2)) ∧ Below w.heap.size w w') (fun i _ => 10 - (intOf i).toNat)
  case atStart => exact ⟨0, by omega, rfl, fun p hp => (by cases hp), Below.refl _ _⟩
  case round =>
    obtain ⟨k, hk, rfl, hcl, hb⟩ := hrel
    have hsz := hb.size
    have hkn : k = 0 ∨ k = 1 ∨ k = 2 ∨ k = 3 ∨ k = 4 ∨ k = 5 ∨ k = 6 ∨ k = 7 ∨ k = 8 ∨ k = 9 ∨ k = 10 := by omega
    rcases hkn with rfl | rfl | rfl | rfl | rfl | rfl | rfl | rfl | rfl | rfl | rfl
    all_goals simp only [twoTab, List.take_succ_cons, List.take_zero, List.forall_mem_cons, List.not_mem_nil, false_implies, implies_true, and_true] at hcl
    · go_wp2
      · go_ret
        exact ⟨congrArg (fun b => Ending.returned (.bool b)) (by unfold twoR; rw [eq_comm, decide_eq_true_eq]; omega), hb.alloc hsz _⟩
      all_goals exact ⟨⟨1, by omega, rfl, by simp only [twoTab, List.take_succ_cons, List.take_zero, List.forall_mem_cons, List.not_mem_nil, false_implies, implies_true, and_true]; omega, hb.alloc hsz _⟩, by simp [intOf]⟩
    · go_wp2
      · go_ret
        exact ⟨congrArg (fun b => Ending.returned (.bool b)) (by unfold twoR; rw [eq_comm, decide_eq_true_eq]; omega), hb.alloc hsz _⟩
      all_goals exact ⟨⟨2, by omega, rfl, by simp only [twoTab, List.take_succ_cons, List.take_zero, List.forall_mem_cons, List.not_mem_nil, false_implies, implies_true, and_true]; omega, hb.alloc hsz _⟩, by simp [intOf]⟩
    · go_wp2
      · go_ret
        exact ⟨congrArg (fun b => Ending.returned (.bool b)) (by unfold twoR; rw [eq_comm, decide_eq_true_eq]; omega), hb.alloc hsz _⟩
      all_goals exact ⟨⟨3, by omega, rfl, by simp only [twoTab, List.take_succ_cons, List.take_zero, List.forall_mem_cons, List.not_mem_nil, false_implies, implies_true, and_true]; omega, hb.alloc hsz _⟩, by simp [intOf]⟩
    · go_wp2
      · go_ret
        exact ⟨congrArg (fun b => Ending.returned (.bool b)) (by unfold twoR; rw [eq_comm, decide_eq_true_eq]; omega), hb.alloc hsz _⟩
      all_goals exact ⟨⟨4, by omega, rfl, by simp only [twoTab, List.take_succ_cons, List.take_zero, List.forall_mem_cons, List.not_mem_nil, false_implies, implies_true, and_true]; omega, hb.alloc hsz _⟩, by simp [intOf]⟩
    · go_wp2
      · go_ret
        exact ⟨congrArg (fun b => Ending.returned (.bool b)) (by unfold twoR; rw [eq_comm, decide_eq_true_eq]; omega), hb.alloc hsz _⟩
      all_goals exact ⟨⟨5, by omega, rfl, by simp only [twoTab, List.take_succ_cons, List.take_zero, List.forall_mem_cons, List.not_mem_nil, false_implies, implies_true, and_true]; omega, hb.alloc hsz _⟩, by simp [intOf]⟩
    · go_wp2
      · go_ret
        exact ⟨congrArg (fun b => Ending.returned (.bool b)) (by unfold twoR; rw [eq_comm, decide_eq_true_eq]; omega), hb.alloc hsz _⟩
      all_goals exact ⟨⟨6, by omega, rfl, by simp only [twoTab, List.take_succ_cons, List.take_zero, List.forall_mem_cons, List.not_mem_nil, false_implies, implies_true, and_true]; omega, hb.alloc hsz _⟩, by simp [intOf]⟩
    · go_wp2
      · go_ret
        exact ⟨congrArg (fun b => Ending.returned (.bool b)) (by unfold twoR; rw [eq_comm, decide_eq_true_eq]; omega), hb.alloc hsz _⟩
      all_goals exact ⟨⟨7, by omega, rfl, by simp only [twoTab, List.take_succ_cons, List.take_zero, List.forall_mem_cons, List.not_mem_nil, false_implies, implies_true, and_true]; omega, hb.alloc hsz _⟩, by simp [intOf]⟩
    · go_wp2
      · go_ret
        exact ⟨congrArg (fun b => Ending.returned (.bool b)) (by unfold twoR; rw [eq_comm, decide_eq_true_eq]; omega), hb.alloc hsz _⟩
      all_goals exact ⟨⟨8, by omega, rfl, by simp only [twoTab, List.take_succ_cons, List.take_zero, List.forall_mem_cons, List.not_mem_nil, false_implies, implies_true, and_true]; omega, hb.alloc hsz _⟩, by simp [intOf]⟩
    · go_wp2
      · go_ret
        exact ⟨congrArg (fun b => Ending.returned (.bool b)) (by unfold twoR; rw [eq_comm, decide_eq_true_eq]; omega), hb.alloc hsz _⟩
      all_goals exact ⟨⟨9, by omega, rfl, by simp only [twoTab, List.take_succ_cons, List.take_zero, List.forall_mem_cons, List.not_mem_nil, false_implies, implies_true, and_true]; omega, hb.alloc hsz _⟩, by simp [intOf]⟩
    · go_wp2
      · go_ret
        exact ⟨congrArg (fun b => Ending.returned (.bool b)) (by unfold twoR; rw [eq_comm, decide_eq_true_eq]; omega), hb.alloc hsz _⟩
      all_goals exact ⟨⟨10, by omega, rfl, by simp only [twoTab, List.take_succ_cons, List.take_zero, List.forall_mem_cons, List.not_mem_nil, false_implies, implies_true, and_true]; omega, hb.alloc hsz _⟩, by simp [intOf]⟩
    · go_wp2
      go_ret
      exact ⟨congrArg (fun b => Ending.returned (.bool b)) (by unfold twoR; rw [eq_comm, decide_eq_false_iff_not]; omega), hb⟩

/-- The tables of the package. -/
structure PTab (w : World) : Prop where
  none : ∃ t fr, w.heap[0]? = some (.cells noneCells t fr)
  two : ∃ t fr, w.heap[1]? = some (.cells twoCells t fr)
  bar : ∃ t fr, w.heap[2]? = some (.cells barCells t fr)
theorem PTab.keep {w w' : World} (h : PTab w) (hk : ∀ g, g = 0 ∨ g = 1 ∨ g = 2 → g < w.heap.size → w'.heap[g]? = w.heap[g]?) : PTab w' := by
  obtain ⟨⟨a, b, h1⟩, ⟨c, d, h2⟩, ⟨e, f, h3⟩⟩ := h
  exact ⟨⟨a, b, (hk _ (.inl rfl) (Array.getElem?_eq_some_iff.1 h1).1).trans h1⟩, ⟨c, d, (hk _ (.inr (.inl rfl)) (Array.getElem?_eq_some_iff.1 h2).1).trans h2⟩, ⟨e, f, (hk _ (.inr (.inr rfl)) (Array.getElem?_eq_some_iff.1 h3).1).trans h3⟩⟩
theorem PTab.below {w w' : World} (h : PTab w) (hb : Below w.heap.size w w') : PTab w' := h.keep fun g _ hg => hb.block g hg
theorem rem4 (c : Int) (h : 0 ≤ c) : ((4 - c % 4 : Int)) = ((4 - c.toNat % 4 : Nat) : Int) := by omega
set_option maxHeartbeats 1000000 in
theorem Cols_any {w : World} (h : PTab w) (r c : Int) :
    Calls Tryd.prog 11 #[.int .i32 r, .int .i64 c] w fun e w' => e = .returned (.int .i64 (colN r (max c 0).toNat : Nat)) ∧ Below w.heap.size w w' := by
  have hm := max_run #[3, 3] 3 c 0 w
  by_cases h9 : r = 9
  · have hz : (r == 9) = true := by rw [beq_iff_eq]; exact h9
    have HC : Hid ((4 - (max c 0) % 4 : Int) = (colN r (max c 0).toNat : Nat)) := by
      show _ = _
      unfold colN
      rw [if_pos h9]
      exact rem4 _ (by omega)
    clear h h9
    have hrem : (max c 0).tmod 4 = (max c 0) % 4 := by rw [Int.tmod_eq_emod_of_nonneg (by omega)]
    generalize max c 0 = m at *
    go_enter Tryd.func11, Tryd.ntmps11
    go_wp2_with fail
    go_ret
    exact ⟨ret_i64 HC.out, Below.refl _ _⟩
  · have hz : (r == 9) = false := by rw [beq_eq_false_iff_ne]; exact h9
    obtain ⟨t1, f1, g1⟩ := h.none
    have K1 := none_any r w f1 t1 g1
    clear g1 hm
    cases hn : noneR r with
    | true =>
      have HC : Hid ((colN r (max c 0).toNat : Nat) = 0) := by
        show _ = _
        unfold colN
        rw [if_neg h9, if_pos hn]
      rw [hn] at K1
      clear h h9 hn
      go_enter Tryd.func11, Tryd.ntmps11
      go_wp2_with fail
      refine K1.mono ?_
      rintro e w1 ⟨rfl, hb⟩
      go_wp2_with fail
      go_ret
      exact ⟨by rw [HC.out]; rfl, hb⟩
    | false =>
      rw [hn] at K1
      have K2 : Hid (∀ w1, Below w.heap.size w w1 → Calls Tryd.prog 21 #[.int .i32 r] w1 fun e w' => e = .returned (.bool (twoR r)) ∧ Below w1.heap.size w1 w') := fun w1 hb => by
        obtain ⟨t2, f2, g2⟩ := (h.below hb).two
        exact two_any r w1 f2 t2 g2
      have HC : Hid ((colN r (max c 0).toNat : Nat) = if twoR r = true then 2 else 1) := by
        show _ = _
        unfold colN
        rw [if_neg h9, hn]
        rfl
      clear h h9 hn
      cases ht : twoR r
      all_goals
        rw [ht] at K2 HC
        clear ht
        go_enter Tryd.func11, Tryd.ntmps11
        go_wp2_with fail
        refine K1.mono ?_
        rintro e w1 ⟨rfl, hb⟩
        go_wp2_with fail
        refine (K2.out w1 hb).mono ?_
        rintro e w2 ⟨rfl, hb2⟩
        go_wp2_with fail
        go_ret
        exact ⟨by rw [HC.out]; rfl, hb.trans (hb2.mono hb.size)⟩
theorem blank_any (r : Int) (w : World) : Calls Tryd.prog 52 #[.int .i32 r] w fun e w' => e = .returned (.bool (blankR r)) ∧ w' = w := by
  by_cases h1 : r = 32
  · have hz : (r == 32) = true := by rw [beq_iff_eq]; exact h1
    have HC : Hid (blankR r = true) := by show _ = _; unfold blankR; rw [decide_eq_true_eq]; exact .inl h1
    clear h1
    go_enter Tryd.func52, Tryd.ntmps52
    go_wp2_with fail
    go_ret
    exact ⟨congrArg (fun b => Ending.returned (.bool b)) HC.out.symm, rfl⟩
  · have hz : (r == 32) = false := by rw [beq_eq_false_iff_ne]; exact h1
    have HC : Hid (blankR r = (r == 9)) := by show _ = _; unfold blankR; rw [Bool.eq_iff_iff, decide_eq_true_eq, beq_iff_eq]; omega
    clear h1
    go_enter Tryd.func52, Tryd.ntmps52
    go_wp2_with fail
    go_ret
    exact ⟨congrArg (fun b => Ending.returned (.bool b)) HC.out.symm, rfl⟩

end Go.Proofs.YtfnpmncmceocdaaDoor