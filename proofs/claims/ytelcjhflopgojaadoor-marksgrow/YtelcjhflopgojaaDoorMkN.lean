import Derived.Test.YtelcjhflopgojaaDoorMkB
/-! New. -/
namespace Go.Proofs.YtelcjhflopgojaaDoor
open Go.RowKit Go.Lib
set_option maxRecDepth 100000

theorem makeMap_run (W : World) : (Instr.makeMap 45 none).run Tryd.prog W = .ok (.map (some W.heap.size)) (W.alloc (.map #[] 0)) := by
  simp [Instr.makeMap]
set_option maxHeartbeats 1000000 in
theorem new_any (n : Nat) (hn : n ≤ 1048576) (w : World) : Calls Tryd.prog 5 #[.int .i64 (n : Int)] w fun e w' => e = .returned (.tuple #[.pointer (some ⟨w.heap.size + 1, 0, none⟩), .int .i64 0]) ∧ BookAt w' (w.heap.size + 1) w.heap.size n [] 0 ∧ Below w.heap.size w w' := by
  have g1 : ¬ ((n : Int) < 0) := by omega
  have g2 : ¬ ((1048576 : Int) < (n : Int)) := by omega
  have HM := makeMap_run
  go_enter Tryd.func5, Tryd.ntmps5
  go_wp2_with fail
  go_ret2
  refine ⟨rfl, ?_, ?_⟩
  · refine ⟨?_, ⟨?_, by simp, by simp, by simp⟩, by simp, by simp⟩
    · have := (MapKept.heap_alloc (w.alloc (.map #[] 0)) (.cells #[.int .i64 (n : Int), .map (some w.heap.size)] 47)).1
      rw [World.size_alloc] at this
      exact this
    · have h1 := (MapKept.heap_alloc (w.alloc (.map #[] 0)) (.cells #[.int .i64 (n : Int), .map (some w.heap.size)] 47)).2 w.heap.size (by rw [World.size_alloc]; omega)
      exact h1.trans (MapKept.heap_alloc w _).1
  · exact ((Below.refl _ _).alloc (Nat.le_refl _) _).alloc (by rw [World.size_alloc]; omega) _
set_option maxHeartbeats 1000000 in
theorem new_bad (n : Int) (hn : n < 0 ∨ 1048576 < n) (w : World) : Calls Tryd.prog 5 #[.int .i64 n] w fun e w' => e = .returned (.tuple #[.pointer none, .int .i64 12]) ∧ w' = w := by
  by_cases g1 : n < 0
  · clear hn
    go_enter Tryd.func5, Tryd.ntmps5
    go_wp2_with fail
    go_ret2
    exact ⟨rfl, rfl⟩
  · have g2 : 1048576 < n := hn.resolve_left g1
    clear hn
    go_enter Tryd.func5, Tryd.ntmps5
    go_wp2_with fail
    go_ret2
    exact ⟨rfl, rfl⟩
end Go.Proofs.YtelcjhflopgojaaDoor
