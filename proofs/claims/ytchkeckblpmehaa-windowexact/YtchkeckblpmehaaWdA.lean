import Derived.Test.YtchkeckblpmehaaWbI
/-! The reference's New; opened. -/
namespace Go.Proofs.Ytchkeckblpmehaa
open Go.RowKit Go.Lib
set_option maxRecDepth 100000

set_option maxHeartbeats 1000000 in
theorem refNew_ok (n s : Int) (h0 : 0 ≤ n) (h1 : n ≤ 1048576) (h2 : 1 ≤ s) (h3 : s ≤ 1048576) (w : World) : Calls Try.prog 9 #[.int .i64 n, .int .i64 s] w fun e w' => e = .returned (.tuple #[.pointer (some ⟨w.heap.size, 0, none⟩), .int .i64 0]) ∧ w'.heap[w.heap.size]? = some (.cells #[.int .i64 n, .int .i64 s, .slice none 0 0] 64) ∧ Below w.heap.size w w' ∧ w'.heap.size = w.heap.size + 1 := by
  have g1 : ¬ n < 0 := by omega
  have g2 : ¬ 1048576 < n := by omega
  have g3 : ¬ s < 1 := by omega
  have g4 : ¬ 1048576 < s := by omega
  go_enter Try.func9, Try.ntmps9
  go_wp2_with fail
  go_ret2
  refine ⟨rfl, ?_, (Below.refl _ _).alloc (Nat.le_refl _) _, by simp⟩
  exact (MapKept.heap_alloc w (.cells #[.int .i64 n, .int .i64 s, .slice none 0 0] 64)).1
set_option maxHeartbeats 1000000 in
theorem refNew_bad (n s : Int) (hb : n < 0 ∨ 1048576 < n ∨ s < 1 ∨ 1048576 < s) (w : World) : Calls Try.prog 9 #[.int .i64 n, .int .i64 s] w fun e w' => e = .returned (.tuple #[.pointer none, .int .i64 2]) ∧ w' = w := by
  by_cases g1 : n < 0
  · go_enter Try.func9, Try.ntmps9
    go_wp2_with fail
    go_ret2
    exact ⟨rfl, rfl⟩
  · by_cases g2 : 1048576 < n
    · go_enter Try.func9, Try.ntmps9
      go_wp2_with fail
      go_ret2
      exact ⟨rfl, rfl⟩
    · by_cases g3 : s < 1
      · go_enter Try.func9, Try.ntmps9
        go_wp2_with fail
        go_ret2
        exact ⟨rfl, rfl⟩
      · have g4 : 1048576 < s := by omega
        go_enter Try.func9, Try.ntmps9
        go_wp2_with fail
        go_ret2
        exact ⟨rfl, rfl⟩
theorem box2 {W : World} {b : Nat} {T : TypeId} {v0 v1 : Value} (h : W.heap[b]? = some (.cells #[v0, v1] T)) : W.cell? ⟨b, 0, none⟩ = some v0 ∧ W.cell? ⟨b, 1, none⟩ = some v1 := by
  simp only [Lib.cell_of_heap h]
  exact ⟨rfl, rfl⟩
set_option maxHeartbeats 1000000 in
theorem opened_ok (n s : Int) (h0 : 0 ≤ n) (h1 : n ≤ 1048576) (h2 : 1 ≤ s) (h3 : s ≤ 1048576) (w : World) : Calls Try.prog 4 #[.agg #[.int .i64 n, .int .i64 s]] w fun e w' => ∃ q b r, e = .returned (.tuple #[.pointer (some ⟨q, 0, none⟩), .pointer (some ⟨r, 0, none⟩), .bool true]) ∧ w.heap.size ≤ q ∧ w.heap.size ≤ b ∧ w.heap.size ≤ r ∧ r ≠ q ∧ r ≠ b ∧ WinI w' q b ⟨n, s, []⟩ ∧ w'.heap[r]? = some (.cells #[.int .i64 n, .int .i64 s, .slice none 0 0] 64) ∧ Below w.heap.size w w' := by
  have HN := fun w => newI_ok n s h0 h1 h2 h3 w
  have HR := fun w => refNew_ok n s h0 h1 h2 h3 w
  have HN' : Hid (∀ w, Calls Try.prog 8 #[.int .i64 n, .int .i64 s] w fun e w' => e = .returned (.tuple #[.pointer (some ⟨w.heap.size + 1, 0, none⟩), .int .i64 0]) ∧ WinI w' (w.heap.size + 1) w.heap.size ⟨n, s, []⟩ ∧ Below w.heap.size w w' ∧ w'.heap.size = w.heap.size + 2) := HN
  have HR' : Hid (∀ w, Calls Try.prog 9 #[.int .i64 n, .int .i64 s] w fun e w' => e = .returned (.tuple #[.pointer (some ⟨w.heap.size, 0, none⟩), .int .i64 0]) ∧ w'.heap[w.heap.size]? = some (.cells #[.int .i64 n, .int .i64 s, .slice none 0 0] 64) ∧ Below w.heap.size w w' ∧ w'.heap.size = w.heap.size + 1) := HR
  clear HN HR h0 h1 h2 h3
  go_enter Try.func4, Try.ntmps4
  go_wp2_with fail
  refine (HN'.out _).mono ?_
  rintro e w1 ⟨rfl, k1, k2, k3⟩
  have hbx : w1.heap[w.heap.size]? = some (.cells #[.int .i64 n, .int .i64 s] 23) := (k2.block _ (by simp)).trans (MapKept.heap_alloc w _).1
  obtain ⟨r0, r1⟩ := box2 hbx
  have HX : Hid (WinI w1 (w.heap.size + 1 + 1) (w.heap.size + 1) ⟨n, s, []⟩ ∧ Below w.heap.size w w1 ∧ w1.heap.size = w.heap.size + 1 + 2) := by
    rw [World.size_alloc] at k1 k2 k3
    exact ⟨k1, ((Below.refl _ w).alloc (Nat.le_refl _) _).trans (k2.mono (by omega)), k3⟩
  clear k1 k2 k3 hbx
  go_wp2_with fail
  refine (HR'.out _).mono ?_
  rintro e w2 ⟨rfl, m1, m2, m3⟩
  have HY : Hid (w2.heap[w1.heap.size]? = some (.cells #[.int .i64 n, .int .i64 s, .slice none 0 0] 64) ∧ Below w1.heap.size w1 w2) := ⟨m1, m2⟩
  clear m1 m2 m3
  go_wp2_with fail
  go_ret3
  obtain ⟨k1, k2, k3⟩ := HX.out
  obtain ⟨m1, m2⟩ := HY.out
  exact ⟨_, _, _, rfl, by omega, by omega, by omega, by omega, by omega, k1.below m2, m1, k2.trans (m2.mono (by omega))⟩
set_option maxHeartbeats 1000000 in
theorem opened_bad (n s : Int) (hb : n < 0 ∨ 1048576 < n ∨ s < 1 ∨ 1048576 < s) (w : World) : Calls Try.prog 4 #[.agg #[.int .i64 n, .int .i64 s]] w fun e w' => e = .returned (.tuple #[.pointer none, .pointer none, .bool true]) ∧ Below w.heap.size w w' := by
  have HN' : Hid (∀ w, Calls Try.prog 8 #[.int .i64 n, .int .i64 s] w fun e w' => e = .returned (.tuple #[.pointer none, .int .i64 2]) ∧ w' = w) := fun w => newI_bad n s hb w
  have HR' : Hid (∀ w, Calls Try.prog 9 #[.int .i64 n, .int .i64 s] w fun e w' => e = .returned (.tuple #[.pointer none, .int .i64 2]) ∧ w' = w) := fun w => refNew_bad n s hb w
  clear hb
  go_enter Try.func4, Try.ntmps4
  go_wp2_with fail
  refine (HN'.out _).mono ?_
  rintro e w1 ⟨rfl, rfl⟩
  go_wp2_with fail
  refine (HR'.out _).mono ?_
  rintro e w2 ⟨rfl, rfl⟩
  go_wp2_with fail
  go_ret3
  exact ⟨rfl, (Below.refl _ w).alloc (Nat.le_refl _) _⟩
end Go.Proofs.Ytchkeckblpmehaa
