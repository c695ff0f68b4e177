import Derived.Test.YtdmhajlhpieedaaLaL
/-! The reference's New; opened; LinkNames; LinkBounds. -/
namespace Go.Proofs.Ytdmhajlhpieedaa
open Go.RowKit Go.Lib Go.Shelf
set_option maxRecDepth 100000

set_option maxHeartbeats 1000000 in
theorem refNew_ok (n m : Nat) (h0 : 1 ≤ n) (h1 : n ≤ 9) (h3 : m ≤ 1048576) (w : World) : Calls Try.prog 24 #[.int .i64 (n : Int), .int .i64 (m : Int)] w fun e w' => e = .returned (.tuple #[.pointer (some ⟨w.heap.size, 0, none⟩), .int .i64 0]) ∧ w'.heap[w.heap.size]? = some (.cells #[.int .i64 (n : Int), .int .i64 (m : Int), .int .i64 0, .slice none 0 0] 90) ∧ Below w.heap.size w w' := by
  have g1 : ¬ (n : Int) < 1 := by omega
  have g2 : ¬ 9 < (n : Int) := by omega
  have g3 : ¬ (m : Int) < 0 := by omega
  have g4 : ¬ 1048576 < (m : Int) := by omega
  clear h0 h1 h3
  go_enter Try.func24, Try.ntmps24
  go_wp2_with fail
  go_ret2
  exact ⟨rfl, (MapKept.heap_alloc w _).1, (Below.refl _ _).alloc (Nat.le_refl _) _⟩
set_option maxHeartbeats 1000000 in
theorem refNew_bad (n m : Int) (hb : n < 1 ∨ 9 < n ∨ m < 0 ∨ 1048576 < m) (w : World) : Calls Try.prog 24 #[.int .i64 n, .int .i64 m] w fun e w' => e = .returned (.tuple #[.pointer none, .int .i64 2]) ∧ w' = w := by
  by_cases g1 : n < 1
  · clear hb
    go_enter Try.func24, Try.ntmps24
    go_wp2_with fail
    go_ret2
    exact ⟨rfl, rfl⟩
  · by_cases g2 : 9 < n
    · clear hb
      go_enter Try.func24, Try.ntmps24
      go_wp2_with fail
      go_ret2
      exact ⟨rfl, rfl⟩
    · by_cases g3 : m < 0
      · clear hb
        go_enter Try.func24, Try.ntmps24
        go_wp2_with fail
        go_ret2
        exact ⟨rfl, rfl⟩
      · have g4 : 1048576 < m := by omega
        clear hb
        go_enter Try.func24, Try.ntmps24
        go_wp2_with fail
        go_ret2
        exact ⟨rfl, rfl⟩
set_option maxHeartbeats 1000000 in
theorem opened_ok (n m : Nat) (h0 : 1 ≤ n) (h1 : n ≤ 9) (h3 : m ≤ 1048576) (w : World) : Calls Try.prog 9 #[.agg #[.int .i64 (n : Int), .int .i64 (m : Int)]] w fun e w' => ∃ q r, e = .returned (.tuple #[.pointer (some ⟨q, 0, none⟩), .pointer (some ⟨r, 0, none⟩), .bool true]) ∧ w.heap.size ≤ q ∧ w.heap.size ≤ r ∧ r ≠ q ∧ LinkAt w' q (lk0 n m) (.slice none 0 0) [] ∧ w'.heap[r]? = some (.cells #[.int .i64 (n : Int), .int .i64 (m : Int), .int .i64 0, .slice none 0 0] 90) ∧ Below w.heap.size w w' := by
  have HN' : Hid (∀ w, Calls Try.prog 10 #[.int .i64 (n : Int), .int .i64 (m : Int)] w fun e w' => e = .returned (.tuple #[.pointer (some ⟨w.heap.size, 0, none⟩), .int .i64 0]) ∧ LinkAt w' w.heap.size (lk0 n m) (.slice none 0 0) [] ∧ Below w.heap.size w w') := fun w => new_ok n m h0 h1 h3 w
  have HR' : Hid (∀ w, Calls Try.prog 24 #[.int .i64 (n : Int), .int .i64 (m : Int)] w fun e w' => e = .returned (.tuple #[.pointer (some ⟨w.heap.size, 0, none⟩), .int .i64 0]) ∧ w'.heap[w.heap.size]? = some (.cells #[.int .i64 (n : Int), .int .i64 (m : Int), .int .i64 0, .slice none 0 0] 90) ∧ Below w.heap.size w w') := fun w => refNew_ok n m h0 h1 h3 w
  clear h0 h1 h3
  go_enter Try.func9, Try.ntmps9
  go_wp2_with fail
  refine (HN'.out _).mono ?_
  rintro e w1 ⟨rfl, k1, k2⟩
  have hbx : w1.heap[w.heap.size]? = some (.cells #[.int .i64 (n : Int), .int .i64 (m : Int)] 27) := (k2.block _ (by simp)).trans (MapKept.heap_alloc w _).1
  obtain ⟨r0, r1⟩ := box2 hbx
  have HX : Hid (LinkAt w1 (w.heap.size + 1) (lk0 n m) (.slice none 0 0) [] ∧ Below w.heap.size w w1) := by
    rw [World.size_alloc] at k1 k2
    exact ⟨k1, ((Below.refl _ w).alloc (Nat.le_refl _) _).trans (k2.mono (by omega))⟩
  clear k1 k2 hbx
  go_wp2_with fail
  refine (HR'.out _).mono ?_
  rintro e w2 ⟨rfl, m1, m2⟩
  have HY : Hid (w2.heap[w1.heap.size]? = some (.cells #[.int .i64 (n : Int), .int .i64 (m : Int), .int .i64 0, .slice none 0 0] 90) ∧ Below w1.heap.size w1 w2) := ⟨m1, m2⟩
  clear m1 m2
  go_wp2_with fail
  go_ret3
  obtain ⟨k1, k2⟩ := HX.out
  obtain ⟨m1, m2⟩ := HY.out
  have := k1.qlt
  exact ⟨_, _, rfl, by omega, by have := k2.size; omega, by omega, k1.below m2, m1, k2.trans (m2.mono k2.size)⟩
set_option maxHeartbeats 1000000 in
theorem opened_bad (n m : Int) (hb : n < 1 ∨ 9 < n ∨ m < 0 ∨ 1048576 < m) (w : World) : Calls Try.prog 9 #[.agg #[.int .i64 n, .int .i64 m]] w fun e w' => e = .returned (.tuple #[.pointer none, .pointer none, .bool true]) ∧ Below w.heap.size w w' := by
  have HN' : Hid (∀ w, Calls Try.prog 10 #[.int .i64 n, .int .i64 m] w fun e w' => e = .returned (.tuple #[.pointer none, .int .i64 2]) ∧ w' = w) := fun w => new_bad n m hb w
  have HR' : Hid (∀ w, Calls Try.prog 24 #[.int .i64 n, .int .i64 m] w fun e w' => e = .returned (.tuple #[.pointer none, .int .i64 2]) ∧ w' = w) := fun w => refNew_bad n m hb w
  clear hb
  go_enter Try.func9, Try.ntmps9
  go_wp2_with fail
  refine (HN'.out _).mono ?_
  rintro e w1 ⟨rfl, rfl⟩
  go_wp2_with fail
  refine (HR'.out _).mono ?_
  rintro e w2 ⟨rfl, rfl⟩
  go_wp2_with fail
  go_ret3
  exact ⟨rfl, (Below.refl _ w).alloc (Nat.le_refl _) _⟩
set_option maxHeartbeats 1000000 in
theorem linkNames_any (w : World) : Calls Try.prog 3 #[] w fun e w' => e = .returned (.bool true) ∧ Below w.heap.size w w' := by
  have HO : Hid (∀ w, Calls Try.prog 9 #[.agg #[.int .i64 1, .int .i64 0]] w fun e w' => ∃ q r, e = .returned (.tuple #[.pointer (some ⟨q, 0, none⟩), .pointer (some ⟨r, 0, none⟩), .bool true]) ∧ Below w.heap.size w w') := fun w => (opened_ok 1 0 (by decide) (by decide) (by decide) w).mono (by
    rintro e w' ⟨q, r, he, _, _, _, _, _, hb⟩
    exact ⟨q, r, he, hb⟩)
  go_enter Try.func3, Try.ntmps3
  go_wp2_with fail
  refine (HO.out _).mono ?_
  rintro e w1 ⟨q, r, rfl, hb⟩
  have HB : Hid (Below w.heap.size w w1) := hb
  clear hb
  go_wp2_with fail
  go_ret
  exact ⟨rfl, HB.out⟩
set_option maxHeartbeats 1000000 in
theorem bounds_ok (n m : Nat) (h0 : 1 ≤ n) (h1 : n ≤ 9) (h3 : m ≤ 1048576) (w : World) : Calls Try.prog 4 #[.int .i64 (n : Int), .int .i64 (m : Int)] w fun e w' => e = .returned (.bool true) ∧ Below w.heap.size w w' := by
  have HN : Hid (∀ w, Calls Try.prog 10 #[.int .i64 (n : Int), .int .i64 (m : Int)] w fun e w' => e = .returned (.tuple #[.pointer (some ⟨w.heap.size, 0, none⟩), .int .i64 0]) ∧ LinkAt w' w.heap.size (lk0 n m) (.slice none 0 0) [] ∧ Below w.heap.size w w') := fun w => new_ok n m h0 h1 h3 w
  have g1 : (1 : Int) ≤ (n : Int) := by omega
  have g2 : (n : Int) ≤ 9 := by omega
  have g3 : (0 : Int) ≤ (m : Int) := by omega
  have g4 : (m : Int) ≤ 1048576 := by omega
  clear h0 h1 h3
  go_enter Try.func4, Try.ntmps4
  go_wp2_with fail
  refine (HN.out _).mono ?_
  rintro e w1 ⟨rfl, hL, hb⟩
  have L1 := len_any hL
  have L2 := next_any hL
  have HB : Hid (Below w.heap.size w w1) := hb
  simp only [List.length_nil, lk0] at L1 L2
  clear hb hL
  go_wp2_with fail
  refine L1.mono ?_
  rintro e w2 ⟨rfl, hw⟩
  obtain rfl := hw.symm
  go_wp2_with fail
  refine L2.mono ?_
  rintro e w2 ⟨rfl, hw⟩
  obtain rfl := hw.symm
  go_wp2_with fail
  go_ret
  exact ⟨rfl, HB.out⟩
set_option maxHeartbeats 1000000 in
theorem bounds_bad (n m : Int) (hb : n < 1 ∨ 9 < n ∨ m < 0 ∨ 1048576 < m) (w : World) : Calls Try.prog 4 #[.int .i64 n, .int .i64 m] w fun e w' => e = .returned (.bool true) ∧ Below w.heap.size w w' := by
  have HN : Hid (∀ w, Calls Try.prog 10 #[.int .i64 n, .int .i64 m] w fun e w' => e = .returned (.tuple #[.pointer none, .int .i64 2]) ∧ w' = w) := fun w => new_bad n m hb w
  have HX : Hid (∀ w, Calls Try.prog 10 #[.int .i64 1, .int .i64 0] w fun e w' => e = .returned (.tuple #[.pointer (some ⟨w.heap.size, 0, none⟩), .int .i64 0]) ∧ Below w.heap.size w w') := fun w => (new_ok 1 0 (by decide) (by decide) (by decide) w).mono (by rintro e w' ⟨h1, _, h2⟩; exact ⟨h1, h2⟩)
  by_cases g1 : n < 1
  · have g1' : ¬ 1 ≤ n := by omega
    clear hb
    go_enter Try.func4, Try.ntmps4
    go_wp2_with fail
    refine (HN.out _).mono ?_
    rintro e w1 ⟨rfl, hw⟩
    obtain rfl := hw.symm
    go_wp2_with fail
    refine (HX.out _).mono ?_
    rintro e w2 ⟨rfl, hb2⟩
    have HB : Hid (Below w.heap.size w w2) := hb2
    clear hb2
    go_wp2_with fail
    go_ret
    exact ⟨rfl, HB.out⟩
  · have g1' : 1 ≤ n := by omega
    by_cases g2 : 9 < n
    · have g2' : ¬ n ≤ 9 := by omega
      clear hb
      go_enter Try.func4, Try.ntmps4
      go_wp2_with fail
      refine (HN.out _).mono ?_
      rintro e w1 ⟨rfl, hw⟩
      obtain rfl := hw.symm
      go_wp2_with fail
      refine (HX.out _).mono ?_
      rintro e w2 ⟨rfl, hb2⟩
      have HB : Hid (Below w.heap.size w w2) := hb2
      clear hb2
      go_wp2_with fail
      go_ret
      exact ⟨rfl, HB.out⟩
    · have g2' : n ≤ 9 := by omega
      by_cases g3 : m < 0
      · have g3' : ¬ 0 ≤ m := by omega
        clear hb
        go_enter Try.func4, Try.ntmps4
        go_wp2_with fail
        refine (HN.out _).mono ?_
        rintro e w1 ⟨rfl, hw⟩
        obtain rfl := hw.symm
        go_wp2_with fail
        refine (HX.out _).mono ?_
        rintro e w2 ⟨rfl, hb2⟩
        have HB : Hid (Below w.heap.size w w2) := hb2
        clear hb2
        go_wp2_with fail
        go_ret
        exact ⟨rfl, HB.out⟩
      · have g3' : 0 ≤ m := by omega
        have g4' : ¬ m ≤ 1048576 := by omega
        clear hb
        go_enter Try.func4, Try.ntmps4
        go_wp2_with fail
        refine (HN.out _).mono ?_
        rintro e w1 ⟨rfl, hw⟩
        obtain rfl := hw.symm
        go_wp2_with fail
        refine (HX.out _).mono ?_
        rintro e w2 ⟨rfl, hb2⟩
        have HB : Hid (Below w.heap.size w w2) := hb2
        clear hb2
        go_wp2_with fail
        go_ret
        exact ⟨rfl, HB.out⟩
theorem linkBounds_any (n m : Int) (w : World) : Calls Try.prog 4 #[.int .i64 n, .int .i64 m] w fun e w' => e = .returned (.bool true) ∧ Below w.heap.size w w' := by
  by_cases hb : n < 1 ∨ 9 < n ∨ m < 0 ∨ 1048576 < m
  · exact bounds_bad n m hb w
  · obtain ⟨n', rfl⟩ : ∃ k : Nat, n = (k : Int) := ⟨n.toNat, by omega⟩
    obtain ⟨m', rfl⟩ : ∃ k : Nat, m = (k : Int) := ⟨m.toNat, by omega⟩
    exact bounds_ok n' m' (by omega) (by omega) (by omega) w
end Go.Proofs.Ytdmhajlhpieedaa
