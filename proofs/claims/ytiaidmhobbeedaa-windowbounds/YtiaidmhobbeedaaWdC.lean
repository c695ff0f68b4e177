import Derived.Test.YtiaidmhobbeedaaWcI
/-! WindowBounds. -/
namespace Go.Proofs.Ytiaidmhobbeedaa
open Go.RowKit Go.Lib
set_option maxRecDepth 100000

theorem srt_nil {α : Type} : srt ([] : List (Int × α)) = [] := by simp [srt]
theorem srt_one {α : Type} (n : Int) (v : α) : srt [(n, v)] = [n] := by simp [srt]
set_option maxHeartbeats 1000000 in
theorem bounds_bad (n s k : Int) (hb : n < 0 ∨ 1048576 < n ∨ s < 1 ∨ 1048576 < s) (w : World) : Calls Try.prog 5 #[.int .i64 n, .int .i64 s, .int .i64 k] w fun e w' => e = .returned (.bool true) ∧ Below w.heap.size w w' := by
  have HN : Hid (∀ w, Calls Try.prog 11 #[.int .i64 n, .int .i64 s] w fun e w' => e = .returned (.tuple #[.pointer none, .int .i64 2]) ∧ w' = w) := fun w => newI_bad n s hb w
  have HX : Hid (∀ w, Calls Try.prog 11 #[.int .i64 3, .int .i64 2] w fun e w' => e = .returned (.tuple #[.pointer (some ⟨w.heap.size + 1, 0, none⟩), .int .i64 0]) ∧ Below w.heap.size w w') := fun w => (newI_ok 3 2 (by decide) (by decide) (by decide) (by decide) w).mono (by rintro e w' ⟨h1, _, h2, _⟩; exact ⟨h1, h2⟩)
  have HC : (∃ B, B = false ∧ True) := ⟨_, rfl, trivial⟩
  clear HC
  by_cases g1 : n < 0
  · have g1' : ¬ 0 ≤ n := by omega
    clear hb
    go_enter Try.func5, Try.ntmps5
    go_wp2_with fail
    refine (HN.out _).mono ?_
    rintro e w1 ⟨rfl, hw⟩
    obtain rfl := hw.symm
    go_wp2_with fail
    refine (HX.out _).mono ?_
    rintro e w2 ⟨rfl, hb2⟩
    have HB : Hid (Below w.heap.size w w2) := hb2
    clear hb2
    go_wp2_with fail
    go_ret
    exact ⟨rfl, HB.out⟩
  · have g1' : 0 ≤ n := by omega
    by_cases g2 : 1048576 < n
    · have g2' : ¬ n ≤ 1048576 := by omega
      clear hb
      go_enter Try.func5, Try.ntmps5
      go_wp2_with fail
      refine (HN.out _).mono ?_
      rintro e w1 ⟨rfl, hw⟩
      obtain rfl := hw.symm
      go_wp2_with fail
      refine (HX.out _).mono ?_
      rintro e w2 ⟨rfl, hb2⟩
      have HB : Hid (Below w.heap.size w w2) := hb2
      clear hb2
      go_wp2_with fail
      go_ret
      exact ⟨rfl, HB.out⟩
    · have g2' : n ≤ 1048576 := by omega
      by_cases g3 : s < 1
      · have g3' : ¬ 1 ≤ s := by omega
        clear hb
        go_enter Try.func5, Try.ntmps5
        go_wp2_with fail
        refine (HN.out _).mono ?_
        rintro e w1 ⟨rfl, hw⟩
        obtain rfl := hw.symm
        go_wp2_with fail
        refine (HX.out _).mono ?_
        rintro e w2 ⟨rfl, hb2⟩
        have HB : Hid (Below w.heap.size w w2) := hb2
        clear hb2
        go_wp2_with fail
        go_ret
        exact ⟨rfl, HB.out⟩
      · have g3' : 1 ≤ s := by omega
        have g4' : ¬ s ≤ 1048576 := by omega
        clear hb
        go_enter Try.func5, Try.ntmps5
        go_wp2_with fail
        refine (HN.out _).mono ?_
        rintro e w1 ⟨rfl, hw⟩
        obtain rfl := hw.symm
        go_wp2_with fail
        refine (HX.out _).mono ?_
        rintro e w2 ⟨rfl, hb2⟩
        have HB : Hid (Below w.heap.size w w2) := hb2
        clear hb2
        go_wp2_with fail
        go_ret
        exact ⟨rfl, HB.out⟩
end Go.Proofs.Ytiaidmhobbeedaa
