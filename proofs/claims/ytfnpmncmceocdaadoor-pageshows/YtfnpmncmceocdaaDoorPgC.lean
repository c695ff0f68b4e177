import Derived.Test.YtfnpmncmceocdaaDoorPgB
import Derived.Test.YtfnpmncmceocdaaDoorLaA
namespace Go.Proofs.YtfnpmncmceocdaaDoor
open Go.RowKit Go.Lib
set_option maxRecDepth 100000

theorem runeLen_any {r : Int} (h : okR r) (w : World) : Calls Tryd.prog 51 #[.int .i32 r] w fun e w' => e = .returned (.int .i64 ((encB r).length : Nat)) ∧ w' = w := by
  obtain ⟨hv, _⟩ := h
  obtain ⟨h0, h1, h2⟩ := valid_le hv
  obtain ⟨c, rfl⟩ : ∃ c : Nat, r = (c : Int) := ⟨r.toNat, by omega⟩
  by_cases k1 : c < 128
  · have HL : Hid (((encB (c : Int)).length : Int) = 1) := by show _ = _; rw [encB1 c (by omega)]; rfl
    clear hv
    go_enter Tryd.func51, Tryd.ntmps51
    go_wp2_with fail
    go_ret
    exact ⟨ret_i64 HL.out.symm, rfl⟩
  by_cases k2 : c < 2048
  · have HL : Hid (((encB (c : Int)).length : Int) = 2) := by show _ = _; rw [encB2 c (by omega) (by omega)]; rfl
    clear hv
    go_enter Tryd.func51, Tryd.ntmps51
    go_wp2_with fail
    go_ret
    exact ⟨ret_i64 HL.out.symm, rfl⟩
  by_cases k3 : c < 65536
  · have HL : Hid (((encB (c : Int)).length : Int) = 3) := by show _ = _; rw [encB3 c (by omega) (by omega) hv]; rfl
    have hs : ¬ (55296 ≤ (c : Int) ∧ (c : Int) ≤ 57343) := by
      simp only [Utf8.valid, Bool.or_eq_true, Bool.and_eq_true, decide_eq_true_eq] at hv
      omega
    clear hv
    by_cases k4 : (55296 : Int) ≤ c
    all_goals
      go_enter Tryd.func51, Tryd.ntmps51
      go_wp2_with fail
      go_ret
      exact ⟨ret_i64 HL.out.symm, rfl⟩
  · have HL : Hid (((encB (c : Int)).length : Int) = 4) := by show _ = _; rw [encB4 c (by omega) hv]; rfl
    clear hv
    go_enter Tryd.func51, Tryd.ntmps51
    go_wp2_with fail
    go_ret
    exact ⟨ret_i64 HL.out.symm, rfl⟩

/-- A row's value. -/
def rowVal (lo hi cols : Int) (hard : Bool) (fr t : Int) : Value := .agg #[.int .i64 lo, .int .i64 hi, .int .i64 cols, .bool hard, .int .i64 fr, .int .i64 t]
theorem empty_any (a f : Int) (w : World) : Calls Tryd.prog 48 #[.int .i64 a, .int .i64 f] w fun e w' => e = .returned (rowVal a a 0 false f f) ∧ Below w.heap.size w w' := by
  go_enter Tryd.func48, Tryd.ntmps48
  go_wp2_with fail
  refine bodyPost_ret (v := rowVal a a 0 false f f) (by simp [results, Tryd.results48, go_sem, rowVal]) rfl ?_
  exact ⟨rfl, (Below.refl _ _).alloc (Nat.le_refl _) _⟩
end Go.Proofs.YtfnpmncmceocdaaDoor
