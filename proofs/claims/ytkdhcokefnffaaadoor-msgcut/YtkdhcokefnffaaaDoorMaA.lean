import Derived.Test.YtkdhcokefnffaaaDoorOpAG
import Derived.Defers
import Derived.Recover
import Derived.BigQuiet
/-! msg's small functions: within, firstRev, hasCommand, refuse, caught. -/
namespace Go.Proofs.YtkdhcokefnffaaaDoor
open Go.RowKit Go.Lib Sp
set_option maxRecDepth 100000

/-- what a reader throws -/
def faultV (at_ why : Int) : Value := .iface 76 (.agg #[.int .i64 at_, .int .i64 why])
def thrown (at_ why : Int) : Ending := .panicked [{ v := faultV at_ why, recovered := false }]

theorem within_any (n lo hi : Int) (w : World) : Calls Tryd.prog 26 #[.int .i64 n, .int .i64 lo, .int .i64 hi] w fun e w' => e = .returned (.bool (decide (lo ≤ n ∧ n ≤ hi))) ∧ w' = w := by
  by_cases h1 : lo ≤ n
  · by_cases h2 : n ≤ hi
    · rw [decide_eq_true (And.intro h1 h2)]
      go_enter Tryd.func26, Tryd.ntmps26
      go_wp2_with fail
      go_ret
      exact ⟨rfl, rfl⟩
    · rw [decide_eq_false (fun h => h2 h.2)]
      go_enter Tryd.func26, Tryd.ntmps26
      go_wp2_with fail
      go_ret
      exact ⟨rfl, rfl⟩
  · rw [decide_eq_false (fun h => h1 h.1)]
    go_enter Tryd.func26, Tryd.ntmps26
    go_wp2_with fail
    go_ret
    exact ⟨rfl, rfl⟩

def firstRevP (c : Int) : Int := if c = 3 ∨ c = 4 then 1 else 0
theorem firstRev_any (c : Int) (w : World) : Calls Tryd.prog 28 #[.int .i64 c] w fun e w' => e = .returned (.int .i64 (firstRevP c)) ∧ w' = w := by
  by_cases h1 : c = 3
  · subst h1
    go_enter Tryd.func28, Tryd.ntmps28
    go_wp2_with fail
    go_ret
    exact ⟨rfl, rfl⟩
  · have b1 : (c == 3) = false := by simp [h1]
    by_cases h2 : c = 4
    · subst h2
      go_enter Tryd.func28, Tryd.ntmps28
      go_wp2_with fail
      go_ret
      exact ⟨rfl, rfl⟩
    · have b2 : (c == 4) = false := by simp [h2]
      rw [firstRevP, if_neg (by simp [h1, h2])]
      go_enter Tryd.func28, Tryd.ntmps28
      go_wp2_with fail
      go_ret
      exact ⟨rfl, rfl⟩

def hasCommandP (c : Int) : Bool := c == 2 || c == 4
theorem hasCommand_any (c : Int) (w : World) : Calls Tryd.prog 29 #[.int .i64 c] w fun e w' => e = .returned (.bool (hasCommandP c)) ∧ w' = w := by
  by_cases h1 : c = 2
  · subst h1
    go_enter Tryd.func29, Tryd.ntmps29
    go_wp2_with fail
    go_ret
    exact ⟨rfl, rfl⟩
  · have b1 : (c == 2) = false := by simp [h1]
    by_cases h2 : c = 4
    · subst h2
      go_enter Tryd.func29, Tryd.ntmps29
      go_wp2_with fail
      go_ret
      exact ⟨rfl, rfl⟩
    · have b2 : (c == 4) = false := by simp [h2]
      rw [hasCommandP, b1, b2]
      go_enter Tryd.func29, Tryd.ntmps29
      go_wp2_with fail
      go_ret
      exact ⟨rfl, rfl⟩

theorem refuse_no (p : Value) (at_ why : Int) (w : World) : Calls Tryd.prog 50 #[p, .bool false, .int .i64 at_, .int .i64 why] w fun e w' => e = .returned (.tuple #[]) ∧ w' = w := by
  go_enter Tryd.func50, Tryd.ntmps50
  go_wp2_with fail
  go_end0
  exact ⟨rfl, rfl⟩
theorem refuse_yes (p : Value) (at_ why : Int) (w : World) : Calls Tryd.prog 50 #[p, .bool true, .int .i64 at_, .int .i64 why] w fun e w' => e = thrown at_ why ∧ w' = w := by
  go_enter Tryd.func50, Tryd.ntmps50
  go_wp2_with fail
  simp [bodyPost, thrown, faultV]

theorem caught_nil (w : World) : Calls Tryd.prog 18 #[.nilIface] w fun e w' => e = .returned (.tuple #[.int .i64 0, .int .i64 0]) ∧ w' = w := by
  go_enter Tryd.func18, Tryd.ntmps18
  go_wp2_with fail
  refine bodyPost_ret (v := .tuple #[.int .i64 0, .int .i64 0]) (by simp [results, Tryd.results18, go_sem]) rfl ?_
  exact ⟨rfl, rfl⟩
theorem run_assert_same {P : Program} (t xT : TypeId) (v : Value) (w : World) (fs : _) (h : P.underlying t = some (.struct fs)) : (Instr.typeAssert (.iface t v) xT t false).run P w = .ok v w := by
  simp [Instr.typeAssert, run_underlying h, go_sem, Result.andThen]
theorem caught_fault (at_ why : Int) (w : World) : Calls Tryd.prog 18 #[faultV at_ why] w fun e w' => e = .returned (.tuple #[.int .i64 at_, .int .i64 why]) ∧ Below w.heap.size w w' := by
  unfold faultV
  have HT : ∀ (v : Value) (xT : TypeId) (w : World), (Instr.typeAssert (.iface 76 v) xT 76 false).run Tryd.prog w = .ok v w := fun v xT w => run_assert_same _ xT v w _ Tryd.underlying76
  go_enter Tryd.func18, Tryd.ntmps18
  go_wp2_with fail
  go_region
  all_goals
    go_wp2_with fail
    refine bodyPost_ret (v := .tuple #[.int .i64 at_, .int .i64 why]) (by simp [results, Tryd.results18, go_sem]) rfl ?_
    exact ⟨rfl, ((Below.refl _ _).alloc (Nat.le_refl _) _).drew⟩
end Go.Proofs.YtkdhcokefnffaaaDoor
