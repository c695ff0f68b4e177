import Derived.Test.YtohfckcikincoacSpJp
namespace Go.Proofs.Ytohfckcikincoac
open Go.RowKit Go.Lib
set_option maxRecDepth 100000

theorem few_any (a : Option Addr) (n cap : Nat) (hn : n ≤ 8388608) (w : World) :
    Calls Try.prog 49 #[.slice a n cap] w fun e w' => e = .returned (if (n : Int) ≤ 32768 then .tuple #[.slice a n cap, .int .i64 0] else .tuple #[.slice none 0 0, .int .i64 21]) ∧ w' = w := by
  by_cases h : (n : Int) ≤ 32768
  · rw [if_pos h]
    have hd : decide ((32768 : Int) < (n : Int)) = false := decide_eq_false (by omega)
    go_enter Try.func49, Try.ntmps49
    go_wp2_with fail
    go_ret2
    exact ⟨rfl, rfl⟩
  · rw [if_neg h]
    have hd : decide ((32768 : Int) < (n : Int)) = true := decide_eq_true (by omega)
    go_enter Try.func49, Try.ntmps49
    go_wp2_with fail
    go_ret2
    exact ⟨rfl, rfl⟩
end Go.Proofs.Ytohfckcikincoac
