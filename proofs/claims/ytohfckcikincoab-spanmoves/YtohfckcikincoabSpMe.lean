import Derived.Test.YtohfckcikincoabSpMo
namespace Go.Proofs.Ytohfckcikincoab
open Go.RowKit Go.Lib
set_option maxRecDepth 100000
set_option maxHeartbeats 1000000 in
theorem spanMoves_any (a : Option Addr) (n cap : Nat) (hcap : n ≤ cap ∧ cap ≤ maxLen) (w : World) (hsc : Script w a n) :
    Calls Try.prog 8 #[.slice a n cap] w fun e w' => e = .returned (.bool true) ∧ Below w.heap.size w w' := by
  have HK : Hid (∀ W, Below w.heap.size w W → Calls Try.prog 20 #[.slice a n cap, .int .i64 9, .int .i64 10] W _) := fun W hb => upTo_any 9 10 a n cap hcap W (hsc.below hb) (fun o W' ho h1 h2 => plays_moves o W' ho (by omega))
  clear hsc
  go_enter Try.func8, Try.ntmps8
  go_wp2_with fail
  refine (awake_any _).mono ?_
  rintro e w1 ⟨rfl, hb1⟩
  go_wp2_with fail
  refine (HK.out _ hb1).mono ?_
  rintro e w2 ⟨rfl, hb2⟩
  go_wp2_with fail
  go_ret
  exact ⟨rfl, hb1.trans (hb2.mono hb1.size)⟩
end Go.Proofs.Ytohfckcikincoab
