import Derived.Test.YtfakfmmngflbfabGreatDoorKinds
namespace Go.Proofs.YtfakfmmngflbfabGreatDoor
open Go.RowKit Go.Lib

set_option maxHeartbeats 400000 in
theorem checks_any (a : Option Addr) (n cap : Nat) (hn : n ≤ 2097152) (hcap : n ≤ cap ∧ cap ≤ maxLen) (w : World) (hw : Bar w) (hsc : Script w a n smallOp) :
    Calls Tryz.prog 3 #[.slice a n cap] w fun e w' => e = .returned (.bool true) ∧ Below w.heap.size w w' := by
  have HK := kinds_any smallOp 1 1 a n cap hn hcap w hw hsc (fun o ho h1 h2 w' hw' => by
    obtain ⟨kind, S, T, A, B⟩ := o
    have : kind = 1 := by simp only at h1 h2; omega
    subst this
    exact plays_check S T A B ho.1 w' hw')
  go_enter Tryz.func3, Tryz.ntmps3
  go_wp2_with fail
  refine HK.mono ?_
  rintro e w1 ⟨rfl, hb1⟩
  clear HK
  go_wp2_with fail
  go_ret
  exact ⟨rfl, hb1⟩
end Go.Proofs.YtfakfmmngflbfabGreatDoor
