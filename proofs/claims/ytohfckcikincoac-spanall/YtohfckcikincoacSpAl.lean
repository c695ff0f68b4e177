import Derived.Test.YtohfckcikincoacSpSt
import Derived.Test.YtohfckcikincoacSpMo
import Derived.Test.YtohfckcikincoacSpGv
namespace Go.Proofs.Ytohfckcikincoac
open Go.RowKit Go.Lib
set_option maxRecDepth 100000
theorem plays_all (o : OpR) (w : World) (ho : OpOk w o) (h1 : 1 ≤ o.kind) (h2 : o.kind ≤ 11) :
    Calls Try.prog 11 #[o.val] w fun e w' => e = .returned (.bool true) ∧ Below w.heap.size w w' := by
  by_cases k1 : o.kind = 1
  · exact plays_check o w ho k1
  · by_cases k2 : o.kind ≤ 5
    · exact plays_sets o w ho (by omega)
    · by_cases k3 : o.kind ≤ 8
      · exact plays_counts o w ho (by omega)
      · by_cases k4 : o.kind ≤ 10
        · exact plays_moves o w ho (by omega)
        · exact plays_gives o w ho (by omega)
set_option maxHeartbeats 1000000 in
theorem spanAll_any (a : Option Addr) (n cap : Nat) (hcap : n ≤ cap ∧ cap ≤ maxLen) (w : World) (hsc : Script w a n) :
    Calls Try.prog 3 #[.slice a n cap] w fun e w' => e = .returned (.bool true) ∧ Below w.heap.size w w' := by
  have HK : Hid (∀ W, Below w.heap.size w W → Calls Try.prog 5 #[.slice a n cap, .int .i64 1, .int .i64 11] W _) := fun W hb => upTo_any 1 11 a n cap hcap W (hsc.below hb) (fun o W' ho h1 h2 => plays_all o W' ho h1 h2)
  clear hsc
  go_enter Try.func3, Try.ntmps3
  go_wp2_with fail
  refine (awake_any _).mono ?_
  rintro e w1 ⟨rfl, hb1⟩
  go_wp2_with fail
  refine (HK.out _ hb1).mono ?_
  rintro e w2 ⟨rfl, hb2⟩
  go_wp2_with fail
  go_ret
  exact ⟨rfl, hb1.trans (hb2.mono hb1.size)⟩
end Go.Proofs.Ytohfckcikincoac
