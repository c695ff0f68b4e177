import Derived.Test.YtmeciikfnbbllaaGreatDoorXjJ
import Derived.Test.YtmeciikfnbbllaaGreatDoorXgF
import Derived.Test.YtmeciikfnbbllaaGreatDoorXfH
namespace Go.Proofs.YtmeciikfnbbllaaGreatDoor
open Go.RowKit Go.Lib
set_option maxRecDepth 100000
set_option maxHeartbeats 4000000 in
theorem xformTransposes_any {a : Option Addr} {n cap : Nat} {w : World} {L : List XOp} (h : Scr w a n cap L) :
    Calls Tryz.prog 6 #[.slice a n cap] w fun e w' => e = .returned (.bool true) ∧ Below w.heap.size w w' := by
  have HA := awake_any w h.bar
  have HP : Hid (∀ W, Below w.heap.size w W → Calls Tryz.prog 12 #[.slice a n cap, .int .i64 3, .int .i64 3] W fun e w' => e = .returned (.bool true) ∧ Below W.heap.size W w') := fun W hb => by
    have h1 := h.below hb
    exact played_any h1.row 3 3 (fun W2 hb2 x hx q1 q2 => plays_3 ((h1.ok x hx).below hb2) (by omega) (h1.bar.below hb2))
  clear h
  go_enter Tryz.func6, Tryz.ntmps6
  go_wp2_with fail
  refine HA.mono ?_
  rintro e w2 ⟨rfl, hB2⟩
  clear HA
  go_wp2_with fail
  refine (HP.out _ hB2).mono ?_
  rintro e w4 ⟨rfl, hb4⟩
  have hB4 := hB2.trans (hb4.mono hB2.size)
  go_wp2_with fail
  go_ret
  exact ⟨rfl, hB4⟩
end Go.Proofs.YtmeciikfnbbllaaGreatDoor
