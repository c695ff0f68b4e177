import Derived.Test.YtmeciikfnbbllaaGreatDoorGr8
namespace Go.Proofs.YtmeciikfnbbllaaGreatDoor
open Go.RowKit Go.Lib
set_option maxHeartbeats 1000000 in
set_option maxRecDepth 100000 in
theorem refLet_any (r : Int) (h0 : 0 ≤ r) (h1 : r ≤ 1114111) (w : World) : Calls Tryz.prog 110 #[.int .i64 r] w fun e w' => e = .returned (.bool (okRune r)) ∧ w' = w := by
  have hcase : (r ≤ 8) ∨ (9 ≤ r ∧ r ≤ 9) ∨ (10 ≤ r ∧ r ≤ 10) ∨ (11 ≤ r ∧ r ≤ 31) ∨ (32 ≤ r ∧ r ≤ 126) ∨ (127 ≤ r ∧ r ≤ 159) ∨ (160 ≤ r ∧ r ≤ 64975) ∨ (64976 ≤ r ∧ r ≤ 65007) ∨ (65008 ≤ r ∧ r ≤ 65278) ∨ (65279 ≤ r ∧ r ≤ 65279) ∨ (65280 ≤ r) := by omega
  rcases hcase with ha | ⟨ha, hb⟩ | ⟨ha, hb⟩ | ⟨ha, hb⟩ | ⟨ha, hb⟩ | ⟨ha, hb⟩ | ⟨ha, hb⟩ | ⟨ha, hb⟩ | ⟨ha, hb⟩ | ⟨ha, hb⟩ | ha
  · have t1 : (r == 9) = false := beq_eq_false_iff_ne.2 (by omega)
    have t2 : (r == 10) = false := beq_eq_false_iff_ne.2 (by omega)
    have t3 : (r == 65279) = false := beq_eq_false_iff_ne.2 (by omega)
    go_enter Tryz.func110, Tryz.ntmps110
    go_wp2_with fail
    go_ret
    exact ⟨congrArg (fun b => Ending.returned (.bool b)) (okRune_no (by omega)), rfl⟩
  · have t1 : (r == 9) = true := beq_iff_eq.2 (by omega)
    have t2 : (r == 10) = false := beq_eq_false_iff_ne.2 (by omega)
    have t3 : (r == 65279) = false := beq_eq_false_iff_ne.2 (by omega)
    go_enter Tryz.func110, Tryz.ntmps110
    go_wp2_with fail
    go_ret
    exact ⟨congrArg (fun b => Ending.returned (.bool b)) (by unfold okRune; rw [eq_comm, decide_eq_true_iff]; omega), rfl⟩
  · have t1 : (r == 9) = false := beq_eq_false_iff_ne.2 (by omega)
    have t2 : (r == 10) = true := beq_iff_eq.2 (by omega)
    have t3 : (r == 65279) = false := beq_eq_false_iff_ne.2 (by omega)
    go_enter Tryz.func110, Tryz.ntmps110
    go_wp2_with fail
    go_ret
    exact ⟨congrArg (fun b => Ending.returned (.bool b)) (by unfold okRune; rw [eq_comm, decide_eq_true_iff]; omega), rfl⟩
  · have t1 : (r == 9) = false := beq_eq_false_iff_ne.2 (by omega)
    have t2 : (r == 10) = false := beq_eq_false_iff_ne.2 (by omega)
    have t3 : (r == 65279) = false := beq_eq_false_iff_ne.2 (by omega)
    go_enter Tryz.func110, Tryz.ntmps110
    go_wp2_with fail
    go_ret
    exact ⟨congrArg (fun b => Ending.returned (.bool b)) (okRune_no (by omega)), rfl⟩
  · have t1 : (r == 9) = false := beq_eq_false_iff_ne.2 (by omega)
    have t2 : (r == 10) = false := beq_eq_false_iff_ne.2 (by omega)
    have t3 : (r == 65279) = false := beq_eq_false_iff_ne.2 (by omega)
    go_enter Tryz.func110, Tryz.ntmps110
    go_wp2_with fail
    go_ret
    exact ⟨congrArg (fun b => Ending.returned (.bool b)) (okRune_yes (by omega)), rfl⟩
  · have t1 : (r == 9) = false := beq_eq_false_iff_ne.2 (by omega)
    have t2 : (r == 10) = false := beq_eq_false_iff_ne.2 (by omega)
    have t3 : (r == 65279) = false := beq_eq_false_iff_ne.2 (by omega)
    go_enter Tryz.func110, Tryz.ntmps110
    go_wp2_with fail
    go_ret
    exact ⟨congrArg (fun b => Ending.returned (.bool b)) (okRune_no (by omega)), rfl⟩
  · have t1 : (r == 9) = false := beq_eq_false_iff_ne.2 (by omega)
    have t2 : (r == 10) = false := beq_eq_false_iff_ne.2 (by omega)
    have t3 : (r == 65279) = false := beq_eq_false_iff_ne.2 (by omega)
    go_enter Tryz.func110, Tryz.ntmps110
    go_wp2_with fail
    go_ret
    exact ⟨congrArg (fun b => Ending.returned (.bool b)) (okRune_yes (by omega)), rfl⟩
  · have t1 : (r == 9) = false := beq_eq_false_iff_ne.2 (by omega)
    have t2 : (r == 10) = false := beq_eq_false_iff_ne.2 (by omega)
    have t3 : (r == 65279) = false := beq_eq_false_iff_ne.2 (by omega)
    go_enter Tryz.func110, Tryz.ntmps110
    go_wp2_with fail
    go_ret
    exact ⟨congrArg (fun b => Ending.returned (.bool b)) (okRune_no (by omega)), rfl⟩
  · have t1 : (r == 9) = false := beq_eq_false_iff_ne.2 (by omega)
    have t2 : (r == 10) = false := beq_eq_false_iff_ne.2 (by omega)
    have t3 : (r == 65279) = false := beq_eq_false_iff_ne.2 (by omega)
    go_enter Tryz.func110, Tryz.ntmps110
    go_wp2_with fail
    go_ret
    exact ⟨congrArg (fun b => Ending.returned (.bool b)) (okRune_yes (by omega)), rfl⟩
  · have t1 : (r == 9) = false := beq_eq_false_iff_ne.2 (by omega)
    have t2 : (r == 10) = false := beq_eq_false_iff_ne.2 (by omega)
    have t3 : (r == 65279) = true := beq_iff_eq.2 (by omega)
    go_enter Tryz.func110, Tryz.ntmps110
    go_wp2_with fail
    go_ret
    exact ⟨congrArg (fun b => Ending.returned (.bool b)) (okRune_no (by omega)), rfl⟩
  · have t1 : (r == 9) = false := beq_eq_false_iff_ne.2 (by omega)
    have t2 : (r == 10) = false := beq_eq_false_iff_ne.2 (by omega)
    have t3 : (r == 65279) = false := beq_eq_false_iff_ne.2 (by omega)
    go_enter Tryz.func110, Tryz.ntmps110
    go_wp2_with fail
    go_ret
    exact ⟨congrArg (fun b => Ending.returned (.bool b)) (okRune_yes (by omega)), rfl⟩
end Go.Proofs.YtmeciikfnbbllaaGreatDoor
