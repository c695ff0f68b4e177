import Derived.Test.YtohfckcikincoacSpTr
import Derived.Test.YtohfckcikincoacSpBw
import Derived.Test.YtohfckcikincoacSpV
namespace Go.Proofs.Ytohfckcikincoac
open Go.RowKit Go.Lib
set_option maxRecDepth 100000

set_option maxHeartbeats 4000000 in
theorem refThrough_any {w : World} {a : Option Addr} {m cap : Nat} {l : List (Int × Int)} (h : Rng w a m cap l) (at_ n : Int) :
    Calls Try.prog 40 #[.slice a m cap, .int .i64 at_, .int .i64 n] w fun e w' => ∃ c U, SpecS (throughCode l at_ n) (throughS l at_ n) c U ∧ Res w e w' c U := by
  by_cases h0 : (checkL l).2 = 0
  · have hl := checkL_ok h0
    by_cases hp : (0 ≤ at_ ∧ at_ ≤ 1048576) ∧ 0 ≤ n ∧ n ≤ 1048576
    · exact refThrough_ok h hl at_ n hp
    · have e0 : throughCode l at_ n = 12 := by unfold throughCode; rw [if_pos h0, if_neg hp]
      have E0 : Hid (throughCode l at_ n = 12) := e0
      have HA := refCheck_any h
      rw [hl.check] at HA
      have hcs : at_ < 0 ∨ (0 ≤ at_ ∧ n < 0) ∨ (0 ≤ at_ ∧ 0 ≤ n ∧ 1048576 < at_) ∨ (0 ≤ at_ ∧ 0 ≤ n ∧ at_ ≤ 1048576 ∧ 1048576 < n) := by omega
      clear h hl e0 h0 hp
      rcases hcs with k1 | ⟨k1, k2⟩ | ⟨k1, k2, k3⟩ | ⟨k1, k2, k3, k4⟩
      · have d1 : decide (at_ < 0) = true := decide_eq_true k1
        clear k1
        go_enter Try.func40, Try.ntmps40
        go_wp2_with fail
        refine HA.mono ?_
        rintro e w1 ⟨rfl, hb1⟩
        go_wp2_with fail
        go_ret2
        exact ⟨12, [], .inl ⟨by rw [E0.out]; decide, E0.out.symm, rfl⟩, Res.nil hb1⟩
      · have d1 : decide (at_ < 0) = false := decide_eq_false (by omega)
        have d2 : decide (n < 0) = true := decide_eq_true k2
        clear k1 k2
        go_enter Try.func40, Try.ntmps40
        go_wp2_with fail
        refine HA.mono ?_
        rintro e w1 ⟨rfl, hb1⟩
        go_wp2_with fail
        go_ret2
        exact ⟨12, [], .inl ⟨by rw [E0.out]; decide, E0.out.symm, rfl⟩, Res.nil hb1⟩
      · have d1 : decide (at_ < 0) = false := decide_eq_false (by omega)
        have d2 : decide (n < 0) = false := decide_eq_false (by omega)
        have d3 : decide (1048576 < at_) = true := decide_eq_true k3
        clear k1 k2 k3
        go_enter Try.func40, Try.ntmps40
        go_wp2_with fail
        refine HA.mono ?_
        rintro e w1 ⟨rfl, hb1⟩
        go_wp2_with fail
        go_ret2
        exact ⟨12, [], .inl ⟨by rw [E0.out]; decide, E0.out.symm, rfl⟩, Res.nil hb1⟩
      · have d1 : decide (at_ < 0) = false := decide_eq_false (by omega)
        have d2 : decide (n < 0) = false := decide_eq_false (by omega)
        have d3 : decide (1048576 < at_) = false := decide_eq_false (by omega)
        have d4 : decide (1048576 < n) = true := decide_eq_true k4
        clear k1 k2 k3 k4
        go_enter Try.func40, Try.ntmps40
        go_wp2_with fail
        refine HA.mono ?_
        rintro e w1 ⟨rfl, hb1⟩
        go_wp2_with fail
        go_ret2
        exact ⟨12, [], .inl ⟨by rw [E0.out]; decide, E0.out.symm, rfl⟩, Res.nil hb1⟩
  · have e0 : throughCode l at_ n = (checkL l).2 := by unfold throughCode; rw [if_neg h0]
    have E0 : Hid (throughCode l at_ n = (checkL l).2) := e0
    have HA := refCheck_any h
    clear h e0
    generalize (checkL l).2 = c at *
    go_enter Try.func40, Try.ntmps40
    go_wp2_with fail
    refine HA.mono ?_
    rintro e w1 ⟨rfl, hb1⟩
    go_wp2_with fail
    all_goals try omega
    go_ret2
    exact ⟨c, [], .inl ⟨by rw [E0.out]; exact h0, E0.out.symm, rfl⟩, Res.nil hb1⟩
set_option maxHeartbeats 4000000 in
theorem refBack_any {w : World} {a : Option Addr} {m cap : Nat} {l : List (Int × Int)} (h : Rng w a m cap l) (at_ n : Int) :
    Calls Try.prog 42 #[.slice a m cap, .int .i64 at_, .int .i64 n] w fun e w' => ∃ c U V, SpecB (backCode l at_ n) (backS l at_ n) (backT l at_ n) c U V ∧ ResB w e w' c U V := by
  by_cases h0 : (checkL l).2 = 0
  · have hl := checkL_ok h0
    by_cases hp : (0 ≤ at_ ∧ at_ ≤ 1048576) ∧ (0 ≤ n ∧ n ≤ 1048576) ∧ at_ + n ≤ 1048576
    · exact refBack_ok h hl at_ n hp
    · have e0 : backCode l at_ n = 12 := by unfold backCode; rw [if_pos h0, if_neg hp]
      have E0 : Hid (backCode l at_ n = 12) := e0
      have HA := refCheck_any h
      rw [hl.check] at HA
      have hcs : at_ < 0 ∨ (0 ≤ at_ ∧ n < 0) ∨ (0 ≤ at_ ∧ 0 ≤ n ∧ 1048576 < at_) ∨ (0 ≤ at_ ∧ 0 ≤ n ∧ at_ ≤ 1048576 ∧ 1048576 < n) ∨ (0 ≤ at_ ∧ 0 ≤ n ∧ at_ ≤ 1048576 ∧ n ≤ 1048576 ∧ 1048576 < at_ + n) := by omega
      clear h hl e0 h0 hp
      rcases hcs with k1 | ⟨k1, k2⟩ | ⟨k1, k2, k3⟩ | ⟨k1, k2, k3, k4⟩ | ⟨k1, k2, k3, k4, k5⟩
      · have d1 : decide (at_ < 0) = true := decide_eq_true k1
        clear k1
        go_enter Try.func42, Try.ntmps42
        go_wp2_with fail
        refine HA.mono ?_
        rintro e w1 ⟨rfl, hb1⟩
        go_wp2_with fail
        go_ret3
        exact ⟨12, [], [], .inl ⟨by rw [E0.out]; decide, E0.out.symm, rfl, rfl⟩, ResB.nil hb1⟩
      · have d1 : decide (at_ < 0) = false := decide_eq_false (by omega)
        have d2 : decide (n < 0) = true := decide_eq_true k2
        clear k1 k2
        go_enter Try.func42, Try.ntmps42
        go_wp2_with fail
        refine HA.mono ?_
        rintro e w1 ⟨rfl, hb1⟩
        go_wp2_with fail
        go_ret3
        exact ⟨12, [], [], .inl ⟨by rw [E0.out]; decide, E0.out.symm, rfl, rfl⟩, ResB.nil hb1⟩
      · have d1 : decide (at_ < 0) = false := decide_eq_false (by omega)
        have d2 : decide (n < 0) = false := decide_eq_false (by omega)
        have d3 : decide (1048576 < at_) = true := decide_eq_true k3
        clear k1 k2 k3
        go_enter Try.func42, Try.ntmps42
        go_wp2_with fail
        refine HA.mono ?_
        rintro e w1 ⟨rfl, hb1⟩
        go_wp2_with fail
        go_ret3
        exact ⟨12, [], [], .inl ⟨by rw [E0.out]; decide, E0.out.symm, rfl, rfl⟩, ResB.nil hb1⟩
      · have d1 : decide (at_ < 0) = false := decide_eq_false (by omega)
        have d2 : decide (n < 0) = false := decide_eq_false (by omega)
        have d3 : decide (1048576 < at_) = false := decide_eq_false (by omega)
        have d4 : decide (1048576 < n) = true := decide_eq_true k4
        clear k1 k2 k3 k4
        go_enter Try.func42, Try.ntmps42
        go_wp2_with fail
        refine HA.mono ?_
        rintro e w1 ⟨rfl, hb1⟩
        go_wp2_with fail
        go_ret3
        exact ⟨12, [], [], .inl ⟨by rw [E0.out]; decide, E0.out.symm, rfl, rfl⟩, ResB.nil hb1⟩
      · have d1 : decide (at_ < 0) = false := decide_eq_false (by omega)
        have d2 : decide (n < 0) = false := decide_eq_false (by omega)
        have d3 : decide (1048576 < at_) = false := decide_eq_false (by omega)
        have d4 : decide (1048576 < n) = false := decide_eq_false (by omega)
        have d5 : decide (1048576 < at_ + n) = true := decide_eq_true k5
        have u0 : IntKind.i64.wrap (at_ + n) = at_ + n := IntWalk.i64_in _ (by omega)
        clear k1 k2 k3 k4 k5
        go_enter Try.func42, Try.ntmps42
        go_wp2_with fail
        refine HA.mono ?_
        rintro e w1 ⟨rfl, hb1⟩
        go_wp2_with fail
        go_ret3
        exact ⟨12, [], [], .inl ⟨by rw [E0.out]; decide, E0.out.symm, rfl, rfl⟩, ResB.nil hb1⟩
  · have e0 : backCode l at_ n = (checkL l).2 := by unfold backCode; rw [if_neg h0]
    have E0 : Hid (backCode l at_ n = (checkL l).2) := e0
    have HA := refCheck_any h
    clear h e0
    generalize (checkL l).2 = c at *
    go_enter Try.func42, Try.ntmps42
    go_wp2_with fail
    refine HA.mono ?_
    rintro e w1 ⟨rfl, hb1⟩
    go_wp2_with fail
    all_goals try omega
    go_ret3
    exact ⟨c, [], [], .inl ⟨by rw [E0.out]; exact h0, E0.out.symm, rfl, rfl⟩, ResB.nil hb1⟩
end Go.Proofs.Ytohfckcikincoac
