import Derived.Test.YtmdnmhdimfglaaaGreatDoorGaO
namespace Go.Proofs.YtmdnmhdimfglaaaGreatDoor
open Go.RowKit Go.Lib Sp
set_option maxRecDepth 100000
set_option maxHeartbeats 400000 in
theorem gIsID_any (c n : Int) (w : World) : Calls Tryz.prog 92 #[.agg #[.int .i64 c, .int .i64 n]] w fun e w' => e = .returned (.bool (isIdP c n)) ∧ Below w.heap.size w w' := by
  obtain ⟨r, hr⟩ : ∃ r, isIdP c n = r := ⟨_, rfl⟩
  rw [hr]
  unfold isIdP at hr
  by_cases h1 : 1 ≤ c
  · by_cases h2 : c ≤ 8
    · by_cases h3 : 1 ≤ n
      · by_cases h4 : n ≤ 1024
        · rw [decide_eq_true ⟨h1, h2, h3, h4⟩] at hr; subst hr
          go_enter Tryz.func92, Tryz.ntmps92
          go_wp2_with fail
          go_ret
          exact ⟨rfl, (Below.refl _ _).alloc (Nat.le_refl _) _⟩
        · rw [decide_eq_false (by omega)] at hr; subst hr
          have d4 : decide (n ≤ 1024) = false := decide_eq_false h4
          clear h4
          go_enter Tryz.func92, Tryz.ntmps92
          go_wp2_with fail
          go_ret
          exact ⟨rfl, (Below.refl _ _).alloc (Nat.le_refl _) _⟩
      · rw [decide_eq_false (by omega)] at hr; subst hr
        have d4 : decide (1 ≤ n) = false := decide_eq_false h3
        clear h3
        go_enter Tryz.func92, Tryz.ntmps92
        go_wp2_with fail
        go_ret
        exact ⟨rfl, (Below.refl _ _).alloc (Nat.le_refl _) _⟩
    · rw [decide_eq_false (by omega)] at hr; subst hr
      have d4 : decide (c ≤ 8) = false := decide_eq_false h2
      clear h2
      go_enter Tryz.func92, Tryz.ntmps92
      go_wp2_with fail
      go_ret
      exact ⟨rfl, (Below.refl _ _).alloc (Nat.le_refl _) _⟩
  · rw [decide_eq_false (by omega)] at hr; subst hr
    have d4 : decide (1 ≤ c) = false := decide_eq_false h1
    clear h1
    go_enter Tryz.func92, Tryz.ntmps92
    go_wp2_with fail
    go_ret
    exact ⟨rfl, (Below.refl _ _).alloc (Nat.le_refl _) _⟩
set_option maxHeartbeats 400000 in
theorem gNone_any (c n : Int) (w : World) : Calls Tryz.prog 93 #[.agg #[.int .i64 c, .int .i64 n]] w fun e w' => e = .returned (.bool (decide (c = 0 ∧ n = 0))) ∧ Below w.heap.size w w' := by
  obtain ⟨r, hr⟩ : ∃ r, decide (c = 0 ∧ n = 0) = r := ⟨_, rfl⟩
  rw [hr]
  by_cases h1 : c = 0
  · subst h1
    by_cases h2 : n = 0
    · subst h2
      rw [decide_eq_true ⟨rfl, rfl⟩] at hr; subst hr
      go_enter Tryz.func93, Tryz.ntmps93
      go_wp2_with fail
      go_ret
      exact ⟨rfl, (Below.refl _ _).alloc (Nat.le_refl _) _⟩
    · rw [decide_eq_false (by omega)] at hr; subst hr
      have t1 : (n == 0) = false := beq_eq_false_iff_ne.2 h2
      clear h2
      go_enter Tryz.func93, Tryz.ntmps93
      go_wp2_with fail
      go_ret
      exact ⟨rfl, (Below.refl _ _).alloc (Nat.le_refl _) _⟩
  · rw [decide_eq_false (by omega)] at hr; subst hr
    have t1 : (c == 0) = false := beq_eq_false_iff_ne.2 h1
    clear h1
    go_enter Tryz.func93, Tryz.ntmps93
    go_wp2_with fail
    go_ret
    exact ⟨rfl, (Below.refl _ _).alloc (Nat.le_refl _) _⟩
end Go.Proofs.YtmdnmhdimfglaaaGreatDoor
