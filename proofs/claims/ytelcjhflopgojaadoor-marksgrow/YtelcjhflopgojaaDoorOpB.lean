import Derived.Test.YtelcjhflopgojaaDoorOpA
namespace Go.Proofs.YtelcjhflopgojaaDoor
open Go.RowKit Go.Lib Sp
set_option maxRecDepth 100000

/-- An operation's value; v: its list. -/
def opVal (o : OpV) (v : Value) : Value := .agg #[.int .i64 o.c, .int .i64 o.n, .int .i64 o.k, .int .i64 o.p, .string o.s, v, .int .i64 o.tc, .int .i64 o.tn, .bool o.on]

/-- ids are compared number by number -/
theorem run_eqID (w : World) (a b c d : Int) : (Op.equalIn 10000 31 (.agg #[.int .i64 a, .int .i64 b]) (.agg #[.int .i64 c, .int .i64 d])).run Tryd.prog w = .ok (a == c && b == d) w := by
  show (Op.equalIn (9998 + 1 + 1) _ _ _).run _ _ = _
  rw [Op.equalIn]
  simp only [Sem.run_bind, run_underlying Tryd.underlying31, Result.andThen_ok, Tryd.sizeOf3]
  simp [List.range', part, Tryd.isAgg3, Tryd.sizeOf3, run_equalIn_int w _ _ _ _ _ _ Tryd.underlying3, Sem.run_bind, Result.andThen_ok, Sem.run_ite]
  by_cases h1 : a = c <;> by_cases h2 : b = d <;> simp [h1, h2]

set_option maxHeartbeats 400000 in
theorem isID_any (c n : Int) (w : World) : Calls Tryd.prog 19 #[.agg #[.int .i64 c, .int .i64 n]] w fun e w' => e = .returned (.bool (isIdP c n)) ∧ Below w.heap.size w w' := by
  obtain ⟨r, hr⟩ : ∃ r, isIdP c n = r := ⟨_, rfl⟩
  rw [hr]
  unfold isIdP at hr
  by_cases h1 : 1 ≤ c
  · by_cases h2 : c ≤ 8
    · by_cases h3 : 1 ≤ n
      · by_cases h4 : n ≤ 1024
        · rw [decide_eq_true ⟨h1, h2, h3, h4⟩] at hr; subst hr
          go_enter Tryd.func19, Tryd.ntmps19
          go_wp2_with fail
          go_ret
          exact ⟨rfl, (Below.refl _ _).alloc (Nat.le_refl _) _⟩
        · rw [decide_eq_false (by omega)] at hr; subst hr
          have d4 : decide (n ≤ 1024) = false := decide_eq_false h4
          clear h4
          go_enter Tryd.func19, Tryd.ntmps19
          go_wp2_with fail
          go_ret
          exact ⟨rfl, (Below.refl _ _).alloc (Nat.le_refl _) _⟩
      · rw [decide_eq_false (by omega)] at hr; subst hr
        have d4 : decide (1 ≤ n) = false := decide_eq_false h3
        clear h3
        go_enter Tryd.func19, Tryd.ntmps19
        go_wp2_with fail
        go_ret
        exact ⟨rfl, (Below.refl _ _).alloc (Nat.le_refl _) _⟩
    · rw [decide_eq_false (by omega)] at hr; subst hr
      have d4 : decide (c ≤ 8) = false := decide_eq_false h2
      clear h2
      go_enter Tryd.func19, Tryd.ntmps19
      go_wp2_with fail
      go_ret
      exact ⟨rfl, (Below.refl _ _).alloc (Nat.le_refl _) _⟩
  · rw [decide_eq_false (by omega)] at hr; subst hr
    have d4 : decide (1 ≤ c) = false := decide_eq_false h1
    clear h1
    go_enter Tryd.func19, Tryd.ntmps19
    go_wp2_with fail
    go_ret
    exact ⟨rfl, (Below.refl _ _).alloc (Nat.le_refl _) _⟩
end Go.Proofs.YtelcjhflopgojaaDoor
