import Derived.Test.YtokkodkhkpgebaaDoorXbP
namespace Go.Proofs.YtokkodkhkpgebaaDoor
open Go.RowKit Go.Lib
set_option maxRecDepth 100000

set_option maxHeartbeats 1000000 in
theorem roomFor_any {o : OpV} {v : Value} {w : World} : Calls Tryd.prog 71 #[opVal o v] w fun e w' => e = .returned (.int .i64 (roomP o)) ∧ Below w.heap.size w w' := by
  obtain ⟨c, n, k, p, s, l, tc, tn, on⟩ := o
  have hw2 := (Below.refl w.heap.size w).alloc (Nat.le_refl _) (Obj.cells #[.int .i64 c, .int .i64 n, .int .i64 k, .int .i64 p, .string s, v, .int .i64 tc, .int .i64 tn, .bool on] 70)
  obtain ⟨r, hr⟩ : ∃ r, roomP ⟨c, n, k, p, s, l, tc, tn, on⟩ = r := ⟨_, rfl⟩
  rw [hr]
  simp only [roomP] at hr
  simp only [opVal]
  by_cases h1 : k = 1
  · subst h1
    by_cases h2 : 0 ≤ p
    · by_cases h3 : p < 1048576
      · rw [if_pos ⟨rfl, h2, h3⟩] at hr; subst hr
        go_enter Tryd.func71, Tryd.ntmps71
        go_wp2_with fail
        go_ret
        exact ⟨rfl, hw2⟩
      · rw [if_neg (by omega)] at hr; subst hr
        have t3 : decide (p < 1048576) = false := decide_eq_false h3
        clear h3
        go_enter Tryd.func71, Tryd.ntmps71
        go_wp2_with fail
        go_ret
        exact ⟨rfl, hw2⟩
    · rw [if_neg (by omega)] at hr; subst hr
      have t3 : decide (0 ≤ p) = false := decide_eq_false h2
      clear h2
      go_enter Tryd.func71, Tryd.ntmps71
      go_wp2_with fail
      go_ret
      exact ⟨rfl, hw2⟩
  · rw [if_neg (by omega)] at hr; subst hr
    have t1 : (k == 1) = false := beq_eq_false_iff_ne.2 h1
    clear h1
    go_enter Tryd.func71, Tryd.ntmps71
    go_wp2_with fail
    go_ret
    exact ⟨rfl, hw2⟩

set_option maxHeartbeats 1000000 in
theorem clash_any {a b : OpV} {va vb : Value} {w : World} : Calls Tryd.prog 86 #[opVal a va, opVal b vb] w fun e w' => e = .returned (.bool (clashP a b)) ∧ Below w.heap.size w w' := by
  have HG : Tryd.prog.eqGuardType Tryd.prog.depth 23 = false := by kernel_rfl
  obtain ⟨c, n, k, p, s, l, tc, tn, on⟩ := a
  obtain ⟨c2, n2, k2, p2, s2, l2, tc2, tn2, on2⟩ := b
  have hw2 := ((Below.refl w.heap.size w).alloc (Nat.le_refl _) (Obj.cells #[.int .i64 c, .int .i64 n, .int .i64 k, .int .i64 p, .string s, va, .int .i64 tc, .int .i64 tn, .bool on] 70)).alloc (by simp) (Obj.cells #[.int .i64 c2, .int .i64 n2, .int .i64 k2, .int .i64 p2, .string s2, vb, .int .i64 tc2, .int .i64 tn2, .bool on2] 70)
  have e1 := fun W => run_eqID W c n c2 n2
  have e2 := fun W => run_eqID W c n 0 0
  obtain ⟨r1, h1⟩ : ∃ r1, (c == c2 && n == n2) = r1 := ⟨_, rfl⟩
  obtain ⟨r2, h2⟩ : ∃ r2, (c == 0 && n == 0) = r2 := ⟨_, rfl⟩
  simp only [clashP, h1, h2]
  simp only [h1] at e1
  simp only [h2] at e2
  clear h1 h2
  simp only [opVal]
  cases r1 <;> cases r2
  all_goals
    go_enter Tryd.func86, Tryd.ntmps86
    go_wp2_with fail
    go_ret
    exact ⟨rfl, hw2⟩
end Go.Proofs.YtokkodkhkpgebaaDoor
