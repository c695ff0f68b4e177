import Derived.Test.YtelcjhflopgojaaDoorOpG
/-! Width (out of o's OpM). -/
namespace Go.Proofs.YtelcjhflopgojaaDoor
open Go.RowKit Go.Lib Sp
set_option maxRecDepth 100000

set_option maxHeartbeats 1000000 in
theorem width_any {o : OpV} {v : Value} {w : World} (hs : o.s.size ≤ 9223372036854775807) (hw : Bar w) :
    Calls Tryd.prog 15 #[opVal o v] w fun e w' => e = .returned (.int .i64 (widthP o)) ∧ Below w.heap.size w w' := by
  obtain ⟨c, n, k, p, s, l, tc, tn, on⟩ := o
  have hw2 := (Below.refl w.heap.size w).alloc (Nat.le_refl _) (Obj.cells #[.int .i64 c, .int .i64 n, .int .i64 k, .int .i64 p, .string s, v, .int .i64 tc, .int .i64 tn, .bool on] 37)
  obtain ⟨x, y, z, hc⟩ : ∃ x y z, check s = (x, y, z) := ⟨_, _, _, rfl⟩
  have HC : Hid (∀ (w' : World), Below w.heap.size w w' → Calls Tryd.prog 24 #[.string s] w' fun e w'' => e = .returned (.tuple #[.int .i64 x, .int .i64 y, .int .i64 z]) ∧ Below w'.heap.size w' w'') := fun w' hb => check_bar hs hc _ (hw.below hb)
  obtain ⟨r, hr⟩ : ∃ r, widthP ⟨c, n, k, p, s, l, tc, tn, on⟩ = r := ⟨_, rfl⟩
  rw [hr]
  simp only [widthP, hc] at hr
  clear hc hs hw
  simp only [opVal] at *
  by_cases hk : k = 1
  · subst hk
    rw [if_pos rfl] at hr; subst hr
    go_enter Tryd.func15, Tryd.ntmps15
    go_wp2_with fail
    refine (HC.out _ hw2).mono ?_
    rintro e w1 ⟨rfl, hb1⟩
    have hB := hw2.trans (hb1.mono hw2.size)
    clear hw2 hb1 HC
    go_wp2_with fail
    go_ret
    exact ⟨rfl, hB⟩
  · rw [if_neg hk] at hr; subst hr
    have t1 : (k == 1) = false := beq_eq_false_iff_ne.2 hk
    clear hk
    go_enter Tryd.func15, Tryd.ntmps15
    go_wp2_with fail
    go_ret
    exact ⟨rfl, hw2⟩
end Go.Proofs.YtelcjhflopgojaaDoor
