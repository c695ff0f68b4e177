import Derived.Test.YtmeciikfnbbllaaGreatDoorOgD
namespace Go.Proofs.YtmeciikfnbbllaaGreatDoor
open Go.RowKit Go.Lib Sp
set_option maxRecDepth 100000
set_option maxHeartbeats 2000000 in
theorem gOwn_any {o : OpV} {w : World} {a : Option Addr} {m cap : Nat} (h : Rng w a m cap o.l) (hs : o.s.size ≤ 2097152) :
    Calls Tryz.prog 61 #[opVal o (.slice a m cap)] w fun e w' => e = .returned (.int .i64 (ownP o)) ∧ Below w.heap.size w w' := by
  obtain ⟨c, n, k, p, s, l, tc, tn, on⟩ := o
  simp only at h hs
  have hw2 : Below w.heap.size w (w.alloc (Obj.cells #[.int .i64 c, .int .i64 n, .int .i64 k, .int .i64 p, .string s, .slice a m cap, .int .i64 tc, .int .i64 tn, .bool on] 33)) := (Below.refl w.heap.size w).alloc (Nat.le_refl _) _
  have HC : Hid (∀ t : Int, ∀ w' : World, Below w.heap.size w w' → Calls Tryz.prog 85 #[.agg #[.int .i64 c, .int .i64 n, .int .i64 k, .int .i64 p, .string s, .slice a m cap, .int .i64 tc, .int .i64 tn, .bool on], .int .i64 t] w' fun e w'' => e = .returned (.int .i64 (opCheck ⟨c, n, k, p, s, l, tc, tn, on⟩ t)) ∧ Below w'.heap.size w' w'') := fun t w' hb => gCheck_any (o := ⟨c, n, k, p, s, l, tc, tn, on⟩) (h.below hb) hs
  clear h hs
  obtain ⟨r, hr⟩ : ∃ r, ownP ⟨c, n, k, p, s, l, tc, tn, on⟩ = r := ⟨_, rfl⟩
  rw [hr]
  simp only [ownP] at hr
  simp only [opVal]
  by_cases e1 : k = 1
  · subst e1
    by_cases e2 : 0 ≤ p
    · by_cases e3 : p ≤ 1048576
      · rw [if_pos ⟨rfl, e2, e3⟩] at hr; subst hr
        go_enter Tryz.func61, Tryz.ntmps61
        go_wp2_with fail
        refine (HC.out _ _ hw2).mono ?_
        rintro e w1 ⟨rfl, hb1⟩
        have hB := hw2.trans (hb1.mono hw2.size)
        clear hw2 hb1 HC
        go_wp2_with fail
        go_ret
        exact ⟨rfl, hB⟩
      · rw [if_neg (fun hh => e3 hh.2.2)] at hr; subst hr
        have t3 : decide (p ≤ 1048576) = false := decide_eq_false e3
        clear e3
        go_enter Tryz.func61, Tryz.ntmps61
        go_wp2_with fail
        refine (HC.out _ _ hw2).mono ?_
        rintro e w1 ⟨rfl, hb1⟩
        have hB := hw2.trans (hb1.mono hw2.size)
        clear hw2 hb1 HC
        go_wp2_with fail
        go_ret
        exact ⟨rfl, hB⟩
    · rw [if_neg (fun hh => e2 hh.2.1)] at hr; subst hr
      have t3 : decide (0 ≤ p) = false := decide_eq_false e2
      clear e2
      go_enter Tryz.func61, Tryz.ntmps61
      go_wp2_with fail
      refine (HC.out _ _ hw2).mono ?_
      rintro e w1 ⟨rfl, hb1⟩
      have hB := hw2.trans (hb1.mono hw2.size)
      clear hw2 hb1 HC
      go_wp2_with fail
      go_ret
      exact ⟨rfl, hB⟩
  · rw [if_neg (fun hh => e1 hh.1)] at hr; subst hr
    have t1 : (k == 1) = false := beq_eq_false_iff_ne.2 e1
    clear e1
    go_enter Tryz.func61, Tryz.ntmps61
    go_wp2_with fail
    refine (HC.out _ _ hw2).mono ?_
    rintro e w1 ⟨rfl, hb1⟩
    have hB := hw2.trans (hb1.mono hw2.size)
    clear hw2 hb1 HC
    go_wp2_with fail
    go_ret
    exact ⟨rfl, hB⟩
end Go.Proofs.YtmeciikfnbbllaaGreatDoor
