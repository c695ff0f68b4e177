import Derived.Test.YtelcjhflopgojaaDoorOpF
namespace Go.Proofs.YtelcjhflopgojaaDoor
open Go.RowKit Go.Lib Sp
set_option maxRecDepth 100000

set_option maxHeartbeats 4000000 in
theorem opCheck_any {o : OpV} {total : Int} {w : World} {a : Option Addr} {m cap : Nat} (h : Rng w a m cap o.l) (hs : o.s.size ≤ 9223372036854775807) (hw : Bar w) :
    Calls Tryd.prog 13 #[opVal o (.slice a m cap), .int .i64 total] w fun e w' => e = .returned (.int .i64 (opCheck o total)) ∧ Below w.heap.size w w' := by
  have HG : Tryd.prog.eqGuardType Tryd.prog.depth 31 = false := by kernel_rfl
  obtain ⟨c, n, k, p, s, l, tc, tn, on⟩ := o
  simp only at h hs
  have hw2 := (Below.refl w.heap.size w).alloc (Nat.le_refl _) (Obj.cells #[.int .i64 c, .int .i64 n, .int .i64 k, .int .i64 p, .string s, .slice a m cap, .int .i64 tc, .int .i64 tn, .bool on] 37)
  obtain ⟨r, hr⟩ : ∃ r, opCheck ⟨c, n, k, p, s, l, tc, tn, on⟩ total = r := ⟨_, rfl⟩
  rw [hr]
  simp only [opCheck] at hr
  by_cases hT0 : total < 0
  · rw [if_pos (.inl hT0)] at hr; subst hr
    simp only [opVal]
    go_enter Tryd.func13, Tryd.ntmps13
    go_wp2_with fail
    go_ret
    exact ⟨rfl, hw2⟩
  by_cases hT1 : 1048576 < total
  · rw [if_pos (.inr hT1)] at hr; subst hr
    simp only [opVal]
    go_enter Tryd.func13, Tryd.ntmps13
    go_wp2_with fail
    go_ret
    exact ⟨rfl, hw2⟩
  rw [if_neg (by omega)] at hr
  have g0 : 0 ≤ total := by omega
  have g1 : total ≤ 1048576 := by omega
  clear hT0 hT1
  by_cases hK0 : k < 1
  · rw [if_pos (.inl hK0)] at hr; subst hr
    simp only [opVal]
    go_enter Tryd.func13, Tryd.ntmps13
    go_wp2_with fail
    go_ret
    exact ⟨rfl, hw2⟩
  by_cases hK1 : 4 < k
  · rw [if_pos (.inr hK1)] at hr; subst hr
    simp only [opVal]
    go_enter Tryd.func13, Tryd.ntmps13
    go_wp2_with fail
    go_ret
    exact ⟨rfl, hw2⟩
  rw [if_neg (by omega)] at hr
  have k0 : 1 ≤ k := by omega
  have k1 : k ≤ 4 := by omega
  clear hK0 hK1
  obtain ⟨ex, hex⟩ : ∃ ex, extra ⟨c, n, k, p, s, l, tc, tn, on⟩ = ex := ⟨_, rfl⟩
  rw [hex] at hr
  have HX : Hid (∀ w' : World, Below w.heap.size w w' → Calls Tryd.prog 20 #[.agg #[.int .i64 c, .int .i64 n, .int .i64 k, .int .i64 p, .string s, .slice a m cap, .int .i64 tc, .int .i64 tn, .bool on]] w' fun e w'' => e = .returned (.bool ex) ∧ Below w'.heap.size w' w'') := fun w' hb => hex ▸ hasExtra_any (o := ⟨c, n, k, p, s, l, tc, tn, on⟩) (h.below hb) k0 k1
  have HIN : Hid (∀ w' : World, Below w.heap.size w w' → Calls Tryd.prog 21 #[.agg #[.int .i64 c, .int .i64 n, .int .i64 k, .int .i64 p, .string s, .slice a m cap, .int .i64 tc, .int .i64 tn, .bool on], .int .i64 total] w' fun e w'' => e = .returned (.int .i64 (insP ⟨c, n, k, p, s, l, tc, tn, on⟩ total)) ∧ Below w'.heap.size w' w'') := fun w' hb => checkInsert_any (o := ⟨c, n, k, p, s, l, tc, tn, on⟩) g0 g1 hs w' (hw.below hb)
  have HTG : Hid (∀ w' : World, Calls Tryd.prog 22 #[.agg #[.int .i64 c, .int .i64 n, .int .i64 k, .int .i64 p, .string s, .slice a m cap, .int .i64 tc, .int .i64 tn, .bool on]] w' fun e w'' => e = .returned (.int .i64 (tgtP ⟨c, n, k, p, s, l, tc, tn, on⟩)) ∧ Below w'.heap.size w' w'') := fun w' => checkTarget_any (o := ⟨c, n, k, p, s, l, tc, tn, on⟩) w'
  have HRG : Hid (∀ w' : World, Below w.heap.size w w' → Calls Tryd.prog 23 #[.agg #[.int .i64 c, .int .i64 n, .int .i64 k, .int .i64 p, .string s, .slice a m cap, .int .i64 tc, .int .i64 tn, .bool on], .int .i64 total] w' fun e w'' => e = .returned (.int .i64 (rngP ⟨c, n, k, p, s, l, tc, tn, on⟩ total)) ∧ Below w'.heap.size w' w'') := fun w' hb => checkRanges_any (o := ⟨c, n, k, p, s, l, tc, tn, on⟩) (h.below hb)
  clear hex h hs hw
  simp only [opVal]
  by_cases hz : c = 0 ∧ n = 0
  · rw [if_neg (fun hh => hh.1 hz)] at hr
    obtain ⟨rfl, rfl⟩ := hz
    have HI : ∀ w, (Op.equalIn 10000 31 (.agg #[.int .i64 0, .int .i64 0]) (.agg #[.int .i64 0, .int .i64 0])).run Tryd.prog w = .ok true w := fun w => run_eqID w 0 0 0 0
    have hB3 := hw2
    go_enter Tryd.func13, Tryd.ntmps13
    go_wp2_with fail
    refine (HX.out _ hB3).mono ?_
    rintro e w4 ⟨rfl, hb4⟩
    have hB4 := hB3.trans (hb4.mono hB3.size)
    clear  HX
    cases ex with
    | true =>
      rw [if_pos rfl] at hr; subst hr
      clear hb4
      go_wp2_with fail
      go_ret
      exact ⟨rfl, hB4⟩
    | false =>
      rw [if_neg (by simp)] at hr
      by_cases e1 : k = 1
      · rw [if_pos e1] at hr
        subst e1 hr
        have d0 : w4.cell? ⟨w.heap.size, 0, none⟩ = some (.int .i64 0) := (hb4.cell (p := ⟨w.heap.size, 0, none⟩) (by simp)).trans (World.cell?_alloc_mark ..)
        have d1 : w4.cell? ⟨w.heap.size, 1, none⟩ = some (.int .i64 0) := (hb4.cell (p := ⟨w.heap.size, 1, none⟩) (by simp)).trans (World.cell?_alloc_mark ..)
        have d2 : w4.cell? ⟨w.heap.size, 2, none⟩ = some (.int .i64 1) := (hb4.cell (p := ⟨w.heap.size, 2, none⟩) (by simp)).trans (World.cell?_alloc_mark ..)
        have d3 : w4.cell? ⟨w.heap.size, 3, none⟩ = some (.int .i64 p) := (hb4.cell (p := ⟨w.heap.size, 3, none⟩) (by simp)).trans (World.cell?_alloc_mark ..)
        have d4 : w4.cell? ⟨w.heap.size, 4, none⟩ = some (.string s) := (hb4.cell (p := ⟨w.heap.size, 4, none⟩) (by simp)).trans (World.cell?_alloc_mark ..)
        have d5 : w4.cell? ⟨w.heap.size, 5, none⟩ = some (.slice a m cap) := (hb4.cell (p := ⟨w.heap.size, 5, none⟩) (by simp)).trans (World.cell?_alloc_mark ..)
        have d6 : w4.cell? ⟨w.heap.size, 6, none⟩ = some (.int .i64 tc) := (hb4.cell (p := ⟨w.heap.size, 6, none⟩) (by simp)).trans (World.cell?_alloc_mark ..)
        have d7 : w4.cell? ⟨w.heap.size, 7, none⟩ = some (.int .i64 tn) := (hb4.cell (p := ⟨w.heap.size, 7, none⟩) (by simp)).trans (World.cell?_alloc_mark ..)
        have d8 : w4.cell? ⟨w.heap.size, 8, none⟩ = some (.bool on) := (hb4.cell (p := ⟨w.heap.size, 8, none⟩) (by simp)).trans (World.cell?_alloc_mark ..)
        clear hb4
        go_wp2_with fail
        refine (HIN.out _ hB4).mono ?_
        rintro e w5 ⟨rfl, hb5⟩
        have hB5 := hB4.trans (hb5.mono hB4.size)
        clear d0 d1 d2 d3 d4 d5 d6 d7 d8 hb5 hB4
        go_wp2_with fail
        go_ret
        exact ⟨rfl, hB5⟩
      · rw [if_neg e1] at hr
        have t1 : (k == 1) = false := beq_eq_false_iff_ne.2 e1
        by_cases e4 : k = 4
        · rw [if_pos e4] at hr
          subst e4 hr
          clear e1
          have d0 : w4.cell? ⟨w.heap.size, 0, none⟩ = some (.int .i64 0) := (hb4.cell (p := ⟨w.heap.size, 0, none⟩) (by simp)).trans (World.cell?_alloc_mark ..)
          have d1 : w4.cell? ⟨w.heap.size, 1, none⟩ = some (.int .i64 0) := (hb4.cell (p := ⟨w.heap.size, 1, none⟩) (by simp)).trans (World.cell?_alloc_mark ..)
          have d2 : w4.cell? ⟨w.heap.size, 2, none⟩ = some (.int .i64 4) := (hb4.cell (p := ⟨w.heap.size, 2, none⟩) (by simp)).trans (World.cell?_alloc_mark ..)
          have d3 : w4.cell? ⟨w.heap.size, 3, none⟩ = some (.int .i64 p) := (hb4.cell (p := ⟨w.heap.size, 3, none⟩) (by simp)).trans (World.cell?_alloc_mark ..)
          have d4 : w4.cell? ⟨w.heap.size, 4, none⟩ = some (.string s) := (hb4.cell (p := ⟨w.heap.size, 4, none⟩) (by simp)).trans (World.cell?_alloc_mark ..)
          have d5 : w4.cell? ⟨w.heap.size, 5, none⟩ = some (.slice a m cap) := (hb4.cell (p := ⟨w.heap.size, 5, none⟩) (by simp)).trans (World.cell?_alloc_mark ..)
          have d6 : w4.cell? ⟨w.heap.size, 6, none⟩ = some (.int .i64 tc) := (hb4.cell (p := ⟨w.heap.size, 6, none⟩) (by simp)).trans (World.cell?_alloc_mark ..)
          have d7 : w4.cell? ⟨w.heap.size, 7, none⟩ = some (.int .i64 tn) := (hb4.cell (p := ⟨w.heap.size, 7, none⟩) (by simp)).trans (World.cell?_alloc_mark ..)
          have d8 : w4.cell? ⟨w.heap.size, 8, none⟩ = some (.bool on) := (hb4.cell (p := ⟨w.heap.size, 8, none⟩) (by simp)).trans (World.cell?_alloc_mark ..)
          clear hb4
          go_wp2_with fail
          refine (HTG.out _).mono ?_
          rintro e w5 ⟨rfl, hb5⟩
          have hB5 := hB4.trans (hb5.mono hB4.size)
          clear d0 d1 d2 d3 d4 d5 d6 d7 d8 hb5 hB4
          go_wp2_with fail
          go_ret
          exact ⟨rfl, hB5⟩
        · rw [if_neg e4] at hr
          subst hr
          have t4 : (k == 4) = false := beq_eq_false_iff_ne.2 e4
          clear e1 e4
          have d0 : w4.cell? ⟨w.heap.size, 0, none⟩ = some (.int .i64 0) := (hb4.cell (p := ⟨w.heap.size, 0, none⟩) (by simp)).trans (World.cell?_alloc_mark ..)
          have d1 : w4.cell? ⟨w.heap.size, 1, none⟩ = some (.int .i64 0) := (hb4.cell (p := ⟨w.heap.size, 1, none⟩) (by simp)).trans (World.cell?_alloc_mark ..)
          have d2 : w4.cell? ⟨w.heap.size, 2, none⟩ = some (.int .i64 k) := (hb4.cell (p := ⟨w.heap.size, 2, none⟩) (by simp)).trans (World.cell?_alloc_mark ..)
          have d3 : w4.cell? ⟨w.heap.size, 3, none⟩ = some (.int .i64 p) := (hb4.cell (p := ⟨w.heap.size, 3, none⟩) (by simp)).trans (World.cell?_alloc_mark ..)
          have d4 : w4.cell? ⟨w.heap.size, 4, none⟩ = some (.string s) := (hb4.cell (p := ⟨w.heap.size, 4, none⟩) (by simp)).trans (World.cell?_alloc_mark ..)
          have d5 : w4.cell? ⟨w.heap.size, 5, none⟩ = some (.slice a m cap) := (hb4.cell (p := ⟨w.heap.size, 5, none⟩) (by simp)).trans (World.cell?_alloc_mark ..)
          have d6 : w4.cell? ⟨w.heap.size, 6, none⟩ = some (.int .i64 tc) := (hb4.cell (p := ⟨w.heap.size, 6, none⟩) (by simp)).trans (World.cell?_alloc_mark ..)
          have d7 : w4.cell? ⟨w.heap.size, 7, none⟩ = some (.int .i64 tn) := (hb4.cell (p := ⟨w.heap.size, 7, none⟩) (by simp)).trans (World.cell?_alloc_mark ..)
          have d8 : w4.cell? ⟨w.heap.size, 8, none⟩ = some (.bool on) := (hb4.cell (p := ⟨w.heap.size, 8, none⟩) (by simp)).trans (World.cell?_alloc_mark ..)
          clear hb4
          go_wp2_with fail
          refine (HRG.out _ hB4).mono ?_
          rintro e w5 ⟨rfl, hb5⟩
          have hB5 := hB4.trans (hb5.mono hB4.size)
          clear d0 d1 d2 d3 d4 d5 d6 d7 d8 hb5 hB4
          go_wp2_with fail
          go_ret
          exact ⟨rfl, hB5⟩
  · have hz2 : (c == 0 && n == 0) = false := by
      rw [Bool.and_eq_false_iff]
      by_cases h1 : c = 0
      · right; exact beq_eq_false_iff_ne.2 fun e => hz ⟨h1, e⟩
      · left; exact beq_eq_false_iff_ne.2 h1
    have HI : ∀ w, (Op.equalIn 10000 31 (.agg #[.int .i64 c, .int .i64 n]) (.agg #[.int .i64 0, .int .i64 0])).run Tryd.prog w = .ok false w := fun w => by rw [run_eqID, hz2]
    obtain ⟨b, hb⟩ : ∃ b, isIdP c n = b := ⟨_, rfl⟩
    have HD : Hid (∀ w' : World, Calls Tryd.prog 19 #[.agg #[.int .i64 c, .int .i64 n]] w' fun e w'' => e = .returned (.bool b) ∧ Below w'.heap.size w' w'') := fun w' => hb ▸ isID_any c n w'
    rw [hb] at hr
    clear hb hz2
    go_enter Tryd.func13, Tryd.ntmps13
    go_wp2_with fail
    refine (HD.out _).mono ?_
    rintro e w3 ⟨rfl, hb3⟩
    have hB3 := hw2.trans (hb3.mono hw2.size)
    clear HD hw2
    cases b with
    | false =>
      rw [if_pos ⟨hz, rfl⟩] at hr; subst hr
      clear hz hb3
      go_wp2_with fail
      go_ret
      exact ⟨rfl, hB3⟩
    | true =>
      rw [if_neg (by simp)] at hr
      clear hz HI HG
      have f0 : w3.cell? ⟨w.heap.size, 0, none⟩ = some (.int .i64 c) := (hb3.cell (p := ⟨w.heap.size, 0, none⟩) (by simp)).trans (World.cell?_alloc_mark ..)
      have f1 : w3.cell? ⟨w.heap.size, 1, none⟩ = some (.int .i64 n) := (hb3.cell (p := ⟨w.heap.size, 1, none⟩) (by simp)).trans (World.cell?_alloc_mark ..)
      have f2 : w3.cell? ⟨w.heap.size, 2, none⟩ = some (.int .i64 k) := (hb3.cell (p := ⟨w.heap.size, 2, none⟩) (by simp)).trans (World.cell?_alloc_mark ..)
      have f3 : w3.cell? ⟨w.heap.size, 3, none⟩ = some (.int .i64 p) := (hb3.cell (p := ⟨w.heap.size, 3, none⟩) (by simp)).trans (World.cell?_alloc_mark ..)
      have f4 : w3.cell? ⟨w.heap.size, 4, none⟩ = some (.string s) := (hb3.cell (p := ⟨w.heap.size, 4, none⟩) (by simp)).trans (World.cell?_alloc_mark ..)
      have f5 : w3.cell? ⟨w.heap.size, 5, none⟩ = some (.slice a m cap) := (hb3.cell (p := ⟨w.heap.size, 5, none⟩) (by simp)).trans (World.cell?_alloc_mark ..)
      have f6 : w3.cell? ⟨w.heap.size, 6, none⟩ = some (.int .i64 tc) := (hb3.cell (p := ⟨w.heap.size, 6, none⟩) (by simp)).trans (World.cell?_alloc_mark ..)
      have f7 : w3.cell? ⟨w.heap.size, 7, none⟩ = some (.int .i64 tn) := (hb3.cell (p := ⟨w.heap.size, 7, none⟩) (by simp)).trans (World.cell?_alloc_mark ..)
      have f8 : w3.cell? ⟨w.heap.size, 8, none⟩ = some (.bool on) := (hb3.cell (p := ⟨w.heap.size, 8, none⟩) (by simp)).trans (World.cell?_alloc_mark ..)
      go_wp2_with fail
      refine (HX.out _ hB3).mono ?_
      rintro e w4 ⟨rfl, hb4⟩
      have hB4 := hB3.trans (hb4.mono hB3.size)
      clear f0 f1 f2 f3 f4 f5 f6 f7 f8 HX
      cases ex with
      | true =>
        rw [if_pos rfl] at hr; subst hr
        clear hb4
        go_wp2_with fail
        go_ret
        exact ⟨rfl, hB4⟩
      | false =>
        rw [if_neg (by simp)] at hr
        by_cases e1 : k = 1
        · rw [if_pos e1] at hr
          subst e1 hr
          have d0 : w4.cell? ⟨w.heap.size, 0, none⟩ = some (.int .i64 c) := ((hb3.trans (hb4.mono hb3.size)).cell (p := ⟨w.heap.size, 0, none⟩) (by simp)).trans (World.cell?_alloc_mark ..)
          have d1 : w4.cell? ⟨w.heap.size, 1, none⟩ = some (.int .i64 n) := ((hb3.trans (hb4.mono hb3.size)).cell (p := ⟨w.heap.size, 1, none⟩) (by simp)).trans (World.cell?_alloc_mark ..)
          have d2 : w4.cell? ⟨w.heap.size, 2, none⟩ = some (.int .i64 1) := ((hb3.trans (hb4.mono hb3.size)).cell (p := ⟨w.heap.size, 2, none⟩) (by simp)).trans (World.cell?_alloc_mark ..)
          have d3 : w4.cell? ⟨w.heap.size, 3, none⟩ = some (.int .i64 p) := ((hb3.trans (hb4.mono hb3.size)).cell (p := ⟨w.heap.size, 3, none⟩) (by simp)).trans (World.cell?_alloc_mark ..)
          have d4 : w4.cell? ⟨w.heap.size, 4, none⟩ = some (.string s) := ((hb3.trans (hb4.mono hb3.size)).cell (p := ⟨w.heap.size, 4, none⟩) (by simp)).trans (World.cell?_alloc_mark ..)
          have d5 : w4.cell? ⟨w.heap.size, 5, none⟩ = some (.slice a m cap) := ((hb3.trans (hb4.mono hb3.size)).cell (p := ⟨w.heap.size, 5, none⟩) (by simp)).trans (World.cell?_alloc_mark ..)
          have d6 : w4.cell? ⟨w.heap.size, 6, none⟩ = some (.int .i64 tc) := ((hb3.trans (hb4.mono hb3.size)).cell (p := ⟨w.heap.size, 6, none⟩) (by simp)).trans (World.cell?_alloc_mark ..)
          have d7 : w4.cell? ⟨w.heap.size, 7, none⟩ = some (.int .i64 tn) := ((hb3.trans (hb4.mono hb3.size)).cell (p := ⟨w.heap.size, 7, none⟩) (by simp)).trans (World.cell?_alloc_mark ..)
          have d8 : w4.cell? ⟨w.heap.size, 8, none⟩ = some (.bool on) := ((hb3.trans (hb4.mono hb3.size)).cell (p := ⟨w.heap.size, 8, none⟩) (by simp)).trans (World.cell?_alloc_mark ..)
          clear hb4
          go_wp2_with fail
          refine (HIN.out _ hB4).mono ?_
          rintro e w5 ⟨rfl, hb5⟩
          have hB5 := hB4.trans (hb5.mono hB4.size)
          clear d0 d1 d2 d3 d4 d5 d6 d7 d8 hb5 hB4
          go_wp2_with fail
          go_ret
          exact ⟨rfl, hB5⟩
        · rw [if_neg e1] at hr
          have t1 : (k == 1) = false := beq_eq_false_iff_ne.2 e1
          by_cases e4 : k = 4
          · rw [if_pos e4] at hr
            subst e4 hr
            clear e1
            have d0 : w4.cell? ⟨w.heap.size, 0, none⟩ = some (.int .i64 c) := ((hb3.trans (hb4.mono hb3.size)).cell (p := ⟨w.heap.size, 0, none⟩) (by simp)).trans (World.cell?_alloc_mark ..)
            have d1 : w4.cell? ⟨w.heap.size, 1, none⟩ = some (.int .i64 n) := ((hb3.trans (hb4.mono hb3.size)).cell (p := ⟨w.heap.size, 1, none⟩) (by simp)).trans (World.cell?_alloc_mark ..)
            have d2 : w4.cell? ⟨w.heap.size, 2, none⟩ = some (.int .i64 4) := ((hb3.trans (hb4.mono hb3.size)).cell (p := ⟨w.heap.size, 2, none⟩) (by simp)).trans (World.cell?_alloc_mark ..)
            have d3 : w4.cell? ⟨w.heap.size, 3, none⟩ = some (.int .i64 p) := ((hb3.trans (hb4.mono hb3.size)).cell (p := ⟨w.heap.size, 3, none⟩) (by simp)).trans (World.cell?_alloc_mark ..)
            have d4 : w4.cell? ⟨w.heap.size, 4, none⟩ = some (.string s) := ((hb3.trans (hb4.mono hb3.size)).cell (p := ⟨w.heap.size, 4, none⟩) (by simp)).trans (World.cell?_alloc_mark ..)
            have d5 : w4.cell? ⟨w.heap.size, 5, none⟩ = some (.slice a m cap) := ((hb3.trans (hb4.mono hb3.size)).cell (p := ⟨w.heap.size, 5, none⟩) (by simp)).trans (World.cell?_alloc_mark ..)
            have d6 : w4.cell? ⟨w.heap.size, 6, none⟩ = some (.int .i64 tc) := ((hb3.trans (hb4.mono hb3.size)).cell (p := ⟨w.heap.size, 6, none⟩) (by simp)).trans (World.cell?_alloc_mark ..)
            have d7 : w4.cell? ⟨w.heap.size, 7, none⟩ = some (.int .i64 tn) := ((hb3.trans (hb4.mono hb3.size)).cell (p := ⟨w.heap.size, 7, none⟩) (by simp)).trans (World.cell?_alloc_mark ..)
            have d8 : w4.cell? ⟨w.heap.size, 8, none⟩ = some (.bool on) := ((hb3.trans (hb4.mono hb3.size)).cell (p := ⟨w.heap.size, 8, none⟩) (by simp)).trans (World.cell?_alloc_mark ..)
            clear hb4
            go_wp2_with fail
            refine (HTG.out _).mono ?_
            rintro e w5 ⟨rfl, hb5⟩
            have hB5 := hB4.trans (hb5.mono hB4.size)
            clear d0 d1 d2 d3 d4 d5 d6 d7 d8 hb5 hB4
            go_wp2_with fail
            go_ret
            exact ⟨rfl, hB5⟩
          · rw [if_neg e4] at hr
            subst hr
            have t4 : (k == 4) = false := beq_eq_false_iff_ne.2 e4
            clear e1 e4
            have d0 : w4.cell? ⟨w.heap.size, 0, none⟩ = some (.int .i64 c) := ((hb3.trans (hb4.mono hb3.size)).cell (p := ⟨w.heap.size, 0, none⟩) (by simp)).trans (World.cell?_alloc_mark ..)
            have d1 : w4.cell? ⟨w.heap.size, 1, none⟩ = some (.int .i64 n) := ((hb3.trans (hb4.mono hb3.size)).cell (p := ⟨w.heap.size, 1, none⟩) (by simp)).trans (World.cell?_alloc_mark ..)
            have d2 : w4.cell? ⟨w.heap.size, 2, none⟩ = some (.int .i64 k) := ((hb3.trans (hb4.mono hb3.size)).cell (p := ⟨w.heap.size, 2, none⟩) (by simp)).trans (World.cell?_alloc_mark ..)
            have d3 : w4.cell? ⟨w.heap.size, 3, none⟩ = some (.int .i64 p) := ((hb3.trans (hb4.mono hb3.size)).cell (p := ⟨w.heap.size, 3, none⟩) (by simp)).trans (World.cell?_alloc_mark ..)
            have d4 : w4.cell? ⟨w.heap.size, 4, none⟩ = some (.string s) := ((hb3.trans (hb4.mono hb3.size)).cell (p := ⟨w.heap.size, 4, none⟩) (by simp)).trans (World.cell?_alloc_mark ..)
            have d5 : w4.cell? ⟨w.heap.size, 5, none⟩ = some (.slice a m cap) := ((hb3.trans (hb4.mono hb3.size)).cell (p := ⟨w.heap.size, 5, none⟩) (by simp)).trans (World.cell?_alloc_mark ..)
            have d6 : w4.cell? ⟨w.heap.size, 6, none⟩ = some (.int .i64 tc) := ((hb3.trans (hb4.mono hb3.size)).cell (p := ⟨w.heap.size, 6, none⟩) (by simp)).trans (World.cell?_alloc_mark ..)
            have d7 : w4.cell? ⟨w.heap.size, 7, none⟩ = some (.int .i64 tn) := ((hb3.trans (hb4.mono hb3.size)).cell (p := ⟨w.heap.size, 7, none⟩) (by simp)).trans (World.cell?_alloc_mark ..)
            have d8 : w4.cell? ⟨w.heap.size, 8, none⟩ = some (.bool on) := ((hb3.trans (hb4.mono hb3.size)).cell (p := ⟨w.heap.size, 8, none⟩) (by simp)).trans (World.cell?_alloc_mark ..)
            clear hb4
            go_wp2_with fail
            refine (HRG.out _ hB4).mono ?_
            rintro e w5 ⟨rfl, hb5⟩
            have hB5 := hB4.trans (hb5.mono hB4.size)
            clear d0 d1 d2 d3 d4 d5 d6 d7 d8 hb5 hB4
            go_wp2_with fail
            go_ret
            exact ⟨rfl, hB5⟩
end Go.Proofs.YtelcjhflopgojaaDoor
