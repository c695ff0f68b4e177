import Derived.Test.YtmdnmhdimfglaaaGreatDoorXjE
import Derived.Test.YtmdnmhdimfglaaaGreatDoorXjH
import Derived.Test.YtmdnmhdimfglaaaGreatDoorXjI
namespace Go.Proofs.YtmdnmhdimfglaaaGreatDoor
open Go.RowKit Go.Lib
set_option maxRecDepth 100000
theorem clash_symm (a b : OpV) : clashP b a = clashP a b := by
  unfold clashP
  by_cases h1 : a.c = b.c
  · by_cases h2 : a.n = b.n
    · rw [h1, h2]
    · have e1 : (a.n == b.n) = false := beq_eq_false_iff_ne.2 h2
      have e2 : (b.n == a.n) = false := beq_eq_false_iff_ne.2 (fun e => h2 e.symm)
      rw [e1, e2]
      simp
  · have e1 : (a.c == b.c) = false := beq_eq_false_iff_ne.2 h1
    have e2 : (b.c == a.c) = false := beq_eq_false_iff_ne.2 (fun e => h1 e.symm)
    rw [e1, e2]
    simp
theorem transpose_any {o o2 : OpV} {a : Option Addr} {m cap : Nat} {b : Option Addr} {m2 cap2 : Nat} {w : World} (hR : Sp.Rng w a m cap o.l) (hR2 : Sp.Rng w b m2 cap2 o2.l) (hm : m ≤ 1000000000) (hm2 : m2 ≤ 1000000000) (hs : o.s.size ≤ 2097152) (hs2 : o2.s.size ≤ 2097152) (h1 : Right o) (h2 : Right o2) :
    Calls Tryz.prog 52 #[opVal o (.slice a m cap), opVal o2 (.slice b m2 cap2)] w fun e w' => Ans2 w (transP o o2) e w' := by
  obtain ⟨⟨⟨c4, n4, k4, p4, s4, l4, tc4, tn4, on4⟩, z4⟩, hq4⟩ : ∃ q, exclP o2 o = q := ⟨_, rfl⟩
  have HEX : Hid (∀ W, Below w.heap.size w W → Calls Tryz.prog 51 #[opVal o2 (.slice b m2 cap2), opVal o (.slice a m cap)] W fun e w' => Ans W (⟨c4, n4, k4, p4, s4, l4, tc4, tn4, on4⟩, z4) e w') := fun W hb => by
    have := exclude_any (hR2.below hb) hm2 hs2 hs h2 h1 (b := a) (m2 := m) (cap2 := cap)
    rw [hq4] at this
    exact this
  by_cases hz : z4 = 0
  · subst hz
    have hncl : clashP o o2 = false := by
      cases hc : clashP o o2 with
      | false => rfl
      | true =>
        have e1 : exclP o2 o = (op0, 50) := by unfold exclP; rw [if_pos (by rw [clash_symm]; exact hc)]
        rw [e1] at hq4
        cases hq4
    have hncl' : ¬ clashP o o2 = true := by rw [hncl]; decide
    have tr0 : orderedP o o2 = false → ∀ q5 : OpV, inclP o o2 true = (q5, 0) → transP o o2 = ((⟨c4, n4, k4, p4, s4, l4, tc4, tn4, on4⟩, q5), 0) := fun ho q5 hi => by
      unfold transP
      rw [hq4, hi, if_neg (by simp), if_neg (by rw [ho]; decide), if_neg (by simp)]
    have trE : orderedP o o2 = false → ∀ (q5 : OpV) (z5 : Int), z5 ≠ 0 → inclP o o2 true = (q5, z5) → transP o o2 = ((op0, op0), z5) := fun ho q5 z5 hz5 hi => by
      unfold transP
      rw [hq4, hi, if_neg (by simp), if_neg (by rw [ho]; decide), if_pos hz5]
    have trO : orderedP o o2 = true → transP o o2 = ((op0, op0), 50) := fun ho => by
      unfold transP
      rw [hq4, if_neg (by simp), if_pos ho]
    by_cases k4 : o.k = 4
    · have e1 := target_eq h1 k4 o2.tc o2.tn
      have e2 := target_eq h1 k4 o2.c o2.n
      have hord : orderedP o o2 = (decide (o.tc = o2.c ∧ o.tn = o2.n) || (decide (o2.k = 4) && (decide (o.tc = o2.tc ∧ o.tn = o2.tn) && (o.on != o2.on)))) := by
        unfold orderedP
        rw [decide_eq_true k4, Bool.true_and, Bool.decide_and, Bool.decide_and]
        rfl
      by_cases c5 : o2.k = 4 ∧ (o.tc = o2.tc ∧ o.tn = o2.tn) ∧ o.on ≠ o2.on
      · have ho : orderedP o o2 = true := by
          rw [hord, decide_eq_true c5.1, decide_eq_true c5.2.1]
          simp [c5.2.2]
        rw [trO ho]
        exact transpose_on HEX _ rfl _ rfl k4 c5.1 (by rw [e1, decide_eq_true c5.2.1]) c5.2.2
      · have hc5 : o.k ≠ 4 ∨ (o.k = 4 ∧ o2.k ≠ 4) ∨ (o.k = 4 ∧ o2.k = 4 ∧ isB o.tc o.tn o2.tc o2.tn = false) ∨ (o.k = 4 ∧ o2.k = 4 ∧ isB o.tc o.tn o2.tc o2.tn = true ∧ o.on = o2.on) := by
          by_cases q1 : o2.k = 4
          · by_cases q2 : o.tc = o2.tc ∧ o.tn = o2.tn
            · refine .inr (.inr (.inr ⟨k4, q1, by rw [e1, decide_eq_true q2], ?_⟩))
              refine Decidable.byContradiction (fun q3 => c5 ⟨q1, q2, q3⟩)
            · exact .inr (.inr (.inl ⟨k4, q1, by rw [e1, decide_eq_false q2]⟩))
          · exact .inr (.inl ⟨k4, q1⟩)
        by_cases ct : o.tc = o2.c ∧ o.tn = o2.n
        · have ho : orderedP o o2 = true := by rw [hord, decide_eq_true ct]; rfl
          rw [trO ho]
          exact transpose_to HEX _ rfl _ rfl hc5 k4 (by rw [e2, decide_eq_true ct])
        · have ho : orderedP o o2 = false := by
            rw [hord, decide_eq_false ct, Bool.false_or]
            by_cases q1 : o2.k = 4
            · by_cases q2 : o.tc = o2.tc ∧ o.tn = o2.tn
              · have q3 : o.on = o2.on := Decidable.byContradiction (fun q3 => c5 ⟨q1, q2, q3⟩)
                rw [q3]
                simp
              · rw [decide_eq_false q2]
                simp
            · rw [decide_eq_false q1]
              rfl
          rw [tr0 ho o (by unfold inclP; rw [if_neg hncl', if_pos (.inr k4)])]
          exact transpose_stat HEX hR hm _ rfl _ rfl hc5 k4 (by rw [e2, decide_eq_false ct])
    · have ho : orderedP o o2 = false := by unfold orderedP; rw [decide_eq_false k4]; rfl
      by_cases q2 : o2.k = 1
      · have hk : ¬ (o2.k ≠ 1 ∨ o.k = 4) := by omega
        obtain ⟨r1, r2, r3⟩ := h2.ins q2
        have hpos2 := h2.wpos q2
        have hw2 := h2.wd
        by_cases q1 : o.k = 1
        · obtain ⟨s1, s2, s3⟩ := h1.ins q1
          have hpos1 := h1.wpos q1
          have hw1 := h1.wd
          have sne : ¬ (o.k ≠ 1) := fun h => h q1
          have hno : ¬ (o.p < o2.p ∧ o2.p < o.p + widthP o) := fun hh => by
            have hk' : ¬ (o.k ≠ 1 ∨ o2.k = 4) := by omega
            have hcl2 : ¬ clashP o2 o = true := by rw [clash_symm]; exact hncl'
            have ht : ¬ (o2.k = 4 ∧ (o2.tc = o.c ∧ o2.tn = o.n)) := by omega
            have sne2 : ¬ (o2.k ≠ 1) := fun h => h q2
            have e1 : exclP o2 o = (op0, 23) := by
              unfold exclP
              rw [if_neg hcl2, if_neg ht, if_neg hk', if_neg sne2]
              unfold outP
              rw [if_neg (by omega), if_pos hh.1]
            rw [e1] at hq4
            cases hq4
          have hinc : movP o (if o2.p ≤ o.p then o.p + widthP o2 else o.p) = inclP o o2 true := by
            unfold inclP
            rw [if_neg hncl', if_neg hk, if_neg sne]
            by_cases q : o2.p ≤ o.p
            · rw [if_pos q, if_pos (show o2.p < o.p ∨ (o2.p = o.p ∧ true = true) from by rcases Int.lt_or_eq_of_le q with h | h; exact .inl h; exact .inr ⟨h, rfl⟩)]
              rfl
            · rw [if_neg q, if_neg (show ¬ (o2.p < o.p ∨ (o2.p = o.p ∧ true = true)) from fun hh => by rcases hh with h | h; omega; have := h.1; omega)]
              unfold movP
              rw [if_neg (by have := h1.wfit q1; omega)]
          obtain ⟨⟨⟨c5, n5, k5, p5, s5, l5, tc5, tn5, on5⟩, z5⟩, hq5⟩ : ∃ q, inclP o o2 true = q := ⟨_, rfl⟩
          have HMV : Hid (∀ W, Below w.heap.size w W → Calls Tryz.prog 72 #[opVal o (.slice a m cap), .int .i64 (if o2.p ≤ o.p then o.p + widthP o2 else o.p)] W fun e w' => Ans W (⟨c5, n5, k5, p5, s5, l5, tc5, tn5, on5⟩, z5) e w') := fun W hb => by
            have := moved_any (p2 := if o2.p ≤ o.p then o.p + widthP o2 else o.p) (hR.below hb) hm hs (by split <;> omega) hw1
            rw [hinc, hq5] at this
            exact this
          by_cases hz5 : z5 = 0
          · subst hz5
            rw [tr0 ho _ hq5]
            exact transpose_ins HEX HMV _ rfl _ rfl hs hs2 ⟨s1, s2⟩ ⟨r1, r2⟩ ⟨hpos1, hw1.2⟩ ⟨hpos2, hw2.2⟩ hno q2 q1
          · rw [trE ho _ _ hz5 hq5]
            exact transpose_insE HEX HMV _ rfl _ rfl hs hs2 ⟨s1, s2⟩ ⟨r1, r2⟩ ⟨hpos1, hw1.2⟩ ⟨hpos2, hw2.2⟩ hno q2 q1 hz5
        · have hinc : inclP o o2 false = inclP o o2 true := by
            unfold inclP
            rw [if_neg hncl', if_neg hk, if_pos q1, if_neg hncl', if_neg hk, if_pos q1]
          obtain ⟨⟨⟨c5, n5, k5, p5, s5, l5, tc5, tn5, on5⟩, z5⟩, hq5⟩ : ∃ q, inclP o o2 true = q := ⟨_, rfl⟩
          have HIN : Hid (∀ W, Below w.heap.size w W → Calls Tryz.prog 49 #[opVal o (.slice a m cap), opVal o2 (.slice b m2 cap2), .bool false] W fun e w' => Ans W (⟨c5, n5, k5, p5, s5, l5, tc5, tn5, on5⟩, z5) e w') := fun W hb => by
            have := include_any (ear := false) (hR.below hb) hm hs hs2 h1 h2 (b := b) (m2 := m2) (cap2 := cap2)
            rw [hinc, hq5] at this
            exact this
          by_cases hz5 : z5 = 0
          · subst hz5
            rw [tr0 ho _ hq5]
            exact transpose_cov HEX HIN _ rfl _ rfl q2 k4 q1
          · rw [trE ho _ _ hz5 hq5]
            exact transpose_covE HEX HIN _ rfl _ rfl q2 k4 q1 hz5
      · rw [tr0 ho o (by unfold inclP; rw [if_neg hncl', if_pos (.inl q2)])]
        exact transpose_copy HEX hR hm _ rfl _ rfl q2 k4
  · have e1 : transP o o2 = ((op0, op0), z4) := by
      unfold transP
      rw [hq4, if_pos hz]
    rw [e1]
    exact transpose_err HEX hz
end Go.Proofs.YtmdnmhdimfglaaaGreatDoor
