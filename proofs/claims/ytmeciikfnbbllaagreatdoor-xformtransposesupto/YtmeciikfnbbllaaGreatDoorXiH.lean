import Derived.Test.YtmeciikfnbbllaaGreatDoorXiG
namespace Go.Proofs.YtmeciikfnbbllaaGreatDoor
open Go.RowKit Go.Lib
set_option maxRecDepth 100000
theorem target_eq {o : OpV} (h : Right o) (hk : o.k = 4) (c n : Int) : isB o.tc o.tn c n = decide (o.tc = c ∧ o.tn = n) := by
  have hid := (h.tgt hk).1
  have hne : ¬ (o.tc = 0 ∧ o.tn = 0) := fun e => by
    rw [e.1, e.2] at hid
    exact absurd hid (by decide)
  unfold isB
  by_cases q : o.tc = c ∧ o.tn = n
  · rw [decide_eq_true q, ← q.1, ← q.2]
    simp
    omega
  · rw [decide_eq_false q]
    by_cases q1 : o.tc = c
    · have : ¬ o.tn = n := fun e => q ⟨q1, e⟩
      simp [this]
    · simp [q1]
theorem exclude_any {o o2 : OpV} {a : Option Addr} {m cap : Nat} {b : Option Addr} {m2 cap2 : Nat} {w : World} (hR : Sp.Rng w a m cap o.l) (hm : m ≤ 1000000000) (hs : o.s.size ≤ 2097152) (hs2 : o2.s.size ≤ 2097152) (h1 : Right o) (h2 : Right o2) : Calls Tryz.prog 52 #[opVal o (.slice a m cap), opVal o2 (.slice b m2 cap2)] w fun e w' => Ans w (exclP o o2) e w' := by
  by_cases hcl : clashP o o2 = true
  · have e1 : exclP o o2 = (op0, 50) := by unfold exclP; rw [if_pos hcl]
    rw [e1]
    exact exclude_clash hcl
  · have hcl' : clashP o o2 = false := by simpa using hcl
    by_cases ht : o.k = 4 ∧ (o.tc = o2.c ∧ o.tn = o2.n)
    · have e1 : exclP o o2 = (op0, 23) := by unfold exclP; rw [if_neg hcl, if_pos ht]
      rw [e1]
      exact exclude_target hcl' ht.1 (by rw [target_eq h1 ht.1, decide_eq_true ht.2])
    · by_cases hk : o2.k ≠ 1 ∨ o.k = 4
      · have e1 : exclP o o2 = (o, 0) := by unfold exclP; rw [if_neg hcl, if_neg ht, if_pos hk]
        rw [e1]
        refine exclude_same hR hm hcl' _ rfl ?_
        by_cases k4 : o.k = 4
        · exact .inl ⟨k4, by rw [target_eq h1 k4, decide_eq_false (fun e => ht ⟨k4, e⟩)]⟩
        · exact .inr ⟨k4, by rcases hk with h | h; exact h; exact absurd h k4⟩
      · have k2 : o2.k = 1 := by omega
        have k1 : o.k ≠ 4 := by omega
        obtain ⟨q1, q2, q3⟩ := h2.ins k2
        have hpos : 0 < widthP o2 := h2.wpos k2
        have hw2 := h2.wd
        by_cases hi : o.k = 1
        · obtain ⟨r1, r2, r3⟩ := h1.ins hi
          have hw1 := h1.wd
          have hpos1 : 0 < widthP o := h1.wpos hi
          have := exclude_ins hR hm hs hs2 hcl' _ rfl k2 hi ⟨r1, r2⟩ ⟨q1, q2⟩ ⟨hpos1, hw1.2⟩ ⟨hpos, hw2.2⟩ (b := b) (m2 := m2) (cap2 := cap2)
          have s1 : ¬ (o.k ≠ 1) := fun h => h hi
          have hfit := h1.wfit hi
          have e1 : (if o2.p < o.p ∧ o.p < o2.p + widthP o2 then (op0, 23) else movP o (if o2.p + widthP o2 ≤ o.p then o.p - widthP o2 else o.p)) = exclP o o2 := by
            unfold exclP
            rw [if_neg hcl, if_neg ht, if_neg hk, if_neg s1]
            unfold outP movP
            by_cases c1 : o2.p + widthP o2 ≤ o.p
            · rw [if_pos c1, if_pos c1, if_neg (show ¬ (o2.p < o.p ∧ o.p < o2.p + widthP o2) by omega), if_neg (by omega)]
            · rw [if_neg c1, if_neg c1]
              by_cases c2 : o2.p < o.p
              · rw [if_pos c2, if_pos (show o2.p < o.p ∧ o.p < o2.p + widthP o2 by omega)]
              · rw [if_neg c2, if_neg (show ¬ (o2.p < o.p ∧ o.p < o2.p + widthP o2) by omega), if_neg (by omega)]
          rw [← e1]
          exact this
        · have e1 : exclP o o2 = backP o o2 := by unfold exclP; rw [if_neg hcl, if_neg ht, if_neg hk, if_pos hi]
          rw [e1]
          have hk23 : o.k = 2 ∨ o.k = 3 := by have := h1.kind; omega
          exact exclude_cov hR hs2 hcl' _ rfl k2 hi k1 (h1.rng hk23).2 ⟨q1, q2⟩ ⟨hpos, hw2.2⟩
end Go.Proofs.YtmeciikfnbbllaaGreatDoor
