import Derived.Test.YtmeciikfnbbllaaGreatDoorXiG
namespace Go.Proofs.YtmeciikfnbbllaaGreatDoor
open Go.RowKit Go.Lib
set_option maxRecDepth 100000
theorem target_eq {o : OpV} (h : Right o) (hk : o.k = 4) (c n : Int) : isB o.tc o.tn c n = decide (o.tc = c ∧ o.tn = n) := by
  have hid := (h.tgt hk).1
  have hne : ¬ (o.tc = 0 ∧ o.tn = 0) := fun e => by
    rw [e.1, e.2] at hid
    exact absurd hid (by decide)
  unfold isB
  by_cases q : o.tc = c ∧ o.tn = n
  · rw [decide_eq_true q, ← q.1, ← q.2]
    simp
    omega
  · rw [decide_eq_false q]
    by_cases q1 : o.tc = c
    · have : ¬ o.tn = n := fun e => q ⟨q1, e⟩
      simp [this]
    · simp [q1]
theorem exclude_any {o o2 : OpV} {a : Option Addr} {m cap : Nat} {b : Option Addr} {m2 cap2 : Nat} {w : World} (hR : Sp.Rng w a m cap o.l) (hm : m ≤ 1000000000) (hs : o.s.size ≤ 2097152) (hs2 : o2.s.size ≤ 2097152) (h1 : Right o) (h2 : Right o2) : Calls Tryz.prog 52 #[opVal o (.slice a m cap), opVal o2 (.slice b m2 cap2)] w fun e w' => Ans w (exclP o o2) e w' := by
  by_cases hcl : clashP o o2 = true
  · have e1 : exclP o o2 = (op0, 50) := by unfold exclP; rw [if_pos hcl]
    rw [e1]
    exact exclude_clash hcl
  · have hcl' : clashP o o2 = false := by simpa using hcl
    by_cases ht : o.k = 4 ∧ (o.tc = o2.c ∧ o.tn = o2.n)
    · have e1 : exclP o o2 = (op0, 23) := by unfold exclP; rw [if_neg hcl, if_pos ht]
      rw [e1]
      exact exclude_target hcl' ht.1 (by rw [target_eq h1 ht.1, decide_eq_true ht.2])
    · by_cases hk : o2.k ≠ 1 ∨ o.k = 4
      · have e1 : exclP o o2 = (o, 0) := by unfold exclP; rw [if_neg hcl, if_neg ht, if_pos hk]
        rw [e1]
        refine exclude_same hR hm hcl' _ rfl ?_
        by_cases k4 : o.k = 4
        · exact .inl ⟨k4, by rw [target_eq h1 k4, decide_eq_false (fun e => ht ⟨k4, e⟩)]⟩
        · exact .inr ⟨k4, by rcases hk with h | h; exact h; exact absurd h k4⟩
      · have k2 : o2.k = 1 := by omega
        have k1 : o.k ≠ 4 := by omega
        obtain ⟨q1, q2, q3⟩ := h2.ins k2
        have hpos : 0 < widthP o2 := h2.wpos k2
        have hw2 := h2.wd
        by_cases hi : o.k = 1
        · obtain ⟨r1, r2, r3⟩ := h1.ins hi
          have hw1 := h1.wd
          have hpos1 : 0 < widthP o := h1.wpos hi
          have := exclude_ins hR hm hs hs2 hcl' _ rfl k2 hi ⟨r1, r2⟩ ⟨q1, q2⟩ ⟨hpos1, hw1.2⟩ ⟨hpos, hw2.2⟩ (b := b) (m2 := m2) (cap2 := cap2)
          have s1 : ¬ (o.k ≠ 1) := fun h => h hi
          have hfit := h1.wfit hi
          have e1 : (if o2.p < o.p ∧ o.p < o2.p + widthP o2 then (op0, 23) else movP o (if o2.p + widthP o2 ≤ o.p then o.p - widthP o2 else o.p)) = exclP o o2 := by
            unfold exclP
            rw [if_neg hcl, if_neg ht, if_neg hk, if_neg s1]
            unfold outP movP
            by_cases c1 : o2.p + widthP o2 ≤ o.p
            · rw [if_pos c1, if_pos c1, if_neg (show ¬ (o2.p < o.p ∧ o.p < o2.p + widthP o2) by omega), if_neg (by omega)]
            · rw [if_neg c1, if_neg c1]
              by_cases c2 : o2.p < o.p
              · rw [if_pos c2, if_pos (show o2.p < o.p ∧ o.p < o2.p + widthP o2 by omega)]
              · rw [if_neg c2, if_neg (show ¬ (o2.p < o.p ∧ o.p < o2.p + widthP o2) by omega), if_neg (by omega)]
          rw [← e1]
          exact this
        · have e1 : exclP o o2 = backP o o2 := by unfold exclP; rw [if_neg hcl, if_neg ht, if_neg hk, if_pos hi]
          rw [e1]
          have hk23 : o.k = 2 ∨ o.k = 3 := by have := h1.kind; omega
          exact exclude_cov hR hs2 hcl' _ rfl k2 hi k1 (h1.rng hk23).2 ⟨q1, q2⟩ ⟨hpos, hw2.2⟩
set_option maxHeartbeats 8000000 in
theorem gExclude_any {o o2 : OpV} {a : Option Addr} {m cap : Nat} {b : Option Addr} {m2 cap2 : Nat} {w : World} (h1 : OpOk w (o, (a, m, cap))) (h2 : OpOk w (o2, (b, m2, cap2))) :
    Calls Tryz.prog 29 #[opVal o (.slice a m cap), opVal o2 (.slice b m2 cap2)] w fun e w' => Ans w (xExclude o o2) e w' := by
  have HE : Hid (∀ (W : World) (g : Nat), Below w.heap.size w W → W.heap[g]? = some (.cells (opF (o, (a, m, cap)) ++ opF (o2, (b, m2, cap2))).toArray 33) → Calls Tryz.prog 49 #[.slice (some ⟨g, 0, none⟩) 2 2] W fun e w' => e = .returned (.int .i64 (firstErr [o, o2])) ∧ Below W.heap.size W w') := fun W g hb hg => gown_any (L := [(o, (a, m, cap)), (o2, (b, m2, cap2))]) (two_ops hg) (fun x hx => by
    simp at hx
    rcases hx with rfl | rfl
    · exact h1.below hb
    · exact h2.below hb)
  have HI : Hid (firstErr [o, o2] = 0 → ∀ (W : World), Below w.heap.size w W → Calls Tryz.prog 52 #[opVal o (.slice a m cap), opVal o2 (.slice b m2 cap2)] W fun e w' => Ans W (exclP o o2) e w') := fun h0 W hb => exclude_any (h1.1.below hb) (by have := h1.2.1; simp only at this; omega) h1.2.2 h2.2.2 (right_of (first2 h0).1) (right_of (first2 h0).2)
  obtain ⟨q, hq⟩ : ∃ q, xExclude o o2 = q := ⟨_, rfl⟩
  rw [hq]
  unfold xExclude at hq
  generalize firstErr [o, o2] = z at *
  generalize exclP o o2 = tq at *
  simp only [opF, List.cons_append, List.nil_append] at HE
  clear h1 h2
  obtain ⟨⟨c3, n3, k3, p3, s3, l3, tc3, tn3, on3⟩, e3⟩ := tq
  obtain ⟨c, n, k, p, s, l, tc, tn, on⟩ := o
  obtain ⟨c2, n2, k2, p2, s2, l2, tc2, tn2, on2⟩ := o2
  unfold Ans
  simp only [opVal] at *
  unfold Ans at HI
  simp only [opVal] at HI
  obtain ⟨W0, hW0⟩ : ∃ W0, ((w.alloc (Obj.cells #[.int .i64 c, .int .i64 n, .int .i64 k, .int .i64 p, .string s, .slice a m cap, .int .i64 tc, .int .i64 tn, .bool on] 33)).alloc (Obj.cells #[.int .i64 c2, .int .i64 n2, .int .i64 k2, .int .i64 p2, .string s2, .slice b m2 cap2, .int .i64 tc2, .int .i64 tn2, .bool on2] 33)).alloc (Obj.cells #[.int .i64 0, .int .i64 0, .int .i64 0, .int .i64 0, .string ⟨#[]⟩, .slice none 0 0, .int .i64 0, .int .i64 0, .bool false] 33) = W0 := ⟨_, rfl⟩
  have hX : W0.heap[w.heap.size]? = some (Obj.cells #[.int .i64 c, .int .i64 n, .int .i64 k, .int .i64 p, .string s, .slice a m cap, .int .i64 tc, .int .i64 tn, .bool on] 33) := by rw [← hW0]; exact (Below.heap_alloc _ _ _ (by simp; omega)).trans ((Below.heap_alloc _ _ _ (by simp)).trans (heap_alloc_new _ _))
  have hY : W0.heap[w.heap.size + 1]? = some (Obj.cells #[.int .i64 c2, .int .i64 n2, .int .i64 k2, .int .i64 p2, .string s2, .slice b m2 cap2, .int .i64 tc2, .int .i64 tn2, .bool on2] 33) := by rw [← hW0]; exact (Below.heap_alloc _ _ _ (by simp)).trans (alloc_last _ _ _ (by simp))
  have hZ : W0.heap[w.heap.size + 2]? = some (Obj.cells #[.int .i64 0, .int .i64 0, .int .i64 0, .int .i64 0, .string ⟨#[]⟩, .slice none 0 0, .int .i64 0, .int .i64 0, .bool false] 33) := by rw [← hW0]; exact alloc_last _ _ _ (by simp)
  have hB0 : Below w.heap.size w W0 := by rw [← hW0]; exact (((Below.refl w.heap.size w).alloc (Nat.le_refl _) _).alloc (by simp) _).alloc (by simp; omega) _
  have alt : w.heap.size + 2 < W0.heap.size := (Array.getElem?_eq_some_iff.1 hZ).1
  obtain ⟨ak0, ak1, ak2, ak3, ak4, ak5, ak6, ak7, ak8⟩ := box9 hX
  obtain ⟨bk0, bk1, bk2, bk3, bk4, bk5, bk6, bk7, bk8⟩ := box9 hY
  obtain ⟨zk0, zk1, zk2, zk3, zk4, zk5, zk6, zk7, zk8⟩ := box9 hZ
  obtain ⟨zz0, zz1, zz2, zz3, zz4, zz5, zz6, zz7, zz8⟩ := wr9 hZ
  obtain ⟨W1, hW1⟩ : ∃ W1, W0.alloc (Obj.cells #[.int .i64 c, .int .i64 n, .int .i64 k, .int .i64 p, .string s, .slice a m cap, .int .i64 tc, .int .i64 tn, .bool on, .int .i64 c2, .int .i64 n2, .int .i64 k2, .int .i64 p2, .string s2, .slice b m2 cap2, .int .i64 tc2, .int .i64 tn2, .bool on2] 33) = W1 := ⟨_, rfl⟩
  have hT : W1.heap[W0.heap.size]? = some (Obj.cells #[.int .i64 c, .int .i64 n, .int .i64 k, .int .i64 p, .string s, .slice a m cap, .int .i64 tc, .int .i64 tn, .bool on, .int .i64 c2, .int .i64 n2, .int .i64 k2, .int .i64 p2, .string s2, .slice b m2 cap2, .int .i64 tc2, .int .i64 tn2, .bool on2] 33) := by rw [← hW1]; exact heap_alloc_new _ _
  have h01 : Below W0.heap.size W0 W1 := by rw [← hW1]; exact (Below.refl _ _).alloc (Nat.le_refl _) _
  go_enter Tryz.func29, Tryz.ntmps29
  go_wp2_with fail
  refine (HE.out W1 _ (hB0.trans (h01.mono hB0.size)) hT).mono ?_
  rintro e v1 ⟨rfl, hb0⟩
  have hb1 : Below W0.heap.size W0 v1 := h01.trans (hb0.mono h01.size)
  clear hb0 h01 hT hW1 HE
  have hX1 := (hb1.block _ (by omega)).trans hX
  have hY1 := (hb1.block _ (by omega)).trans hY
  have hZ1 := (hb1.block _ (by omega)).trans hZ
  have hB1 := hB0.trans (hb1.mono hB0.size)
  have alt1 : w.heap.size + 2 < v1.heap.size := (Array.getElem?_eq_some_iff.1 hZ1).1
  clear hb1 hX hY hZ hB0 alt ak0 ak1 ak2 ak3 ak4 ak5 ak6 ak7 ak8 bk0 bk1 bk2 bk3 bk4 bk5 bk6 bk7 bk8 zk0 zk1 zk2 zk3 zk4 zk5 zk6 zk7 zk8 zz0 zz1 zz2 zz3 zz4 zz5 zz6 zz7 zz8 hW0
  obtain ⟨ak0, ak1, ak2, ak3, ak4, ak5, ak6, ak7, ak8⟩ := box9 hX1
  obtain ⟨bk0, bk1, bk2, bk3, bk4, bk5, bk6, bk7, bk8⟩ := box9 hY1
  obtain ⟨zk0, zk1, zk2, zk3, zk4, zk5, zk6, zk7, zk8⟩ := box9 hZ1
  obtain ⟨zz0, zz1, zz2, zz3, zz4, zz5, zz6, zz7, zz8⟩ := wr9 hZ1
  by_cases hz : z = 0
  · subst hz
    rw [if_neg (by simp)] at hq
    subst hq
    have HI2 := HI.out rfl v1 hB1
    clear HI
    go_wp2_with fail
    refine HI2.mono ?_
    rintro e v2 ⟨va, vm, vc, rfl, ho2, hb2⟩
    have HO2 : Hid (OwnF rangeV 2 94 v2 v1.heap.size (.slice va vm vc) l3) := ho2
    have hv1 : w.heap.size + 2 < v1.heap.size := alt1
    clear ho2 HI2
    have hX2 := (hb2.block _ (by omega)).trans hX1
    have hY2 := (hb2.block _ (by omega)).trans hY1
    have hZ2 := (hb2.block _ (by omega)).trans hZ1
    have hB2 := hB1.trans (hb2.mono hB1.size)
    have alt2 : w.heap.size + 2 < v2.heap.size := (Array.getElem?_eq_some_iff.1 hZ2).1
    clear hb2 hX1 hY1 hZ1 hB1 alt1 ak0 ak1 ak2 ak3 ak4 ak5 ak6 ak7 ak8 bk0 bk1 bk2 bk3 bk4 bk5 bk6 bk7 bk8 zk0 zk1 zk2 zk3 zk4 zk5 zk6 zk7 zk8 zz0 zz1 zz2 zz3 zz4 zz5 zz6 zz7 zz8 
    obtain ⟨ak0, ak1, ak2, ak3, ak4, ak5, ak6, ak7, ak8⟩ := box9 hX2
    obtain ⟨bk0, bk1, bk2, bk3, bk4, bk5, bk6, bk7, bk8⟩ := box9 hY2
    obtain ⟨zk0, zk1, zk2, zk3, zk4, zk5, zk6, zk7, zk8⟩ := box9 hZ2
    obtain ⟨zz0, zz1, zz2, zz3, zz4, zz5, zz6, zz7, zz8⟩ := wr9 hZ2
    obtain ⟨W9, e9, hx9, hB9, hK9⟩ := store9 hZ2 hB2 (by omega) (.int .i64 c3) (.int .i64 n3) (.int .i64 k3) (.int .i64 p3) (.string s3) (.slice va vm vc) (.int .i64 tc3) (.int .i64 tn3) (.bool on3)
    obtain ⟨r0, r1, r2, r3, r4, r5, r6, r7, r8⟩ := box9 hx9
    have HO9 : Hid (OwnF rangeV 2 94 W9 w.heap.size (.slice va vm vc) l3) := (hK9.own HO2.out (by omega)).mono (by omega)
    clear HO2
    go_wp2_with fail
    try rw [e9]
    refine bodyPost_ret (v := .tuple #[.agg #[.int .i64 c3, .int .i64 n3, .int .i64 k3, .int .i64 p3, .string s3, .slice va vm vc, .int .i64 tc3, .int .i64 tn3, .bool on3], .int .i64 e3]) (by simp [results, Tryz.results29, go_sem, r0, r1, r2, r3, r4, r5, r6, r7, r8]) rfl ⟨va, vm, vc, rfl, HO9.out, hB9⟩
  · rw [if_pos hz] at hq
    subst hq
    have t1 : (z == 0) = false := beq_eq_false_iff_ne.2 hz
    have t2 : (z != 0) = true := by simp [bne, t1]
    have t3 : decide (z = 0) = false := decide_eq_false hz
    clear HI
    obtain ⟨W9, e9, hx9, hB9, hK9⟩ := store9 hZ1 hB1 (by omega) (.int .i64 0) (.int .i64 0) (.int .i64 0) (.int .i64 0) (.string ⟨#[]⟩) (.slice none 0 0) (.int .i64 0) (.int .i64 0) (.bool false)
    obtain ⟨r0, r1, r2, r3, r4, r5, r6, r7, r8⟩ := box9 hx9
    go_wp2_with fail
    try rw [e9]
    refine bodyPost_ret (v := .tuple #[.agg #[.int .i64 0, .int .i64 0, .int .i64 0, .int .i64 0, .string ⟨#[]⟩, .slice none 0 0, .int .i64 0, .int .i64 0, .bool false], .int .i64 z]) (by simp [results, Tryz.results29, go_sem, r0, r1, r2, r3, r4, r5, r6, r7, r8]) rfl ⟨none, 0, 0, rfl, ownF_nil _ _, hB9⟩
end Go.Proofs.YtmeciikfnbbllaaGreatDoor
