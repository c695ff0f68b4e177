import Derived.Test.YtmdnmhdimfglaaaGreatDoorXiG
import Derived.Test.YtmdnmhdimfglaaaGreatDoorGr8
import Derived.Test.YtmdnmhdimfglaaaGreatDoorGr11
namespace Go.Proofs.YtmdnmhdimfglaaaGreatDoor
open Go.RowKit Go.Lib
set_option maxRecDepth 100000
theorem target_eq {o : OpV} (h : Right o) (hk : o.k = 4) (c n : Int) : isB o.tc o.tn c n = decide (o.tc = c ∧ o.tn = n) := by
  have hid := (h.tgt hk).1
  have hne : ¬ (o.tc = 0 ∧ o.tn = 0) := fun e => by
    rw [e.1, e.2] at hid
    exact absurd hid (by decide)
  unfold isB
  by_cases q : o.tc = c ∧ o.tn = n
  · rw [decide_eq_true q, ← q.1, ← q.2]
    simp
    omega
  · rw [decide_eq_false q]
    by_cases q1 : o.tc = c
    · have : ¬ o.tn = n := fun e => q ⟨q1, e⟩
      simp [this]
    · simp [q1]
theorem exclude_any {o o2 : OpV} {a : Option Addr} {m cap : Nat} {b : Option Addr} {m2 cap2 : Nat} {w : World} (hR : Sp.Rng w a m cap o.l) (hm : m ≤ 1000000000) (hs : o.s.size ≤ 2097152) (hs2 : o2.s.size ≤ 2097152) (h1 : Right o) (h2 : Right o2) : Calls Tryz.prog 51 #[opVal o (.slice a m cap), opVal o2 (.slice b m2 cap2)] w fun e w' => Ans w (exclP o o2) e w' := by
  by_cases hcl : clashP o o2 = true
  · have e1 : exclP o o2 = (op0, 50) := by unfold exclP; rw [if_pos hcl]
    rw [e1]
    exact exclude_clash hcl
  · have hcl' : clashP o o2 = false := by simpa using hcl
    by_cases ht : o.k = 4 ∧ (o.tc = o2.c ∧ o.tn = o2.n)
    · have e1 : exclP o o2 = (op0, 23) := by unfold exclP; rw [if_neg hcl, if_pos ht]
      rw [e1]
      exact exclude_target hcl' ht.1 (by rw [target_eq h1 ht.1, decide_eq_true ht.2])
    · by_cases hk : o2.k ≠ 1 ∨ o.k = 4
      · have e1 : exclP o o2 = (o, 0) := by unfold exclP; rw [if_neg hcl, if_neg ht, if_pos hk]
        rw [e1]
        refine exclude_same hR hm hcl' _ rfl ?_
        by_cases k4 : o.k = 4
        · exact .inl ⟨k4, by rw [target_eq h1 k4, decide_eq_false (fun e => ht ⟨k4, e⟩)]⟩
        · exact .inr ⟨k4, by rcases hk with h | h; exact h; exact absurd h k4⟩
      · have k2 : o2.k = 1 := by omega
        have k1 : o.k ≠ 4 := by omega
        obtain ⟨q1, q2, q3⟩ := h2.ins k2
        have hpos : 0 < widthP o2 := h2.wpos k2
        have hw2 := h2.wd
        by_cases hi : o.k = 1
        · obtain ⟨r1, r2, r3⟩ := h1.ins hi
          have hw1 := h1.wd
          have hpos1 : 0 < widthP o := h1.wpos hi
          have := exclude_ins hR hm hs hs2 hcl' _ rfl k2 hi ⟨r1, r2⟩ ⟨q1, q2⟩ ⟨hpos1, hw1.2⟩ ⟨hpos, hw2.2⟩ (b := b) (m2 := m2) (cap2 := cap2)
          have s1 : ¬ (o.k ≠ 1) := fun h => h hi
          have hfit := h1.wfit hi
          have e1 : (if o2.p < o.p ∧ o.p < o2.p + widthP o2 then (op0, 23) else movP o (if o2.p + widthP o2 ≤ o.p then o.p - widthP o2 else o.p)) = exclP o o2 := by
            unfold exclP
            rw [if_neg hcl, if_neg ht, if_neg hk, if_neg s1]
            unfold outP movP
            by_cases c1 : o2.p + widthP o2 ≤ o.p
            · rw [if_pos c1, if_pos c1, if_neg (show ¬ (o2.p < o.p ∧ o.p < o2.p + widthP o2) by omega), if_neg (by omega)]
            · rw [if_neg c1, if_neg c1]
              by_cases c2 : o2.p < o.p
              · rw [if_pos c2, if_pos (show o2.p < o.p ∧ o.p < o2.p + widthP o2 by omega)]
              · rw [if_neg c2, if_neg (show ¬ (o2.p < o.p ∧ o.p < o2.p + widthP o2) by omega), if_neg (by omega)]
          rw [← e1]
          exact this
        · have e1 : exclP o o2 = backP o o2 := by unfold exclP; rw [if_neg hcl, if_neg ht, if_neg hk, if_pos hi]
          rw [e1]
          have hk23 : o.k = 2 ∨ o.k = 3 := by have := h1.kind; omega
          exact exclude_cov hR hs2 hcl' _ rfl k2 hi k1 (h1.rng hk23).2 ⟨q1, q2⟩ ⟨hpos, hw2.2⟩
end Go.Proofs.YtmdnmhdimfglaaaGreatDoor

namespace Go.Proofs.YtmdnmhdimfglaaaGreatDoor
open Go.RowKit Go.Lib
set_option maxRecDepth 100000
set_option maxHeartbeats 8000000 in
theorem transpose_err {o o2 : OpV} {a : Option Addr} {m cap : Nat} {b : Option Addr} {m2 cap2 : Nat} {w : World} {c4 n4 k4 p4 : Int} {s4 : ByteArray} {l4 : List (Int × Int)} {tc4 tn4 : Int} {on4 : Bool} {z4 : Int} (HEX : Hid (∀ W, Below w.heap.size w W → Calls Tryz.prog 51 #[opVal o2 (.slice b m2 cap2), opVal o (.slice a m cap)] W fun e w' => Ans W (⟨c4, n4, k4, p4, s4, l4, tc4, tn4, on4⟩, z4) e w')) (hz : z4 ≠ 0) : Calls Tryz.prog 52 #[opVal o (.slice a m cap), opVal o2 (.slice b m2 cap2)] w fun e w' => Ans2 w ((op0, op0), z4) e w' := by
  obtain ⟨c, n, k, p, s, l, tc, tn, on⟩ := o
  obtain ⟨c2, n2, k2, p2, s2, l2, tc2, tn2, on2⟩ := o2
  unfold Ans2
  simp only [opVal, Ans] at *
  have t1 : (z4 == 0) = false := beq_eq_false_iff_ne.2 hz
  have t2 : (z4 != 0) = true := by simp [bne, t1]
  have t3 : decide (z4 = 0) = false := decide_eq_false hz
  obtain ⟨v0, hW0⟩ : ∃ V, (((w.alloc (Obj.cells #[.int .i64 c, .int .i64 n, .int .i64 k, .int .i64 p, .string s, .slice a m cap, .int .i64 tc, .int .i64 tn, .bool on] 34)).alloc (Obj.cells #[.int .i64 c2, .int .i64 n2, .int .i64 k2, .int .i64 p2, .string s2, .slice b m2 cap2, .int .i64 tc2, .int .i64 tn2, .bool on2] 34)).alloc (Obj.cells #[.int .i64 0, .int .i64 0, .int .i64 0, .int .i64 0, .string ⟨#[]⟩, .slice none 0 0, .int .i64 0, .int .i64 0, .bool false] 34)).alloc (Obj.cells #[.int .i64 0, .int .i64 0, .int .i64 0, .int .i64 0, .string ⟨#[]⟩, .slice none 0 0, .int .i64 0, .int .i64 0, .bool false] 34) = V := ⟨_, rfl⟩
  have hX0 : v0.heap[w.heap.size]? = some (Obj.cells #[.int .i64 c, .int .i64 n, .int .i64 k, .int .i64 p, .string s, .slice a m cap, .int .i64 tc, .int .i64 tn, .bool on] 34) := by rw [← hW0]; exact (Below.heap_alloc _ _ _ (by simp; omega)).trans ((Below.heap_alloc _ _ _ (by simp; omega)).trans ((Below.heap_alloc _ _ _ (by simp)).trans (heap_alloc_new _ _)))
  have hY0 : v0.heap[w.heap.size + 1]? = some (Obj.cells #[.int .i64 c2, .int .i64 n2, .int .i64 k2, .int .i64 p2, .string s2, .slice b m2 cap2, .int .i64 tc2, .int .i64 tn2, .bool on2] 34) := by rw [← hW0]; exact (Below.heap_alloc _ _ _ (by first | (simp; done) | (simp; omega))).trans ((Below.heap_alloc _ _ _ (by simp)).trans (alloc_last _ _ _ (by simp)))
  have hZ0 : v0.heap[w.heap.size + 2]? = some (Obj.cells #[.int .i64 0, .int .i64 0, .int .i64 0, .int .i64 0, .string ⟨#[]⟩, .slice none 0 0, .int .i64 0, .int .i64 0, .bool false] 34) := by rw [← hW0]; exact (Below.heap_alloc _ _ _ (by simp)).trans (alloc_last _ _ _ (by simp))
  have hU0 : v0.heap[w.heap.size + 3]? = some (Obj.cells #[.int .i64 0, .int .i64 0, .int .i64 0, .int .i64 0, .string ⟨#[]⟩, .slice none 0 0, .int .i64 0, .int .i64 0, .bool false] 34) := by rw [← hW0]; exact alloc_last _ _ _ (by simp)
  have hB0 : Below w.heap.size w v0 := by rw [← hW0]; exact ((((Below.refl w.heap.size w).alloc (Nat.le_refl _) _).alloc (by simp) _).alloc (by simp; omega) _).alloc (by simp; omega) _
  have alt0 : w.heap.size + 3 < v0.heap.size := (Array.getElem?_eq_some_iff.1 hU0).1
  obtain ⟨ak0, ak1, ak2, ak3, ak4, ak5, ak6, ak7, ak8⟩ := box9 hX0
  obtain ⟨bk0, bk1, bk2, bk3, bk4, bk5, bk6, bk7, bk8⟩ := box9 hY0
  obtain ⟨yk0, yk1, yk2, yk3, yk4, yk5, yk6, yk7, yk8⟩ := box9 hZ0
  obtain ⟨zk0, zk1, zk2, zk3, zk4, zk5, zk6, zk7, zk8⟩ := box9 hU0
  obtain ⟨yy0, yy1, yy2, yy3, yy4, yy5, yy6, yy7, yy8⟩ := wr9 hZ0
  obtain ⟨zz0, zz1, zz2, zz3, zz4, zz5, zz6, zz7, zz8⟩ := wr9 hU0
  go_enter Tryz.func52, Tryz.ntmps52
  go_wp2_with fail
  refine (HEX.out _ hB0).mono ?_
  rintro e v1 ⟨xa, xm, xc, rfl, ho1, hb1⟩
  have hlo0 : w.heap.size + 3 < v0.heap.size := alt0
  have hX1 := (hb1.block _ (by omega)).trans hX0
  have hY1 := (hb1.block _ (by omega)).trans hY0
  have hZ1 := (hb1.block _ (by omega)).trans hZ0
  have hU1 := (hb1.block _ (by omega)).trans hU0
  have hB1 := hB0.trans (hb1.mono hB0.size)
  have alt1 : w.heap.size + 3 < v1.heap.size := (Array.getElem?_eq_some_iff.1 hU1).1
  clear hb1 hX0 hY0 hZ0 hU0 hB0 alt0  ak0 ak1 ak2 ak3 ak4 ak5 ak6 ak7 ak8 bk0 bk1 bk2 bk3 bk4 bk5 bk6 bk7 bk8 yk0 yk1 yk2 yk3 yk4 yk5 yk6 yk7 yk8 zk0 zk1 zk2 zk3 zk4 zk5 zk6 zk7 zk8 yy0 yy1 yy2 yy3 yy4 yy5 yy6 yy7 yy8 zz0 zz1 zz2 zz3 zz4 zz5 zz6 zz7 zz8 HEX hW0
  obtain ⟨ak0, ak1, ak2, ak3, ak4, ak5, ak6, ak7, ak8⟩ := box9 hX1
  obtain ⟨bk0, bk1, bk2, bk3, bk4, bk5, bk6, bk7, bk8⟩ := box9 hY1
  obtain ⟨yk0, yk1, yk2, yk3, yk4, yk5, yk6, yk7, yk8⟩ := box9 hZ1
  obtain ⟨zk0, zk1, zk2, zk3, zk4, zk5, zk6, zk7, zk8⟩ := box9 hU1
  obtain ⟨yy0, yy1, yy2, yy3, yy4, yy5, yy6, yy7, yy8⟩ := wr9 hZ1
  obtain ⟨zz0, zz1, zz2, zz3, zz4, zz5, zz6, zz7, zz8⟩ := wr9 hU1
  obtain ⟨v2, hv2⟩ : ∃ V, v1.alloc (Obj.cells #[.int .i64 c4, .int .i64 n4, .int .i64 k4, .int .i64 p4, .string s4, .slice xa xm xc, .int .i64 tc4, .int .i64 tn4, .bool on4] 34) = V := ⟨_, rfl⟩
  have hb2 : Below v1.heap.size v1 v2 := by rw [← hv2]; exact (Below.refl _ _).alloc (Nat.le_refl _) _
  have hS2 : v2.heap[v1.heap.size]? = some (Obj.cells #[.int .i64 c4, .int .i64 n4, .int .i64 k4, .int .i64 p4, .string s4, .slice xa xm xc, .int .i64 tc4, .int .i64 tn4, .bool on4] 34) := by rw [← hv2]; exact heap_alloc_new _ _
  have ho2 := ho1.below hb2
  have hlo1 : w.heap.size + 3 < v1.heap.size := alt1
  obtain ⟨sk0, sk1, sk2, sk3, sk4, sk5, sk6, sk7, sk8⟩ := box9 hS2
  clear ho1
  have hX2 := (hb2.block _ (by omega)).trans hX1
  have hY2 := (hb2.block _ (by omega)).trans hY1
  have hZ2 := (hb2.block _ (by omega)).trans hZ1
  have hU2 := (hb2.block _ (by omega)).trans hU1
  have hB2 := hB1.trans (hb2.mono hB1.size)
  have alt2 : w.heap.size + 3 < v2.heap.size := (Array.getElem?_eq_some_iff.1 hU2).1
  clear hb2 hX1 hY1 hZ1 hU1 hB1 alt1  ak0 ak1 ak2 ak3 ak4 ak5 ak6 ak7 ak8 bk0 bk1 bk2 bk3 bk4 bk5 bk6 bk7 bk8 yk0 yk1 yk2 yk3 yk4 yk5 yk6 yk7 yk8 zk0 zk1 zk2 zk3 zk4 zk5 zk6 zk7 zk8 yy0 yy1 yy2 yy3 yy4 yy5 yy6 yy7 yy8 zz0 zz1 zz2 zz3 zz4 zz5 zz6 zz7 zz8 
  obtain ⟨ak0, ak1, ak2, ak3, ak4, ak5, ak6, ak7, ak8⟩ := box9 hX2
  obtain ⟨bk0, bk1, bk2, bk3, bk4, bk5, bk6, bk7, bk8⟩ := box9 hY2
  obtain ⟨yk0, yk1, yk2, yk3, yk4, yk5, yk6, yk7, yk8⟩ := box9 hZ2
  obtain ⟨zk0, zk1, zk2, zk3, zk4, zk5, zk6, zk7, zk8⟩ := box9 hU2
  obtain ⟨yy0, yy1, yy2, yy3, yy4, yy5, yy6, yy7, yy8⟩ := wr9 hZ2
  obtain ⟨zz0, zz1, zz2, zz3, zz4, zz5, zz6, zz7, zz8⟩ := wr9 hU2
  clear ho2
  obtain ⟨W8, e8, hx8, hB8, hK8⟩ := store9 hZ2 hB2 (by omega) (.int .i64 0) (.int .i64 0) (.int .i64 0) (.int .i64 0) (.string ⟨#[]⟩) (.slice none 0 0) (.int .i64 0) (.int .i64 0) (.bool false)
  have hU8 := hK8.block hU2 (by omega)
  obtain ⟨q0, q1, q2, q3, q4, q5, q6, q7, q8⟩ := box9 hU8
  obtain ⟨qz0, qz1, qz2, qz3, qz4, qz5, qz6, qz7, qz8⟩ := wr9 hU8
  obtain ⟨W9, e9, hx9, hB9, hK9⟩ := store9 hU8 hB8 (by omega) (.int .i64 0) (.int .i64 0) (.int .i64 0) (.int .i64 0) (.string ⟨#[]⟩) (.slice none 0 0) (.int .i64 0) (.int .i64 0) (.bool false)
  have hy9 := hK9.block hx8 (by omega)
  obtain ⟨r0, r1, r2, r3, r4, r5, r6, r7, r8⟩ := box9 hx9
  obtain ⟨t0, t1, t2, t3, t4, t5, t6, t7, t8⟩ := box9 hy9
  go_wp2_with fail
  try rw [e9]
  refine bodyPost_ret (v := .tuple #[.agg #[.int .i64 0, .int .i64 0, .int .i64 0, .int .i64 0, .string ⟨#[]⟩, .slice none 0 0, .int .i64 0, .int .i64 0, .bool false], .agg #[.int .i64 0, .int .i64 0, .int .i64 0, .int .i64 0, .string ⟨#[]⟩, .slice none 0 0, .int .i64 0, .int .i64 0, .bool false], .int .i64 z4]) (by simp [results, Tryz.results52, go_sem, r0, r1, r2, r3, r4, r5, r6, r7, r8, t0, t1, t2, t3, t4, t5, t6, t7, t8]) rfl ⟨none, 0, 0, none, 0, 0, rfl, ownF_nil _ _, ownF_nil _ _, hB9⟩
end Go.Proofs.YtmdnmhdimfglaaaGreatDoor
