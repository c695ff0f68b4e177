import Derived.Test.YtmeciikfnbbllaaGreatDoorXjK
namespace Go.Proofs.YtmeciikfnbbllaaGreatDoor
open Go.RowKit Go.Lib
set_option maxRecDepth 100000
set_option maxHeartbeats 16000000 in
theorem gTranspose_any {o o2 : OpV} {a : Option Addr} {m cap : Nat} {b : Option Addr} {m2 cap2 : Nat} {w : World} (h1 : OpOk w (o, (a, m, cap))) (h2 : OpOk w (o2, (b, m2, cap2))) :
    Calls Tryz.prog 30 #[opVal o (.slice a m cap), opVal o2 (.slice b m2 cap2)] w fun e w' => Ans2 w (xTranspose o o2) e w' := by
  have HE : Hid (∀ (W : World) (g : Nat), Below w.heap.size w W → W.heap[g]? = some (.cells (opF (o, (a, m, cap)) ++ opF (o2, (b, m2, cap2))).toArray 33) → Calls Tryz.prog 49 #[.slice (some ⟨g, 0, none⟩) 2 2] W fun e w' => e = .returned (.int .i64 (firstErr [o, o2])) ∧ Below W.heap.size W w') := fun W g hb hg => gown_any (L := [(o, (a, m, cap)), (o2, (b, m2, cap2))]) (two_ops hg) (fun x hx => by
    simp at hx
    rcases hx with rfl | rfl
    · exact h1.below hb
    · exact h2.below hb)
  have HI : Hid (firstErr [o, o2] = 0 → ∀ (W : World), Below w.heap.size w W → Calls Tryz.prog 53 #[opVal o (.slice a m cap), opVal o2 (.slice b m2 cap2)] W fun e w' => Ans2 W (transP o o2) e w') := fun h0 W hb => transpose_any (h1.1.below hb) (h2.1.below hb) (by have := h1.2.1; simp only at this; omega) (by have := h2.2.1; simp only at this; omega) h1.2.2 h2.2.2 (right_of (first2 h0).1) (right_of (first2 h0).2)
  obtain ⟨q, hq⟩ : ∃ q, xTranspose o o2 = q := ⟨_, rfl⟩
  rw [hq]
  unfold xTranspose at hq
  generalize firstErr [o, o2] = z at *
  generalize transP o o2 = tq at *
  simp only [opF, List.cons_append, List.nil_append] at HE
  clear h1 h2
  obtain ⟨⟨⟨c3, n3, k3, p3, s3, l3, tc3, tn3, on3⟩, ⟨c5, n5, k5, p5, s5, l5, tc5, tn5, on5⟩⟩, e3⟩ := tq
  obtain ⟨c, n, k, p, s, l, tc, tn, on⟩ := o
  obtain ⟨c2, n2, k2, p2, s2, l2, tc2, tn2, on2⟩ := o2
  unfold Ans2 at *
  simp only [opVal] at *
  obtain ⟨v0, hW0⟩ : ∃ V, (((w.alloc (Obj.cells #[.int .i64 c, .int .i64 n, .int .i64 k, .int .i64 p, .string s, .slice a m cap, .int .i64 tc, .int .i64 tn, .bool on] 33)).alloc (Obj.cells #[.int .i64 c2, .int .i64 n2, .int .i64 k2, .int .i64 p2, .string s2, .slice b m2 cap2, .int .i64 tc2, .int .i64 tn2, .bool on2] 33)).alloc (Obj.cells #[.int .i64 0, .int .i64 0, .int .i64 0, .int .i64 0, .string ⟨#[]⟩, .slice none 0 0, .int .i64 0, .int .i64 0, .bool false] 33)).alloc (Obj.cells #[.int .i64 0, .int .i64 0, .int .i64 0, .int .i64 0, .string ⟨#[]⟩, .slice none 0 0, .int .i64 0, .int .i64 0, .bool false] 33) = V := ⟨_, rfl⟩
  have hX0 : v0.heap[w.heap.size]? = some (Obj.cells #[.int .i64 c, .int .i64 n, .int .i64 k, .int .i64 p, .string s, .slice a m cap, .int .i64 tc, .int .i64 tn, .bool on] 33) := by rw [← hW0]; exact (Below.heap_alloc _ _ _ (by simp; omega)).trans ((Below.heap_alloc _ _ _ (by simp; omega)).trans ((Below.heap_alloc _ _ _ (by simp)).trans (heap_alloc_new _ _)))
  have hY0 : v0.heap[w.heap.size + 1]? = some (Obj.cells #[.int .i64 c2, .int .i64 n2, .int .i64 k2, .int .i64 p2, .string s2, .slice b m2 cap2, .int .i64 tc2, .int .i64 tn2, .bool on2] 33) := by rw [← hW0]; exact (Below.heap_alloc _ _ _ (by first | (simp; done) | (simp; omega))).trans ((Below.heap_alloc _ _ _ (by simp)).trans (alloc_last _ _ _ (by simp)))
  have hZ0 : v0.heap[w.heap.size + 2]? = some (Obj.cells #[.int .i64 0, .int .i64 0, .int .i64 0, .int .i64 0, .string ⟨#[]⟩, .slice none 0 0, .int .i64 0, .int .i64 0, .bool false] 33) := by rw [← hW0]; exact (Below.heap_alloc _ _ _ (by simp)).trans (alloc_last _ _ _ (by simp))
  have hU0 : v0.heap[w.heap.size + 3]? = some (Obj.cells #[.int .i64 0, .int .i64 0, .int .i64 0, .int .i64 0, .string ⟨#[]⟩, .slice none 0 0, .int .i64 0, .int .i64 0, .bool false] 33) := by rw [← hW0]; exact alloc_last _ _ _ (by simp)
  have hB0 : Below w.heap.size w v0 := by rw [← hW0]; exact ((((Below.refl w.heap.size w).alloc (Nat.le_refl _) _).alloc (by simp) _).alloc (by simp; omega) _).alloc (by simp; omega) _
  have alt0 : w.heap.size + 3 < v0.heap.size := (Array.getElem?_eq_some_iff.1 hU0).1
  obtain ⟨ak0, ak1, ak2, ak3, ak4, ak5, ak6, ak7, ak8⟩ := box9 hX0
  obtain ⟨bk0, bk1, bk2, bk3, bk4, bk5, bk6, bk7, bk8⟩ := box9 hY0
  obtain ⟨yk0, yk1, yk2, yk3, yk4, yk5, yk6, yk7, yk8⟩ := box9 hZ0
  obtain ⟨zk0, zk1, zk2, zk3, zk4, zk5, zk6, zk7, zk8⟩ := box9 hU0
  obtain ⟨yy0, yy1, yy2, yy3, yy4, yy5, yy6, yy7, yy8⟩ := wr9 hZ0
  obtain ⟨zz0, zz1, zz2, zz3, zz4, zz5, zz6, zz7, zz8⟩ := wr9 hU0
  obtain ⟨W1, hW1⟩ : ∃ W1, v0.alloc (Obj.cells #[.int .i64 c, .int .i64 n, .int .i64 k, .int .i64 p, .string s, .slice a m cap, .int .i64 tc, .int .i64 tn, .bool on, .int .i64 c2, .int .i64 n2, .int .i64 k2, .int .i64 p2, .string s2, .slice b m2 cap2, .int .i64 tc2, .int .i64 tn2, .bool on2] 33) = W1 := ⟨_, rfl⟩
  have hT : W1.heap[v0.heap.size]? = some (Obj.cells #[.int .i64 c, .int .i64 n, .int .i64 k, .int .i64 p, .string s, .slice a m cap, .int .i64 tc, .int .i64 tn, .bool on, .int .i64 c2, .int .i64 n2, .int .i64 k2, .int .i64 p2, .string s2, .slice b m2 cap2, .int .i64 tc2, .int .i64 tn2, .bool on2] 33) := by rw [← hW1]; exact heap_alloc_new _ _
  have h01 : Below v0.heap.size v0 W1 := by rw [← hW1]; exact (Below.refl _ _).alloc (Nat.le_refl _) _
  go_enter Tryz.func30, Tryz.ntmps30
  go_wp2_with fail
  refine (HE.out W1 _ (hB0.trans (h01.mono hB0.size)) hT).mono ?_
  rintro e v1 ⟨rfl, hb0⟩
  have hb1 : Below v0.heap.size v0 v1 := h01.trans (hb0.mono h01.size)
  clear hb0 h01 hT hW1 HE
  have hX1 := (hb1.block _ (by omega)).trans hX0
  have hY1 := (hb1.block _ (by omega)).trans hY0
  have hZ1 := (hb1.block _ (by omega)).trans hZ0
  have hU1 := (hb1.block _ (by omega)).trans hU0
  have hB1 := hB0.trans (hb1.mono hB0.size)
  have alt1 : w.heap.size + 3 < v1.heap.size := (Array.getElem?_eq_some_iff.1 hU1).1
  clear hb1 hX0 hY0 hZ0 hU0 hB0 alt0  ak0 ak1 ak2 ak3 ak4 ak5 ak6 ak7 ak8 bk0 bk1 bk2 bk3 bk4 bk5 bk6 bk7 bk8 yk0 yk1 yk2 yk3 yk4 yk5 yk6 yk7 yk8 zk0 zk1 zk2 zk3 zk4 zk5 zk6 zk7 zk8 yy0 yy1 yy2 yy3 yy4 yy5 yy6 yy7 yy8 zz0 zz1 zz2 zz3 zz4 zz5 zz6 zz7 zz8 hW0
  obtain ⟨ak0, ak1, ak2, ak3, ak4, ak5, ak6, ak7, ak8⟩ := box9 hX1
  obtain ⟨bk0, bk1, bk2, bk3, bk4, bk5, bk6, bk7, bk8⟩ := box9 hY1
  obtain ⟨yk0, yk1, yk2, yk3, yk4, yk5, yk6, yk7, yk8⟩ := box9 hZ1
  obtain ⟨zk0, zk1, zk2, zk3, zk4, zk5, zk6, zk7, zk8⟩ := box9 hU1
  obtain ⟨yy0, yy1, yy2, yy3, yy4, yy5, yy6, yy7, yy8⟩ := wr9 hZ1
  obtain ⟨zz0, zz1, zz2, zz3, zz4, zz5, zz6, zz7, zz8⟩ := wr9 hU1
  by_cases hz : z = 0
  · subst hz
    rw [if_neg (by simp)] at hq
    subst hq
    have HI2 := HI.out rfl v1 hB1
    clear HI
    go_wp2_with fail
    refine HI2.mono ?_
    rintro e v2 ⟨va, vm, vc, ya, ym, yc, rfl, ho2, hoy2, hb2⟩
    have hv1 : w.heap.size + 3 < v1.heap.size := alt1
    clear HI2
    have hX2 := (hb2.block _ (by omega)).trans hX1
    have hY2 := (hb2.block _ (by omega)).trans hY1
    have hZ2 := (hb2.block _ (by omega)).trans hZ1
    have hU2 := (hb2.block _ (by omega)).trans hU1
    have hB2 := hB1.trans (hb2.mono hB1.size)
    have alt2 : w.heap.size + 3 < v2.heap.size := (Array.getElem?_eq_some_iff.1 hU2).1
    clear hb2 hX1 hY1 hZ1 hU1 hB1 alt1  ak0 ak1 ak2 ak3 ak4 ak5 ak6 ak7 ak8 bk0 bk1 bk2 bk3 bk4 bk5 bk6 bk7 bk8 yk0 yk1 yk2 yk3 yk4 yk5 yk6 yk7 yk8 zk0 zk1 zk2 zk3 zk4 zk5 zk6 zk7 zk8 yy0 yy1 yy2 yy3 yy4 yy5 yy6 yy7 yy8 zz0 zz1 zz2 zz3 zz4 zz5 zz6 zz7 zz8 
    obtain ⟨ak0, ak1, ak2, ak3, ak4, ak5, ak6, ak7, ak8⟩ := box9 hX2
    obtain ⟨bk0, bk1, bk2, bk3, bk4, bk5, bk6, bk7, bk8⟩ := box9 hY2
    obtain ⟨yk0, yk1, yk2, yk3, yk4, yk5, yk6, yk7, yk8⟩ := box9 hZ2
    obtain ⟨zk0, zk1, zk2, zk3, zk4, zk5, zk6, zk7, zk8⟩ := box9 hU2
    obtain ⟨yy0, yy1, yy2, yy3, yy4, yy5, yy6, yy7, yy8⟩ := wr9 hZ2
    obtain ⟨zz0, zz1, zz2, zz3, zz4, zz5, zz6, zz7, zz8⟩ := wr9 hU2
    obtain ⟨W8, e8, hx8, hB8, hK8⟩ := store9 hZ2 hB2 (by omega) (.int .i64 c3) (.int .i64 n3) (.int .i64 k3) (.int .i64 p3) (.string s3) (.slice va vm vc) (.int .i64 tc3) (.int .i64 tn3) (.bool on3)
    have hU8 := hK8.block hU2 (by omega)
    obtain ⟨q0, q1, q2, q3, q4, q5, q6, q7, q8⟩ := box9 hU8
    obtain ⟨qz0, qz1, qz2, qz3, qz4, qz5, qz6, qz7, qz8⟩ := wr9 hU8
    obtain ⟨W9, e9, hx9, hB9, hK9⟩ := store9 hU8 hB8 (by omega) (.int .i64 c5) (.int .i64 n5) (.int .i64 k5) (.int .i64 p5) (.string s5) (.slice ya ym yc) (.int .i64 tc5) (.int .i64 tn5) (.bool on5)
    have hy9 := hK9.block hx8 (by omega)
    obtain ⟨r0, r1, r2, r3, r4, r5, r6, r7, r8⟩ := box9 hx9
    obtain ⟨t0, t1, t2, t3, t4, t5, t6, t7, t8⟩ := box9 hy9
    have HO1 : Hid (OwnF rangeV 2 94 W9 w.heap.size (.slice va vm vc) l3) := (hK9.own (hK8.own ho2 (by omega)) (by omega)).mono (by omega)
    have HO2 : Hid (OwnF rangeV 2 94 W9 w.heap.size (.slice ya ym yc) l5) := (hK9.own (hK8.own hoy2 (by omega)) (by omega)).mono (by omega)
    clear ho2 hoy2
    go_wp2_with fail
    try rw [e9]
    refine bodyPost_ret (v := .tuple #[.agg #[.int .i64 c3, .int .i64 n3, .int .i64 k3, .int .i64 p3, .string s3, .slice va vm vc, .int .i64 tc3, .int .i64 tn3, .bool on3], .agg #[.int .i64 c5, .int .i64 n5, .int .i64 k5, .int .i64 p5, .string s5, .slice ya ym yc, .int .i64 tc5, .int .i64 tn5, .bool on5], .int .i64 e3]) (by simp [results, Tryz.results30, go_sem, r0, r1, r2, r3, r4, r5, r6, r7, r8, t0, t1, t2, t3, t4, t5, t6, t7, t8]) rfl ⟨va, vm, vc, ya, ym, yc, rfl, HO1.out, HO2.out, hB9⟩
  · rw [if_pos hz] at hq
    subst hq
    have t1 : (z == 0) = false := beq_eq_false_iff_ne.2 hz
    have t2 : (z != 0) = true := by simp [bne, t1]
    have t3 : decide (z = 0) = false := decide_eq_false hz
    clear HI
    obtain ⟨W8, e8, hx8, hB8, hK8⟩ := store9 hZ1 hB1 (by omega) (.int .i64 0) (.int .i64 0) (.int .i64 0) (.int .i64 0) (.string ⟨#[]⟩) (.slice none 0 0) (.int .i64 0) (.int .i64 0) (.bool false)
    have hU8 := hK8.block hU1 (by omega)
    obtain ⟨q0, q1, q2, q3, q4, q5, q6, q7, q8⟩ := box9 hU8
    obtain ⟨qz0, qz1, qz2, qz3, qz4, qz5, qz6, qz7, qz8⟩ := wr9 hU8
    obtain ⟨W9, e9, hx9, hB9, hK9⟩ := store9 hU8 hB8 (by omega) (.int .i64 0) (.int .i64 0) (.int .i64 0) (.int .i64 0) (.string ⟨#[]⟩) (.slice none 0 0) (.int .i64 0) (.int .i64 0) (.bool false)
    have hy9 := hK9.block hx8 (by omega)
    obtain ⟨r0, r1, r2, r3, r4, r5, r6, r7, r8⟩ := box9 hx9
    obtain ⟨t0, t1, t2, t3, t4, t5, t6, t7, t8⟩ := box9 hy9
    go_wp2_with fail
    try rw [e9]
    refine bodyPost_ret (v := .tuple #[.agg #[.int .i64 0, .int .i64 0, .int .i64 0, .int .i64 0, .string ⟨#[]⟩, .slice none 0 0, .int .i64 0, .int .i64 0, .bool false], .agg #[.int .i64 0, .int .i64 0, .int .i64 0, .int .i64 0, .string ⟨#[]⟩, .slice none 0 0, .int .i64 0, .int .i64 0, .bool false], .int .i64 z]) (by simp [results, Tryz.results30, go_sem, r0, r1, r2, r3, r4, r5, r6, r7, r8, t0, t1, t2, t3, t4, t5, t6, t7, t8]) rfl ⟨none, 0, 0, none, 0, 0, rfl, ownF_nil _ _, ownF_nil _ _, hB9⟩
end Go.Proofs.YtmeciikfnbbllaaGreatDoor
