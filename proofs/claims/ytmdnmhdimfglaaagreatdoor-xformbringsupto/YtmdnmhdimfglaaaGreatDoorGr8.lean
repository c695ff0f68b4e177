import Derived.Test.YtmdnmhdimfglaaaGreatDoorGr12
import Derived.Test.YtmdnmhdimfglaaaGreatDoorGaI
namespace Go.Proofs.YtmdnmhdimfglaaaGreatDoor
open Go.RowKit Go.Lib
set_option maxRecDepth 100000
def ctxJ (p n : Int) : List Sth := withL 1 p n ctxL 0
theorem ctxJ_eq {p n : Int} (h0 : 0 ≤ p) (h1 : p ≤ 1048576) : ctxJ p n = preS (decide (0 < p)) (0, 0, p) ++ [(1, 0, n), (0, p, 2097152)] := by
  unfold ctxJ ctxL withL withL withOne
  rw [if_pos ⟨h0, by simp only [wid]; omega⟩]
  by_cases h : 0 < p
  · rw [if_pos h, decide_eq_true h, preS_t]
    simp
  · rw [if_neg h, decide_eq_false h, preS_f]
    simp
theorem ctxJ_ok {p n : Int} (h2 : 0 ≤ n) (h3 : n ≤ 4194304) : SthOk (ctxJ p n) := withL_ok ⟨h2, h3⟩ ctx_ok
def turnI (p n p2 n2 : Int) : List Sth := withL 2 p2 n2 (ctxJ p n) 0
theorem turn_place {p n p2 n2 : Int} (h0 : 0 ≤ p) (h1 : p ≤ 1048576) (h2 : 0 ≤ p2) (h3 : p2 ≤ 1048576) (hn : 0 < n) (hno : ¬ (p < p2 ∧ p2 < p + n)) : placeL 1 0 (turnI p n p2 n2) 0 = if p2 ≤ p then p + n2 else p := by
  unfold turnI
  rw [ctxJ_eq h0 h1]
  by_cases hp : 0 < p
  · rw [decide_eq_true hp, preS_t]
    simp only [List.cons_append, List.nil_append]
    by_cases q1 : p2 < p
    · rw [if_pos (by omega)]
      by_cases q2 : 0 < p2
      · rw [withL_one (wOne_in (by simp only [wid]; omega)) rfl, withL_one (wOne_no (by simp only [wid]; omega)) rfl]
        simp [placeL, hn]
        omega
      · obtain rfl : p2 = 0 := by omega
        rw [withL_one (wOne_at ⟨rfl, by simp only [wid]; omega⟩) rfl, withL_one (wOne_no (by simp only [wid]; omega)) rfl]
        simp [placeL, hn]
        omega
    · rw [withL_one (wOne_no (by simp only [wid]; omega)) rfl]
      by_cases q2 : p2 = p
      · subst q2
        rw [if_pos (by omega), withL_one (wOne_at (by simp only [wid]; omega)) rfl]
        simp [placeL, hn]
      · rw [if_neg (by omega), withL_one (wOne_no (by simp only [wid]; omega)) rfl]
        simp [placeL, hn]
  · obtain rfl : p = 0 := by omega
    rw [decide_eq_false hp, preS_f]
    simp only [List.nil_append]
    by_cases q2 : p2 = 0
    · subst q2
      rw [if_pos (by omega), withL_one (wOne_at ⟨rfl, by simp only [wid]; omega⟩) rfl]
      simp [placeL, hn]
    · rw [if_neg (by omega), withL_one (wOne_no (by simp only [wid]; omega)) rfl]
      simp [placeL, hn]
end Go.Proofs.YtmdnmhdimfglaaaGreatDoor

namespace Go.Proofs.YtmdnmhdimfglaaaGreatDoor
open Go.RowKit Go.Lib
set_option maxRecDepth 100000
set_option maxHeartbeats 4000000 in
theorem exclude_clash {o o2 : OpV} {a : Option Addr} {m cap : Nat} {b : Option Addr} {m2 cap2 : Nat} {w : World} (hcl : clashP o o2 = true) : Calls Tryz.prog 51 #[opVal o (.slice a m cap), opVal o2 (.slice b m2 cap2)] w fun e w' => Ans w (op0, 50) e w' := by
  have HIS : Hid (∀ W : World, Calls Tryz.prog 71 #[.agg #[.int .i64 o.c, .int .i64 o.n], .agg #[.int .i64 o2.c, .int .i64 o2.n]] W fun e w' => e = .returned (.bool true) ∧ Below W.heap.size W w') := fun W => by
    have := is_anyX o.c o.n o2.c o2.n W
    rw [show isB o.c o.n o2.c o2.n = true from hcl] at this
    exact this
  clear hcl
  obtain ⟨c, n, k, p, s, l, tc, tn, on⟩ := o
  obtain ⟨c2, n2, k2, p2, s2, l2, tc2, tn2, on2⟩ := o2
  unfold Ans
  simp only [opVal] at *
  obtain ⟨W0, hW0⟩ : ∃ W0, ((w.alloc (Obj.cells #[.int .i64 c, .int .i64 n, .int .i64 k, .int .i64 p, .string s, .slice a m cap, .int .i64 tc, .int .i64 tn, .bool on] 34)).alloc (Obj.cells #[.int .i64 c2, .int .i64 n2, .int .i64 k2, .int .i64 p2, .string s2, .slice b m2 cap2, .int .i64 tc2, .int .i64 tn2, .bool on2] 34)).alloc (Obj.cells #[.int .i64 0, .int .i64 0, .int .i64 0, .int .i64 0, .string ⟨#[]⟩, .slice none 0 0, .int .i64 0, .int .i64 0, .bool false] 34) = W0 := ⟨_, rfl⟩
  have hX : W0.heap[w.heap.size]? = some (Obj.cells #[.int .i64 c, .int .i64 n, .int .i64 k, .int .i64 p, .string s, .slice a m cap, .int .i64 tc, .int .i64 tn, .bool on] 34) := by rw [← hW0]; exact (Below.heap_alloc _ _ _ (by simp; omega)).trans ((Below.heap_alloc _ _ _ (by simp)).trans (heap_alloc_new _ _))
  have hY : W0.heap[w.heap.size + 1]? = some (Obj.cells #[.int .i64 c2, .int .i64 n2, .int .i64 k2, .int .i64 p2, .string s2, .slice b m2 cap2, .int .i64 tc2, .int .i64 tn2, .bool on2] 34) := by rw [← hW0]; exact (Below.heap_alloc _ _ _ (by simp)).trans (alloc_last _ _ _ (by simp))
  have hZ : W0.heap[w.heap.size + 2]? = some (Obj.cells #[.int .i64 0, .int .i64 0, .int .i64 0, .int .i64 0, .string ⟨#[]⟩, .slice none 0 0, .int .i64 0, .int .i64 0, .bool false] 34) := by rw [← hW0]; exact alloc_last _ _ _ (by simp)
  have hB0 : Below w.heap.size w W0 := by rw [← hW0]; exact (((Below.refl w.heap.size w).alloc (Nat.le_refl _) _).alloc (by simp) _).alloc (by simp; omega) _
  have alt : w.heap.size + 2 < W0.heap.size := (Array.getElem?_eq_some_iff.1 hZ).1
  obtain ⟨ak0, ak1, ak2, ak3, ak4, ak5, ak6, ak7, ak8⟩ := box9 hX
  obtain ⟨bk0, bk1, bk2, bk3, bk4, bk5, bk6, bk7, bk8⟩ := box9 hY
  obtain ⟨zk0, zk1, zk2, zk3, zk4, zk5, zk6, zk7, zk8⟩ := box9 hZ
  obtain ⟨zz0, zz1, zz2, zz3, zz4, zz5, zz6, zz7, zz8⟩ := wr9 hZ
  go_enter Tryz.func51, Tryz.ntmps51
  go_wp2_with fail
  refine (HIS.out _).mono ?_
  rintro e v1 ⟨rfl, hb1⟩
  have hX1 := (hb1.block _ (by omega)).trans hX
  have hY1 := (hb1.block _ (by omega)).trans hY
  have hZ1 := (hb1.block _ (by omega)).trans hZ
  have hB1 := hB0.trans (hb1.mono hB0.size)
  have alt1 : w.heap.size + 2 < v1.heap.size := (Array.getElem?_eq_some_iff.1 hZ1).1
  clear hb1 hX hY hZ hB0 alt ak0 ak1 ak2 ak3 ak4 ak5 ak6 ak7 ak8 bk0 bk1 bk2 bk3 bk4 bk5 bk6 bk7 bk8 zk0 zk1 zk2 zk3 zk4 zk5 zk6 zk7 zk8 zz0 zz1 zz2 zz3 zz4 zz5 zz6 zz7 zz8 HIS hW0
  obtain ⟨ak0, ak1, ak2, ak3, ak4, ak5, ak6, ak7, ak8⟩ := box9 hX1
  obtain ⟨bk0, bk1, bk2, bk3, bk4, bk5, bk6, bk7, bk8⟩ := box9 hY1
  obtain ⟨zk0, zk1, zk2, zk3, zk4, zk5, zk6, zk7, zk8⟩ := box9 hZ1
  obtain ⟨zz0, zz1, zz2, zz3, zz4, zz5, zz6, zz7, zz8⟩ := wr9 hZ1
  obtain ⟨W9, e9, hx9, hB9, hK9⟩ := store9 hZ1 hB1 (by omega) (.int .i64 0) (.int .i64 0) (.int .i64 0) (.int .i64 0) (.string ⟨#[]⟩) (.slice none 0 0) (.int .i64 0) (.int .i64 0) (.bool false)
  obtain ⟨r0, r1, r2, r3, r4, r5, r6, r7, r8⟩ := box9 hx9
  go_wp2_with fail
  try rw [e9]
  refine bodyPost_ret (v := .tuple #[.agg #[.int .i64 0, .int .i64 0, .int .i64 0, .int .i64 0, .string ⟨#[]⟩, .slice none 0 0, .int .i64 0, .int .i64 0, .bool false], .int .i64 50]) (by simp [results, Tryz.results51, go_sem, r0, r1, r2, r3, r4, r5, r6, r7, r8]) rfl ⟨none, 0, 0, rfl, ownF_nil _ _, hB9⟩
set_option maxHeartbeats 4000000 in
theorem exclude_target {o o2 : OpV} {a : Option Addr} {m cap : Nat} {b : Option Addr} {m2 cap2 : Nat} {w : World} (hcl : clashP o o2 = false) (hk : o.k = 4) (htg : isB o.tc o.tn o2.c o2.n = true) : Calls Tryz.prog 51 #[opVal o (.slice a m cap), opVal o2 (.slice b m2 cap2)] w fun e w' => Ans w (op0, 23) e w' := by
  obtain ⟨tg, htt⟩ : ∃ tg, true = tg := ⟨_, rfl⟩
  rw [htt] at htg
  have HIS : Hid (∀ W : World, Calls Tryz.prog 71 #[.agg #[.int .i64 o.c, .int .i64 o.n], .agg #[.int .i64 o2.c, .int .i64 o2.n]] W fun e w' => e = .returned (.bool false) ∧ Below W.heap.size W w') := fun W => by
    have := is_anyX o.c o.n o2.c o2.n W
    rw [show isB o.c o.n o2.c o2.n = false from hcl] at this
    exact this
  have HIT : Hid (∀ W : World, Calls Tryz.prog 71 #[.agg #[.int .i64 o.tc, .int .i64 o.tn], .agg #[.int .i64 o2.c, .int .i64 o2.n]] W fun e w' => e = .returned (.bool tg) ∧ Below W.heap.size W w') := fun W => by
    have := is_anyX o.tc o.tn o2.c o2.n W
    rw [htg] at this
    exact this
  clear hcl htg
  subst htt
  obtain ⟨c, n, k, p, s, l, tc, tn, on⟩ := o
  obtain ⟨c2, n2, k2, p2, s2, l2, tc2, tn2, on2⟩ := o2
  unfold Ans
  simp only [opVal] at *
  subst hk
  obtain ⟨W0, hW0⟩ : ∃ W0, ((w.alloc (Obj.cells #[.int .i64 c, .int .i64 n, .int .i64 4, .int .i64 p, .string s, .slice a m cap, .int .i64 tc, .int .i64 tn, .bool on] 34)).alloc (Obj.cells #[.int .i64 c2, .int .i64 n2, .int .i64 k2, .int .i64 p2, .string s2, .slice b m2 cap2, .int .i64 tc2, .int .i64 tn2, .bool on2] 34)).alloc (Obj.cells #[.int .i64 0, .int .i64 0, .int .i64 0, .int .i64 0, .string ⟨#[]⟩, .slice none 0 0, .int .i64 0, .int .i64 0, .bool false] 34) = W0 := ⟨_, rfl⟩
  have hX : W0.heap[w.heap.size]? = some (Obj.cells #[.int .i64 c, .int .i64 n, .int .i64 4, .int .i64 p, .string s, .slice a m cap, .int .i64 tc, .int .i64 tn, .bool on] 34) := by rw [← hW0]; exact (Below.heap_alloc _ _ _ (by simp; omega)).trans ((Below.heap_alloc _ _ _ (by simp)).trans (heap_alloc_new _ _))
  have hY : W0.heap[w.heap.size + 1]? = some (Obj.cells #[.int .i64 c2, .int .i64 n2, .int .i64 k2, .int .i64 p2, .string s2, .slice b m2 cap2, .int .i64 tc2, .int .i64 tn2, .bool on2] 34) := by rw [← hW0]; exact (Below.heap_alloc _ _ _ (by simp)).trans (alloc_last _ _ _ (by simp))
  have hZ : W0.heap[w.heap.size + 2]? = some (Obj.cells #[.int .i64 0, .int .i64 0, .int .i64 0, .int .i64 0, .string ⟨#[]⟩, .slice none 0 0, .int .i64 0, .int .i64 0, .bool false] 34) := by rw [← hW0]; exact alloc_last _ _ _ (by simp)
  have hB0 : Below w.heap.size w W0 := by rw [← hW0]; exact (((Below.refl w.heap.size w).alloc (Nat.le_refl _) _).alloc (by simp) _).alloc (by simp; omega) _
  have alt : w.heap.size + 2 < W0.heap.size := (Array.getElem?_eq_some_iff.1 hZ).1
  obtain ⟨ak0, ak1, ak2, ak3, ak4, ak5, ak6, ak7, ak8⟩ := box9 hX
  obtain ⟨bk0, bk1, bk2, bk3, bk4, bk5, bk6, bk7, bk8⟩ := box9 hY
  obtain ⟨zk0, zk1, zk2, zk3, zk4, zk5, zk6, zk7, zk8⟩ := box9 hZ
  obtain ⟨zz0, zz1, zz2, zz3, zz4, zz5, zz6, zz7, zz8⟩ := wr9 hZ
  go_enter Tryz.func51, Tryz.ntmps51
  go_wp2_with fail
  refine (HIS.out _).mono ?_
  rintro e v1 ⟨rfl, hb1⟩
  have hX1 := (hb1.block _ (by omega)).trans hX
  have hY1 := (hb1.block _ (by omega)).trans hY
  have hZ1 := (hb1.block _ (by omega)).trans hZ
  have hB1 := hB0.trans (hb1.mono hB0.size)
  have alt1 : w.heap.size + 2 < v1.heap.size := (Array.getElem?_eq_some_iff.1 hZ1).1
  clear hb1 hX hY hZ hB0 alt ak0 ak1 ak2 ak3 ak4 ak5 ak6 ak7 ak8 bk0 bk1 bk2 bk3 bk4 bk5 bk6 bk7 bk8 zk0 zk1 zk2 zk3 zk4 zk5 zk6 zk7 zk8 zz0 zz1 zz2 zz3 zz4 zz5 zz6 zz7 zz8 HIS hW0
  obtain ⟨ak0, ak1, ak2, ak3, ak4, ak5, ak6, ak7, ak8⟩ := box9 hX1
  obtain ⟨bk0, bk1, bk2, bk3, bk4, bk5, bk6, bk7, bk8⟩ := box9 hY1
  obtain ⟨zk0, zk1, zk2, zk3, zk4, zk5, zk6, zk7, zk8⟩ := box9 hZ1
  obtain ⟨zz0, zz1, zz2, zz3, zz4, zz5, zz6, zz7, zz8⟩ := wr9 hZ1
  go_wp2_with fail
  refine (HIT.out _).mono ?_
  rintro e v2 ⟨rfl, hb2⟩
  have hX2 := (hb2.block _ (by omega)).trans hX1
  have hY2 := (hb2.block _ (by omega)).trans hY1
  have hZ2 := (hb2.block _ (by omega)).trans hZ1
  have hB2 := hB1.trans (hb2.mono hB1.size)
  have alt2 : w.heap.size + 2 < v2.heap.size := (Array.getElem?_eq_some_iff.1 hZ2).1
  clear hb2 hX1 hY1 hZ1 hB1 alt1 ak0 ak1 ak2 ak3 ak4 ak5 ak6 ak7 ak8 bk0 bk1 bk2 bk3 bk4 bk5 bk6 bk7 bk8 zk0 zk1 zk2 zk3 zk4 zk5 zk6 zk7 zk8 zz0 zz1 zz2 zz3 zz4 zz5 zz6 zz7 zz8 HIT
  obtain ⟨ak0, ak1, ak2, ak3, ak4, ak5, ak6, ak7, ak8⟩ := box9 hX2
  obtain ⟨bk0, bk1, bk2, bk3, bk4, bk5, bk6, bk7, bk8⟩ := box9 hY2
  obtain ⟨zk0, zk1, zk2, zk3, zk4, zk5, zk6, zk7, zk8⟩ := box9 hZ2
  obtain ⟨zz0, zz1, zz2, zz3, zz4, zz5, zz6, zz7, zz8⟩ := wr9 hZ2
  obtain ⟨W9, e9, hx9, hB9, hK9⟩ := store9 hZ2 hB2 (by omega) (.int .i64 0) (.int .i64 0) (.int .i64 0) (.int .i64 0) (.string ⟨#[]⟩) (.slice none 0 0) (.int .i64 0) (.int .i64 0) (.bool false)
  obtain ⟨r0, r1, r2, r3, r4, r5, r6, r7, r8⟩ := box9 hx9
  go_wp2_with fail
  try rw [e9]
  refine bodyPost_ret (v := .tuple #[.agg #[.int .i64 0, .int .i64 0, .int .i64 0, .int .i64 0, .string ⟨#[]⟩, .slice none 0 0, .int .i64 0, .int .i64 0, .bool false], .int .i64 23]) (by simp [results, Tryz.results51, go_sem, r0, r1, r2, r3, r4, r5, r6, r7, r8]) rfl ⟨none, 0, 0, rfl, ownF_nil _ _, hB9⟩
set_option maxHeartbeats 4000000 in
theorem exclude_same {o o2 : OpV} {a : Option Addr} {m cap : Nat} {b : Option Addr} {m2 cap2 : Nat} {w : World} (hR : Sp.Rng w a m cap o.l) (hm : m ≤ 1000000000) (hcl : clashP o o2 = false) (tg : Bool) (htg : isB o.tc o.tn o2.c o2.n = tg) (hk : (o.k = 4 ∧ tg = false) ∨ (o.k ≠ 4 ∧ o2.k ≠ 1)) : Calls Tryz.prog 51 #[opVal o (.slice a m cap), opVal o2 (.slice b m2 cap2)] w fun e w' => Ans w (o, 0) e w' := by
  have HIS : Hid (∀ W : World, Calls Tryz.prog 71 #[.agg #[.int .i64 o.c, .int .i64 o.n], .agg #[.int .i64 o2.c, .int .i64 o2.n]] W fun e w' => e = .returned (.bool false) ∧ Below W.heap.size W w') := fun W => by
    have := is_anyX o.c o.n o2.c o2.n W
    rw [show isB o.c o.n o2.c o2.n = false from hcl] at this
    exact this
  have HIT : Hid (∀ W : World, Calls Tryz.prog 71 #[.agg #[.int .i64 o.tc, .int .i64 o.tn], .agg #[.int .i64 o2.c, .int .i64 o2.n]] W fun e w' => e = .returned (.bool tg) ∧ Below W.heap.size W w') := fun W => by
    have := is_anyX o.tc o.tn o2.c o2.n W
    rw [htg] at this
    exact this
  have HC : Hid (∀ W, Below w.heap.size w W → Calls Tryz.prog 22 #[opVal o (.slice a m cap)] W fun e w' => ∃ a' cap', e = .returned (opVal o (.slice a' m cap')) ∧ OwnF rangeV 2 91 w' W.heap.size (.slice a' m cap') o.l ∧ Below W.heap.size W w') := fun W hb => copy_any (hR.below hb) hm
  clear hcl hR hm htg
  obtain ⟨c, n, k, p, s, l, tc, tn, on⟩ := o
  obtain ⟨c2, n2, k2, p2, s2, l2, tc2, tn2, on2⟩ := o2
  unfold Ans
  simp only [opVal] at *
  obtain ⟨W0, hW0⟩ : ∃ W0, ((w.alloc (Obj.cells #[.int .i64 c, .int .i64 n, .int .i64 k, .int .i64 p, .string s, .slice a m cap, .int .i64 tc, .int .i64 tn, .bool on] 34)).alloc (Obj.cells #[.int .i64 c2, .int .i64 n2, .int .i64 k2, .int .i64 p2, .string s2, .slice b m2 cap2, .int .i64 tc2, .int .i64 tn2, .bool on2] 34)).alloc (Obj.cells #[.int .i64 0, .int .i64 0, .int .i64 0, .int .i64 0, .string ⟨#[]⟩, .slice none 0 0, .int .i64 0, .int .i64 0, .bool false] 34) = W0 := ⟨_, rfl⟩
  have hX : W0.heap[w.heap.size]? = some (Obj.cells #[.int .i64 c, .int .i64 n, .int .i64 k, .int .i64 p, .string s, .slice a m cap, .int .i64 tc, .int .i64 tn, .bool on] 34) := by rw [← hW0]; exact (Below.heap_alloc _ _ _ (by simp; omega)).trans ((Below.heap_alloc _ _ _ (by simp)).trans (heap_alloc_new _ _))
  have hY : W0.heap[w.heap.size + 1]? = some (Obj.cells #[.int .i64 c2, .int .i64 n2, .int .i64 k2, .int .i64 p2, .string s2, .slice b m2 cap2, .int .i64 tc2, .int .i64 tn2, .bool on2] 34) := by rw [← hW0]; exact (Below.heap_alloc _ _ _ (by simp)).trans (alloc_last _ _ _ (by simp))
  have hZ : W0.heap[w.heap.size + 2]? = some (Obj.cells #[.int .i64 0, .int .i64 0, .int .i64 0, .int .i64 0, .string ⟨#[]⟩, .slice none 0 0, .int .i64 0, .int .i64 0, .bool false] 34) := by rw [← hW0]; exact alloc_last _ _ _ (by simp)
  have hB0 : Below w.heap.size w W0 := by rw [← hW0]; exact (((Below.refl w.heap.size w).alloc (Nat.le_refl _) _).alloc (by simp) _).alloc (by simp; omega) _
  have alt : w.heap.size + 2 < W0.heap.size := (Array.getElem?_eq_some_iff.1 hZ).1
  obtain ⟨ak0, ak1, ak2, ak3, ak4, ak5, ak6, ak7, ak8⟩ := box9 hX
  obtain ⟨bk0, bk1, bk2, bk3, bk4, bk5, bk6, bk7, bk8⟩ := box9 hY
  obtain ⟨zk0, zk1, zk2, zk3, zk4, zk5, zk6, zk7, zk8⟩ := box9 hZ
  obtain ⟨zz0, zz1, zz2, zz3, zz4, zz5, zz6, zz7, zz8⟩ := wr9 hZ
  go_enter Tryz.func51, Tryz.ntmps51
  go_wp2_with fail
  refine (HIS.out _).mono ?_
  rintro e v1 ⟨rfl, hb1⟩
  have hX1 := (hb1.block _ (by omega)).trans hX
  have hY1 := (hb1.block _ (by omega)).trans hY
  have hZ1 := (hb1.block _ (by omega)).trans hZ
  have hB1 := hB0.trans (hb1.mono hB0.size)
  have alt1 : w.heap.size + 2 < v1.heap.size := (Array.getElem?_eq_some_iff.1 hZ1).1
  clear hb1 hX hY hZ hB0 alt ak0 ak1 ak2 ak3 ak4 ak5 ak6 ak7 ak8 bk0 bk1 bk2 bk3 bk4 bk5 bk6 bk7 bk8 zk0 zk1 zk2 zk3 zk4 zk5 zk6 zk7 zk8 zz0 zz1 zz2 zz3 zz4 zz5 zz6 zz7 zz8 HIS hW0
  obtain ⟨ak0, ak1, ak2, ak3, ak4, ak5, ak6, ak7, ak8⟩ := box9 hX1
  obtain ⟨bk0, bk1, bk2, bk3, bk4, bk5, bk6, bk7, bk8⟩ := box9 hY1
  obtain ⟨zk0, zk1, zk2, zk3, zk4, zk5, zk6, zk7, zk8⟩ := box9 hZ1
  obtain ⟨zz0, zz1, zz2, zz3, zz4, zz5, zz6, zz7, zz8⟩ := wr9 hZ1
  go_wp2_with fail
  refine (HIT.out _).mono ?_
  rintro e v2 ⟨rfl, hb2⟩
  have hX2 := (hb2.block _ (by omega)).trans hX1
  have hY2 := (hb2.block _ (by omega)).trans hY1
  have hZ2 := (hb2.block _ (by omega)).trans hZ1
  have hB2 := hB1.trans (hb2.mono hB1.size)
  have alt2 : w.heap.size + 2 < v2.heap.size := (Array.getElem?_eq_some_iff.1 hZ2).1
  clear hb2 hX1 hY1 hZ1 hB1 alt1 ak0 ak1 ak2 ak3 ak4 ak5 ak6 ak7 ak8 bk0 bk1 bk2 bk3 bk4 bk5 bk6 bk7 bk8 zk0 zk1 zk2 zk3 zk4 zk5 zk6 zk7 zk8 zz0 zz1 zz2 zz3 zz4 zz5 zz6 zz7 zz8 HIT
  obtain ⟨ak0, ak1, ak2, ak3, ak4, ak5, ak6, ak7, ak8⟩ := box9 hX2
  obtain ⟨bk0, bk1, bk2, bk3, bk4, bk5, bk6, bk7, bk8⟩ := box9 hY2
  obtain ⟨zk0, zk1, zk2, zk3, zk4, zk5, zk6, zk7, zk8⟩ := box9 hZ2
  obtain ⟨zz0, zz1, zz2, zz3, zz4, zz5, zz6, zz7, zz8⟩ := wr9 hZ2
  rcases hk with ⟨h4, htf⟩ | ⟨h4, h1⟩
  · subst h4 htf
    by_cases h1 : k2 = 1
    · subst h1
      go_wp2_with fail
      refine (HC.out _ hB2).mono ?_
      rintro e v3 ⟨ca, cc, rfl, ho3, hb3⟩
      have HO3 : Hid (OwnF rangeV 2 91 v3 v2.heap.size (.slice ca m cc) l) := ho3
      have hv2 : w.heap.size + 2 < v2.heap.size := alt2
      clear ho3
      have hX3 := (hb3.block _ (by omega)).trans hX2
      have hY3 := (hb3.block _ (by omega)).trans hY2
      have hZ3 := (hb3.block _ (by omega)).trans hZ2
      have hB3 := hB2.trans (hb3.mono hB2.size)
      have alt3 : w.heap.size + 2 < v3.heap.size := (Array.getElem?_eq_some_iff.1 hZ3).1
      clear hb3 hX2 hY2 hZ2 hB2 alt2 ak0 ak1 ak2 ak3 ak4 ak5 ak6 ak7 ak8 bk0 bk1 bk2 bk3 bk4 bk5 bk6 bk7 bk8 zk0 zk1 zk2 zk3 zk4 zk5 zk6 zk7 zk8 zz0 zz1 zz2 zz3 zz4 zz5 zz6 zz7 zz8 HC
      obtain ⟨ak0, ak1, ak2, ak3, ak4, ak5, ak6, ak7, ak8⟩ := box9 hX3
      obtain ⟨bk0, bk1, bk2, bk3, bk4, bk5, bk6, bk7, bk8⟩ := box9 hY3
      obtain ⟨zk0, zk1, zk2, zk3, zk4, zk5, zk6, zk7, zk8⟩ := box9 hZ3
      obtain ⟨zz0, zz1, zz2, zz3, zz4, zz5, zz6, zz7, zz8⟩ := wr9 hZ3
      obtain ⟨W9, e9, hx9, hB9, hK9⟩ := store9 hZ3 hB3 (by omega) (.int .i64 c) (.int .i64 n) (.int .i64 4) (.int .i64 p) (.string s) (.slice ca m cc) (.int .i64 tc) (.int .i64 tn) (.bool on)
      obtain ⟨r0, r1, r2, r3, r4, r5, r6, r7, r8⟩ := box9 hx9
      have HO9 : Hid (OwnF rangeV 2 91 W9 w.heap.size (.slice ca m cc) l) := (hK9.own HO3.out (by omega)).mono (by omega)
      clear HO3
      go_wp2_with fail
      try rw [e9]
      refine bodyPost_ret (v := .tuple #[.agg #[.int .i64 c, .int .i64 n, .int .i64 4, .int .i64 p, .string s, .slice ca m cc, .int .i64 tc, .int .i64 tn, .bool on], .int .i64 0]) (by simp [results, Tryz.results51, go_sem, r0, r1, r2, r3, r4, r5, r6, r7, r8]) rfl ⟨ca, m, cc, rfl, HO9.out, hB9⟩
    · have t1 : (k2 == 1) = false := beq_eq_false_iff_ne.2 h1
      have t2 : (k2 != 1) = true := by simp [bne, t1]
      have t3 : decide (k2 = 1) = false := decide_eq_false h1
      go_wp2_with fail
      refine (HC.out _ hB2).mono ?_
      rintro e v3 ⟨ca, cc, rfl, ho3, hb3⟩
      have HO3 : Hid (OwnF rangeV 2 91 v3 v2.heap.size (.slice ca m cc) l) := ho3
      have hv2 : w.heap.size + 2 < v2.heap.size := alt2
      clear ho3
      have hX3 := (hb3.block _ (by omega)).trans hX2
      have hY3 := (hb3.block _ (by omega)).trans hY2
      have hZ3 := (hb3.block _ (by omega)).trans hZ2
      have hB3 := hB2.trans (hb3.mono hB2.size)
      have alt3 : w.heap.size + 2 < v3.heap.size := (Array.getElem?_eq_some_iff.1 hZ3).1
      clear hb3 hX2 hY2 hZ2 hB2 alt2 ak0 ak1 ak2 ak3 ak4 ak5 ak6 ak7 ak8 bk0 bk1 bk2 bk3 bk4 bk5 bk6 bk7 bk8 zk0 zk1 zk2 zk3 zk4 zk5 zk6 zk7 zk8 zz0 zz1 zz2 zz3 zz4 zz5 zz6 zz7 zz8 HC
      obtain ⟨ak0, ak1, ak2, ak3, ak4, ak5, ak6, ak7, ak8⟩ := box9 hX3
      obtain ⟨bk0, bk1, bk2, bk3, bk4, bk5, bk6, bk7, bk8⟩ := box9 hY3
      obtain ⟨zk0, zk1, zk2, zk3, zk4, zk5, zk6, zk7, zk8⟩ := box9 hZ3
      obtain ⟨zz0, zz1, zz2, zz3, zz4, zz5, zz6, zz7, zz8⟩ := wr9 hZ3
      obtain ⟨W9, e9, hx9, hB9, hK9⟩ := store9 hZ3 hB3 (by omega) (.int .i64 c) (.int .i64 n) (.int .i64 4) (.int .i64 p) (.string s) (.slice ca m cc) (.int .i64 tc) (.int .i64 tn) (.bool on)
      obtain ⟨r0, r1, r2, r3, r4, r5, r6, r7, r8⟩ := box9 hx9
      have HO9 : Hid (OwnF rangeV 2 91 W9 w.heap.size (.slice ca m cc) l) := (hK9.own HO3.out (by omega)).mono (by omega)
      clear HO3
      go_wp2_with fail
      try rw [e9]
      refine bodyPost_ret (v := .tuple #[.agg #[.int .i64 c, .int .i64 n, .int .i64 4, .int .i64 p, .string s, .slice ca m cc, .int .i64 tc, .int .i64 tn, .bool on], .int .i64 0]) (by simp [results, Tryz.results51, go_sem, r0, r1, r2, r3, r4, r5, r6, r7, r8]) rfl ⟨ca, m, cc, rfl, HO9.out, hB9⟩
  · have t1 : (k2 == 1) = false := beq_eq_false_iff_ne.2 h1
    have t2 : (k2 != 1) = true := by simp [bne, t1]
    have t3 : decide (k2 = 1) = false := decide_eq_false h1
    have t4 : (k == 4) = false := beq_eq_false_iff_ne.2 h4
    have t5 : decide (k = 4) = false := decide_eq_false h4
    go_wp2_with fail
    refine (HC.out _ hB2).mono ?_
    rintro e v3 ⟨ca, cc, rfl, ho3, hb3⟩
    have HO3 : Hid (OwnF rangeV 2 91 v3 v2.heap.size (.slice ca m cc) l) := ho3
    have hv2 : w.heap.size + 2 < v2.heap.size := alt2
    clear ho3
    have hX3 := (hb3.block _ (by omega)).trans hX2
    have hY3 := (hb3.block _ (by omega)).trans hY2
    have hZ3 := (hb3.block _ (by omega)).trans hZ2
    have hB3 := hB2.trans (hb3.mono hB2.size)
    have alt3 : w.heap.size + 2 < v3.heap.size := (Array.getElem?_eq_some_iff.1 hZ3).1
    clear hb3 hX2 hY2 hZ2 hB2 alt2 ak0 ak1 ak2 ak3 ak4 ak5 ak6 ak7 ak8 bk0 bk1 bk2 bk3 bk4 bk5 bk6 bk7 bk8 zk0 zk1 zk2 zk3 zk4 zk5 zk6 zk7 zk8 zz0 zz1 zz2 zz3 zz4 zz5 zz6 zz7 zz8 HC
    obtain ⟨ak0, ak1, ak2, ak3, ak4, ak5, ak6, ak7, ak8⟩ := box9 hX3
    obtain ⟨bk0, bk1, bk2, bk3, bk4, bk5, bk6, bk7, bk8⟩ := box9 hY3
    obtain ⟨zk0, zk1, zk2, zk3, zk4, zk5, zk6, zk7, zk8⟩ := box9 hZ3
    obtain ⟨zz0, zz1, zz2, zz3, zz4, zz5, zz6, zz7, zz8⟩ := wr9 hZ3
    obtain ⟨W9, e9, hx9, hB9, hK9⟩ := store9 hZ3 hB3 (by omega) (.int .i64 c) (.int .i64 n) (.int .i64 k) (.int .i64 p) (.string s) (.slice ca m cc) (.int .i64 tc) (.int .i64 tn) (.bool on)
    obtain ⟨r0, r1, r2, r3, r4, r5, r6, r7, r8⟩ := box9 hx9
    have HO9 : Hid (OwnF rangeV 2 91 W9 w.heap.size (.slice ca m cc) l) := (hK9.own HO3.out (by omega)).mono (by omega)
    clear HO3
    go_wp2_with fail
    try rw [e9]
    refine bodyPost_ret (v := .tuple #[.agg #[.int .i64 c, .int .i64 n, .int .i64 k, .int .i64 p, .string s, .slice ca m cc, .int .i64 tc, .int .i64 tn, .bool on], .int .i64 0]) (by simp [results, Tryz.results51, go_sem, r0, r1, r2, r3, r4, r5, r6, r7, r8]) rfl ⟨ca, m, cc, rfl, HO9.out, hB9⟩
end Go.Proofs.YtmdnmhdimfglaaaGreatDoor
