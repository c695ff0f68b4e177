import Derived.Test.YtmdnmhdimfglaaaGreatDoorXjC
namespace Go.Proofs.YtmdnmhdimfglaaaGreatDoor
open Go.RowKit Go.Lib
set_option maxRecDepth 100000
set_option maxHeartbeats 16000000 in
theorem transpose_covE {o o2 : OpV} {a : Option Addr} {m cap : Nat} {b : Option Addr} {m2 cap2 : Nat} {w : World} {c4 n4 k4 p4 : Int} {s4 : ByteArray} {l4 : List (Int × Int)} {tc4 tn4 : Int} {on4 : Bool} {c5 n5 k5 p5 : Int} {s5 : ByteArray} {l5 : List (Int × Int)} {tc5 tn5 : Int} {on5 : Bool} {z5 : Int} (HEX : Hid (∀ W, Below w.heap.size w W → Calls Tryz.prog 51 #[opVal o2 (.slice b m2 cap2), opVal o (.slice a m cap)] W fun e w' => Ans W (⟨c4, n4, k4, p4, s4, l4, tc4, tn4, on4⟩, 0) e w')) (HIN : Hid (∀ W, Below w.heap.size w W → Calls Tryz.prog 49 #[opVal o (.slice a m cap), opVal o2 (.slice b m2 cap2), .bool false] W fun e w' => Ans W (⟨c5, n5, k5, p5, s5, l5, tc5, tn5, on5⟩, z5) e w')) (one : Bool) (hI1 : isB o.tc o.tn o2.tc o2.tn = one) (tgt : Bool) (hI2 : isB o.tc o.tn o2.c o2.n = tgt) (hk2 : o2.k = 1) (hk : o.k ≠ 4) (hk1 : o.k ≠ 1) (hz : z5 ≠ 0) : Calls Tryz.prog 52 #[opVal o (.slice a m cap), opVal o2 (.slice b m2 cap2)] w fun e w' => Ans2 w ((op0, op0), z5) e w' := by
  have I1 : Hid (∀ W : World, Calls Tryz.prog 71 #[.agg #[.int .i64 o.tc, .int .i64 o.tn], .agg #[.int .i64 o2.tc, .int .i64 o2.tn]] W fun e w' => e = .returned (.bool one) ∧ Below W.heap.size W w') := fun W => by
    have := is_anyX o.tc o.tn o2.tc o2.tn W
    rw [hI1] at this
    exact this
  have I2 : Hid (∀ W : World, Calls Tryz.prog 71 #[.agg #[.int .i64 o.tc, .int .i64 o.tn], .agg #[.int .i64 o2.c, .int .i64 o2.n]] W fun e w' => e = .returned (.bool tgt) ∧ Below W.heap.size W w') := fun W => by
    have := is_anyX o.tc o.tn o2.c o2.n W
    rw [hI2] at this
    exact this
  clear hI1 hI2
  obtain ⟨c, n, k, p, s, l, tc, tn, on⟩ := o
  obtain ⟨c2, n2, k2, p2, s2, l2, tc2, tn2, on2⟩ := o2
  unfold Ans2
  simp only [opVal, Ans] at *
  have t1 : (k == 4) = false := beq_eq_false_iff_ne.2 hk
  have t2 : decide (k = 4) = false := decide_eq_false hk
  have t3 : (k == 1) = false := beq_eq_false_iff_ne.2 hk1
  have t4 : (k != 1) = true := by simp [bne, t3]
  have t5 : decide (k = 1) = false := decide_eq_false hk1
  subst hk2
  have z1 : (z5 == 0) = false := beq_eq_false_iff_ne.2 hz
  have z2 : (z5 != 0) = true := by simp [bne, z1]
  have z3 : decide (z5 = 0) = false := decide_eq_false hz
  obtain ⟨v0, hW0⟩ : ∃ V, (((w.alloc (Obj.cells #[.int .i64 c, .int .i64 n, .int .i64 k, .int .i64 p, .string s, .slice a m cap, .int .i64 tc, .int .i64 tn, .bool on] 34)).alloc (Obj.cells #[.int .i64 c2, .int .i64 n2, .int .i64 1, .int .i64 p2, .string s2, .slice b m2 cap2, .int .i64 tc2, .int .i64 tn2, .bool on2] 34)).alloc (Obj.cells #[.int .i64 0, .int .i64 0, .int .i64 0, .int .i64 0, .string ⟨#[]⟩, .slice none 0 0, .int .i64 0, .int .i64 0, .bool false] 34)).alloc (Obj.cells #[.int .i64 0, .int .i64 0, .int .i64 0, .int .i64 0, .string ⟨#[]⟩, .slice none 0 0, .int .i64 0, .int .i64 0, .bool false] 34) = V := ⟨_, rfl⟩
  have hX0 : v0.heap[w.heap.size]? = some (Obj.cells #[.int .i64 c, .int .i64 n, .int .i64 k, .int .i64 p, .string s, .slice a m cap, .int .i64 tc, .int .i64 tn, .bool on] 34) := by rw [← hW0]; exact (Below.heap_alloc _ _ _ (by simp; omega)).trans ((Below.heap_alloc _ _ _ (by simp; omega)).trans ((Below.heap_alloc _ _ _ (by simp)).trans (heap_alloc_new _ _)))
  have hY0 : v0.heap[w.heap.size + 1]? = some (Obj.cells #[.int .i64 c2, .int .i64 n2, .int .i64 1, .int .i64 p2, .string s2, .slice b m2 cap2, .int .i64 tc2, .int .i64 tn2, .bool on2] 34) := by rw [← hW0]; exact (Below.heap_alloc _ _ _ (by first | (simp; done) | (simp; omega))).trans ((Below.heap_alloc _ _ _ (by simp)).trans (alloc_last _ _ _ (by simp)))
  have hZ0 : v0.heap[w.heap.size + 2]? = some (Obj.cells #[.int .i64 0, .int .i64 0, .int .i64 0, .int .i64 0, .string ⟨#[]⟩, .slice none 0 0, .int .i64 0, .int .i64 0, .bool false] 34) := by rw [← hW0]; exact (Below.heap_alloc _ _ _ (by simp)).trans (alloc_last _ _ _ (by simp))
  have hU0 : v0.heap[w.heap.size + 3]? = some (Obj.cells #[.int .i64 0, .int .i64 0, .int .i64 0, .int .i64 0, .string ⟨#[]⟩, .slice none 0 0, .int .i64 0, .int .i64 0, .bool false] 34) := by rw [← hW0]; exact alloc_last _ _ _ (by simp)
  have hB0 : Below w.heap.size w v0 := by rw [← hW0]; exact ((((Below.refl w.heap.size w).alloc (Nat.le_refl _) _).alloc (by simp) _).alloc (by simp; omega) _).alloc (by simp; omega) _
  have alt0 : w.heap.size + 3 < v0.heap.size := (Array.getElem?_eq_some_iff.1 hU0).1
  obtain ⟨ak0, ak1, ak2, ak3, ak4, ak5, ak6, ak7, ak8⟩ := box9 hX0
  obtain ⟨bk0, bk1, bk2, bk3, bk4, bk5, bk6, bk7, bk8⟩ := box9 hY0
  obtain ⟨yk0, yk1, yk2, yk3, yk4, yk5, yk6, yk7, yk8⟩ := box9 hZ0
  obtain ⟨zk0, zk1, zk2, zk3, zk4, zk5, zk6, zk7, zk8⟩ := box9 hU0
  obtain ⟨yy0, yy1, yy2, yy3, yy4, yy5, yy6, yy7, yy8⟩ := wr9 hZ0
  obtain ⟨zz0, zz1, zz2, zz3, zz4, zz5, zz6, zz7, zz8⟩ := wr9 hU0
  go_enter Tryz.func52, Tryz.ntmps52
  go_wp2_with fail
  refine (HEX.out _ hB0).mono ?_
  rintro e v1 ⟨xa, xm, xc, rfl, ho1, hb1⟩
  have hlo0 : w.heap.size + 3 < v0.heap.size := alt0
  have hX1 := (hb1.block _ (by omega)).trans hX0
  have hY1 := (hb1.block _ (by omega)).trans hY0
  have hZ1 := (hb1.block _ (by omega)).trans hZ0
  have hU1 := (hb1.block _ (by omega)).trans hU0
  have hB1 := hB0.trans (hb1.mono hB0.size)
  have alt1 : w.heap.size + 3 < v1.heap.size := (Array.getElem?_eq_some_iff.1 hU1).1
  clear hb1 hX0 hY0 hZ0 hU0 hB0 alt0  ak0 ak1 ak2 ak3 ak4 ak5 ak6 ak7 ak8 bk0 bk1 bk2 bk3 bk4 bk5 bk6 bk7 bk8 yk0 yk1 yk2 yk3 yk4 yk5 yk6 yk7 yk8 zk0 zk1 zk2 zk3 zk4 zk5 zk6 zk7 zk8 yy0 yy1 yy2 yy3 yy4 yy5 yy6 yy7 yy8 zz0 zz1 zz2 zz3 zz4 zz5 zz6 zz7 zz8 HEX hW0
  obtain ⟨ak0, ak1, ak2, ak3, ak4, ak5, ak6, ak7, ak8⟩ := box9 hX1
  obtain ⟨bk0, bk1, bk2, bk3, bk4, bk5, bk6, bk7, bk8⟩ := box9 hY1
  obtain ⟨yk0, yk1, yk2, yk3, yk4, yk5, yk6, yk7, yk8⟩ := box9 hZ1
  obtain ⟨zk0, zk1, zk2, zk3, zk4, zk5, zk6, zk7, zk8⟩ := box9 hU1
  obtain ⟨yy0, yy1, yy2, yy3, yy4, yy5, yy6, yy7, yy8⟩ := wr9 hZ1
  obtain ⟨zz0, zz1, zz2, zz3, zz4, zz5, zz6, zz7, zz8⟩ := wr9 hU1
  obtain ⟨v2, hv2⟩ : ∃ V, v1.alloc (Obj.cells #[.int .i64 c4, .int .i64 n4, .int .i64 k4, .int .i64 p4, .string s4, .slice xa xm xc, .int .i64 tc4, .int .i64 tn4, .bool on4] 34) = V := ⟨_, rfl⟩
  have hb2 : Below v1.heap.size v1 v2 := by rw [← hv2]; exact (Below.refl _ _).alloc (Nat.le_refl _) _
  have hS2 : v2.heap[v1.heap.size]? = some (Obj.cells #[.int .i64 c4, .int .i64 n4, .int .i64 k4, .int .i64 p4, .string s4, .slice xa xm xc, .int .i64 tc4, .int .i64 tn4, .bool on4] 34) := by rw [← hv2]; exact heap_alloc_new _ _
  have ho2 := ho1.below hb2
  have hlo1 : w.heap.size + 3 < v1.heap.size := alt1
  obtain ⟨sk0, sk1, sk2, sk3, sk4, sk5, sk6, sk7, sk8⟩ := box9 hS2
  clear ho1
  have hX2 := (hb2.block _ (by omega)).trans hX1
  have hY2 := (hb2.block _ (by omega)).trans hY1
  have hZ2 := (hb2.block _ (by omega)).trans hZ1
  have hU2 := (hb2.block _ (by omega)).trans hU1
  have hB2 := hB1.trans (hb2.mono hB1.size)
  have alt2 : w.heap.size + 3 < v2.heap.size := (Array.getElem?_eq_some_iff.1 hU2).1
  clear hb2 hX1 hY1 hZ1 hU1 hB1 alt1  ak0 ak1 ak2 ak3 ak4 ak5 ak6 ak7 ak8 bk0 bk1 bk2 bk3 bk4 bk5 bk6 bk7 bk8 yk0 yk1 yk2 yk3 yk4 yk5 yk6 yk7 yk8 zk0 zk1 zk2 zk3 zk4 zk5 zk6 zk7 zk8 yy0 yy1 yy2 yy3 yy4 yy5 yy6 yy7 yy8 zz0 zz1 zz2 zz3 zz4 zz5 zz6 zz7 zz8 
  obtain ⟨ak0, ak1, ak2, ak3, ak4, ak5, ak6, ak7, ak8⟩ := box9 hX2
  obtain ⟨bk0, bk1, bk2, bk3, bk4, bk5, bk6, bk7, bk8⟩ := box9 hY2
  obtain ⟨yk0, yk1, yk2, yk3, yk4, yk5, yk6, yk7, yk8⟩ := box9 hZ2
  obtain ⟨zk0, zk1, zk2, zk3, zk4, zk5, zk6, zk7, zk8⟩ := box9 hU2
  obtain ⟨yy0, yy1, yy2, yy3, yy4, yy5, yy6, yy7, yy8⟩ := wr9 hZ2
  obtain ⟨zz0, zz1, zz2, zz3, zz4, zz5, zz6, zz7, zz8⟩ := wr9 hU2
  go_wp2_with fail
  refine (I1.out _).mono ?_
  rintro e v3 ⟨rfl, hb3⟩
  have ho3 := ho2.below hb3
  clear sk0 sk1 sk2 sk3 sk4 sk5 sk6 sk7 sk8 ho2
  have hX3 := (hb3.block _ (by omega)).trans hX2
  have hY3 := (hb3.block _ (by omega)).trans hY2
  have hZ3 := (hb3.block _ (by omega)).trans hZ2
  have hU3 := (hb3.block _ (by omega)).trans hU2
  have hS3 := (hb3.block _ (Array.getElem?_eq_some_iff.1 hS2).1).trans hS2
  have hB3 := hB2.trans (hb3.mono hB2.size)
  have alt3 : w.heap.size + 3 < v3.heap.size := (Array.getElem?_eq_some_iff.1 hU3).1
  clear hb3 hX2 hY2 hZ2 hU2 hB2 alt2 hS2 ak0 ak1 ak2 ak3 ak4 ak5 ak6 ak7 ak8 bk0 bk1 bk2 bk3 bk4 bk5 bk6 bk7 bk8 yk0 yk1 yk2 yk3 yk4 yk5 yk6 yk7 yk8 zk0 zk1 zk2 zk3 zk4 zk5 zk6 zk7 zk8 yy0 yy1 yy2 yy3 yy4 yy5 yy6 yy7 yy8 zz0 zz1 zz2 zz3 zz4 zz5 zz6 zz7 zz8 I1 
  obtain ⟨ak0, ak1, ak2, ak3, ak4, ak5, ak6, ak7, ak8⟩ := box9 hX3
  obtain ⟨bk0, bk1, bk2, bk3, bk4, bk5, bk6, bk7, bk8⟩ := box9 hY3
  obtain ⟨yk0, yk1, yk2, yk3, yk4, yk5, yk6, yk7, yk8⟩ := box9 hZ3
  obtain ⟨zk0, zk1, zk2, zk3, zk4, zk5, zk6, zk7, zk8⟩ := box9 hU3
  obtain ⟨yy0, yy1, yy2, yy3, yy4, yy5, yy6, yy7, yy8⟩ := wr9 hZ3
  obtain ⟨zz0, zz1, zz2, zz3, zz4, zz5, zz6, zz7, zz8⟩ := wr9 hU3
  obtain ⟨sk0, sk1, sk2, sk3, sk4, sk5, sk6, sk7, sk8⟩ := box9 hS3
  go_wp2_with fail
  refine (I2.out _).mono ?_
  rintro e v4 ⟨rfl, hb4⟩
  have ho4 := ho3.below hb4
  clear sk0 sk1 sk2 sk3 sk4 sk5 sk6 sk7 sk8 ho3
  have hX4 := (hb4.block _ (by omega)).trans hX3
  have hY4 := (hb4.block _ (by omega)).trans hY3
  have hZ4 := (hb4.block _ (by omega)).trans hZ3
  have hU4 := (hb4.block _ (by omega)).trans hU3
  have hS4 := (hb4.block _ (Array.getElem?_eq_some_iff.1 hS3).1).trans hS3
  have hB4 := hB3.trans (hb4.mono hB3.size)
  have alt4 : w.heap.size + 3 < v4.heap.size := (Array.getElem?_eq_some_iff.1 hU4).1
  clear hb4 hX3 hY3 hZ3 hU3 hB3 alt3 hS3 ak0 ak1 ak2 ak3 ak4 ak5 ak6 ak7 ak8 bk0 bk1 bk2 bk3 bk4 bk5 bk6 bk7 bk8 yk0 yk1 yk2 yk3 yk4 yk5 yk6 yk7 yk8 zk0 zk1 zk2 zk3 zk4 zk5 zk6 zk7 zk8 yy0 yy1 yy2 yy3 yy4 yy5 yy6 yy7 yy8 zz0 zz1 zz2 zz3 zz4 zz5 zz6 zz7 zz8 I2 
  obtain ⟨ak0, ak1, ak2, ak3, ak4, ak5, ak6, ak7, ak8⟩ := box9 hX4
  obtain ⟨bk0, bk1, bk2, bk3, bk4, bk5, bk6, bk7, bk8⟩ := box9 hY4
  obtain ⟨yk0, yk1, yk2, yk3, yk4, yk5, yk6, yk7, yk8⟩ := box9 hZ4
  obtain ⟨zk0, zk1, zk2, zk3, zk4, zk5, zk6, zk7, zk8⟩ := box9 hU4
  obtain ⟨yy0, yy1, yy2, yy3, yy4, yy5, yy6, yy7, yy8⟩ := wr9 hZ4
  obtain ⟨zz0, zz1, zz2, zz3, zz4, zz5, zz6, zz7, zz8⟩ := wr9 hU4
  obtain ⟨sk0, sk1, sk2, sk3, sk4, sk5, sk6, sk7, sk8⟩ := box9 hS4
  go_wp2_with fail
  refine (HIN.out _ hB4).mono ?_
  rintro e v5 ⟨ya, ym, yc, rfl, hoy5, hb5⟩
  have ho5 := ho4.below hb5
  have hlo4 : w.heap.size + 3 < v4.heap.size := alt4
  clear sk0 sk1 sk2 sk3 sk4 sk5 sk6 sk7 sk8 ho4
  have hX5 := (hb5.block _ (by omega)).trans hX4
  have hY5 := (hb5.block _ (by omega)).trans hY4
  have hZ5 := (hb5.block _ (by omega)).trans hZ4
  have hU5 := (hb5.block _ (by omega)).trans hU4
  have hS5 := (hb5.block _ (Array.getElem?_eq_some_iff.1 hS4).1).trans hS4
  have hB5 := hB4.trans (hb5.mono hB4.size)
  have alt5 : w.heap.size + 3 < v5.heap.size := (Array.getElem?_eq_some_iff.1 hU5).1
  clear hb5 hX4 hY4 hZ4 hU4 hB4 alt4 hS4 ak0 ak1 ak2 ak3 ak4 ak5 ak6 ak7 ak8 bk0 bk1 bk2 bk3 bk4 bk5 bk6 bk7 bk8 yk0 yk1 yk2 yk3 yk4 yk5 yk6 yk7 yk8 zk0 zk1 zk2 zk3 zk4 zk5 zk6 zk7 zk8 yy0 yy1 yy2 yy3 yy4 yy5 yy6 yy7 yy8 zz0 zz1 zz2 zz3 zz4 zz5 zz6 zz7 zz8 HIN
  obtain ⟨ak0, ak1, ak2, ak3, ak4, ak5, ak6, ak7, ak8⟩ := box9 hX5
  obtain ⟨bk0, bk1, bk2, bk3, bk4, bk5, bk6, bk7, bk8⟩ := box9 hY5
  obtain ⟨yk0, yk1, yk2, yk3, yk4, yk5, yk6, yk7, yk8⟩ := box9 hZ5
  obtain ⟨zk0, zk1, zk2, zk3, zk4, zk5, zk6, zk7, zk8⟩ := box9 hU5
  obtain ⟨yy0, yy1, yy2, yy3, yy4, yy5, yy6, yy7, yy8⟩ := wr9 hZ5
  obtain ⟨zz0, zz1, zz2, zz3, zz4, zz5, zz6, zz7, zz8⟩ := wr9 hU5
  obtain ⟨v6, hv6⟩ : ∃ V, v5.alloc (Obj.cells #[.int .i64 c5, .int .i64 n5, .int .i64 k5, .int .i64 p5, .string s5, .slice ya ym yc, .int .i64 tc5, .int .i64 tn5, .bool on5] 34) = V := ⟨_, rfl⟩
  have hb6 : Below v5.heap.size v5 v6 := by rw [← hv6]; exact (Below.refl _ _).alloc (Nat.le_refl _) _
  have hT6 : v6.heap[v5.heap.size]? = some (Obj.cells #[.int .i64 c5, .int .i64 n5, .int .i64 k5, .int .i64 p5, .string s5, .slice ya ym yc, .int .i64 tc5, .int .i64 tn5, .bool on5] 34) := by rw [← hv6]; exact heap_alloc_new _ _
  have ho6 := ho5.below hb6
  have hoy6 := hoy5.below hb6
  have hlo5 : w.heap.size + 3 < v5.heap.size := alt5
  clear ho5 hoy5
  have hX6 := (hb6.block _ (by omega)).trans hX5
  have hY6 := (hb6.block _ (by omega)).trans hY5
  have hZ6 := (hb6.block _ (by omega)).trans hZ5
  have hU6 := (hb6.block _ (by omega)).trans hU5
  have hS6 := (hb6.block _ (Array.getElem?_eq_some_iff.1 hS5).1).trans hS5
  have hB6 := hB5.trans (hb6.mono hB5.size)
  have alt6 : w.heap.size + 3 < v6.heap.size := (Array.getElem?_eq_some_iff.1 hU6).1
  clear hb6 hX5 hY5 hZ5 hU5 hB5 alt5 hS5 ak0 ak1 ak2 ak3 ak4 ak5 ak6 ak7 ak8 bk0 bk1 bk2 bk3 bk4 bk5 bk6 bk7 bk8 yk0 yk1 yk2 yk3 yk4 yk5 yk6 yk7 yk8 zk0 zk1 zk2 zk3 zk4 zk5 zk6 zk7 zk8 yy0 yy1 yy2 yy3 yy4 yy5 yy6 yy7 yy8 zz0 zz1 zz2 zz3 zz4 zz5 zz6 zz7 zz8 
  obtain ⟨ak0, ak1, ak2, ak3, ak4, ak5, ak6, ak7, ak8⟩ := box9 hX6
  obtain ⟨bk0, bk1, bk2, bk3, bk4, bk5, bk6, bk7, bk8⟩ := box9 hY6
  obtain ⟨yk0, yk1, yk2, yk3, yk4, yk5, yk6, yk7, yk8⟩ := box9 hZ6
  obtain ⟨zk0, zk1, zk2, zk3, zk4, zk5, zk6, zk7, zk8⟩ := box9 hU6
  obtain ⟨yy0, yy1, yy2, yy3, yy4, yy5, yy6, yy7, yy8⟩ := wr9 hZ6
  obtain ⟨zz0, zz1, zz2, zz3, zz4, zz5, zz6, zz7, zz8⟩ := wr9 hU6
  clear ho6 hoy6
  obtain ⟨W8, e8, hx8, hB8, hK8⟩ := store9 hZ6 hB6 (by omega) (.int .i64 0) (.int .i64 0) (.int .i64 0) (.int .i64 0) (.string ⟨#[]⟩) (.slice none 0 0) (.int .i64 0) (.int .i64 0) (.bool false)
  have hU8 := hK8.block hU6 (by omega)
  obtain ⟨q0, q1, q2, q3, q4, q5, q6, q7, q8⟩ := box9 hU8
  obtain ⟨qz0, qz1, qz2, qz3, qz4, qz5, qz6, qz7, qz8⟩ := wr9 hU8
  obtain ⟨W9, e9, hx9, hB9, hK9⟩ := store9 hU8 hB8 (by omega) (.int .i64 0) (.int .i64 0) (.int .i64 0) (.int .i64 0) (.string ⟨#[]⟩) (.slice none 0 0) (.int .i64 0) (.int .i64 0) (.bool false)
  have hy9 := hK9.block hx8 (by omega)
  obtain ⟨r0, r1, r2, r3, r4, r5, r6, r7, r8⟩ := box9 hx9
  obtain ⟨t0, t1, t2, t3, t4, t5, t6, t7, t8⟩ := box9 hy9
  go_wp2_with fail
  try rw [e9]
  refine bodyPost_ret (v := .tuple #[.agg #[.int .i64 0, .int .i64 0, .int .i64 0, .int .i64 0, .string ⟨#[]⟩, .slice none 0 0, .int .i64 0, .int .i64 0, .bool false], .agg #[.int .i64 0, .int .i64 0, .int .i64 0, .int .i64 0, .string ⟨#[]⟩, .slice none 0 0, .int .i64 0, .int .i64 0, .bool false], .int .i64 z5]) (by simp [results, Tryz.results52, go_sem, r0, r1, r2, r3, r4, r5, r6, r7, r8, t0, t1, t2, t3, t4, t5, t6, t7, t8]) rfl ⟨none, 0, 0, none, 0, 0, rfl, ownF_nil _ _, ownF_nil _ _, hB9⟩
set_option maxHeartbeats 16000000 in
theorem transpose_cov {o o2 : OpV} {a : Option Addr} {m cap : Nat} {b : Option Addr} {m2 cap2 : Nat} {w : World} {c4 n4 k4 p4 : Int} {s4 : ByteArray} {l4 : List (Int × Int)} {tc4 tn4 : Int} {on4 : Bool} {c5 n5 k5 p5 : Int} {s5 : ByteArray} {l5 : List (Int × Int)} {tc5 tn5 : Int} {on5 : Bool} (HEX : Hid (∀ W, Below w.heap.size w W → Calls Tryz.prog 51 #[opVal o2 (.slice b m2 cap2), opVal o (.slice a m cap)] W fun e w' => Ans W (⟨c4, n4, k4, p4, s4, l4, tc4, tn4, on4⟩, 0) e w')) (HIN : Hid (∀ W, Below w.heap.size w W → Calls Tryz.prog 49 #[opVal o (.slice a m cap), opVal o2 (.slice b m2 cap2), .bool false] W fun e w' => Ans W (⟨c5, n5, k5, p5, s5, l5, tc5, tn5, on5⟩, 0) e w')) (one : Bool) (hI1 : isB o.tc o.tn o2.tc o2.tn = one) (tgt : Bool) (hI2 : isB o.tc o.tn o2.c o2.n = tgt) (hk2 : o2.k = 1) (hk : o.k ≠ 4) (hk1 : o.k ≠ 1) : Calls Tryz.prog 52 #[opVal o (.slice a m cap), opVal o2 (.slice b m2 cap2)] w fun e w' => Ans2 w ((⟨c4, n4, k4, p4, s4, l4, tc4, tn4, on4⟩, ⟨c5, n5, k5, p5, s5, l5, tc5, tn5, on5⟩), 0) e w' := by
  have I1 : Hid (∀ W : World, Calls Tryz.prog 71 #[.agg #[.int .i64 o.tc, .int .i64 o.tn], .agg #[.int .i64 o2.tc, .int .i64 o2.tn]] W fun e w' => e = .returned (.bool one) ∧ Below W.heap.size W w') := fun W => by
    have := is_anyX o.tc o.tn o2.tc o2.tn W
    rw [hI1] at this
    exact this
  have I2 : Hid (∀ W : World, Calls Tryz.prog 71 #[.agg #[.int .i64 o.tc, .int .i64 o.tn], .agg #[.int .i64 o2.c, .int .i64 o2.n]] W fun e w' => e = .returned (.bool tgt) ∧ Below W.heap.size W w') := fun W => by
    have := is_anyX o.tc o.tn o2.c o2.n W
    rw [hI2] at this
    exact this
  clear hI1 hI2
  obtain ⟨c, n, k, p, s, l, tc, tn, on⟩ := o
  obtain ⟨c2, n2, k2, p2, s2, l2, tc2, tn2, on2⟩ := o2
  unfold Ans2
  simp only [opVal, Ans] at *
  have t1 : (k == 4) = false := beq_eq_false_iff_ne.2 hk
  have t2 : decide (k = 4) = false := decide_eq_false hk
  have t3 : (k == 1) = false := beq_eq_false_iff_ne.2 hk1
  have t4 : (k != 1) = true := by simp [bne, t3]
  have t5 : decide (k = 1) = false := decide_eq_false hk1
  subst hk2
  obtain ⟨v0, hW0⟩ : ∃ V, (((w.alloc (Obj.cells #[.int .i64 c, .int .i64 n, .int .i64 k, .int .i64 p, .string s, .slice a m cap, .int .i64 tc, .int .i64 tn, .bool on] 34)).alloc (Obj.cells #[.int .i64 c2, .int .i64 n2, .int .i64 1, .int .i64 p2, .string s2, .slice b m2 cap2, .int .i64 tc2, .int .i64 tn2, .bool on2] 34)).alloc (Obj.cells #[.int .i64 0, .int .i64 0, .int .i64 0, .int .i64 0, .string ⟨#[]⟩, .slice none 0 0, .int .i64 0, .int .i64 0, .bool false] 34)).alloc (Obj.cells #[.int .i64 0, .int .i64 0, .int .i64 0, .int .i64 0, .string ⟨#[]⟩, .slice none 0 0, .int .i64 0, .int .i64 0, .bool false] 34) = V := ⟨_, rfl⟩
  have hX0 : v0.heap[w.heap.size]? = some (Obj.cells #[.int .i64 c, .int .i64 n, .int .i64 k, .int .i64 p, .string s, .slice a m cap, .int .i64 tc, .int .i64 tn, .bool on] 34) := by rw [← hW0]; exact (Below.heap_alloc _ _ _ (by simp; omega)).trans ((Below.heap_alloc _ _ _ (by simp; omega)).trans ((Below.heap_alloc _ _ _ (by simp)).trans (heap_alloc_new _ _)))
  have hY0 : v0.heap[w.heap.size + 1]? = some (Obj.cells #[.int .i64 c2, .int .i64 n2, .int .i64 1, .int .i64 p2, .string s2, .slice b m2 cap2, .int .i64 tc2, .int .i64 tn2, .bool on2] 34) := by rw [← hW0]; exact (Below.heap_alloc _ _ _ (by first | (simp; done) | (simp; omega))).trans ((Below.heap_alloc _ _ _ (by simp)).trans (alloc_last _ _ _ (by simp)))
  have hZ0 : v0.heap[w.heap.size + 2]? = some (Obj.cells #[.int .i64 0, .int .i64 0, .int .i64 0, .int .i64 0, .string ⟨#[]⟩, .slice none 0 0, .int .i64 0, .int .i64 0, .bool false] 34) := by rw [← hW0]; exact (Below.heap_alloc _ _ _ (by simp)).trans (alloc_last _ _ _ (by simp))
  have hU0 : v0.heap[w.heap.size + 3]? = some (Obj.cells #[.int .i64 0, .int .i64 0, .int .i64 0, .int .i64 0, .string ⟨#[]⟩, .slice none 0 0, .int .i64 0, .int .i64 0, .bool false] 34) := by rw [← hW0]; exact alloc_last _ _ _ (by simp)
  have hB0 : Below w.heap.size w v0 := by rw [← hW0]; exact ((((Below.refl w.heap.size w).alloc (Nat.le_refl _) _).alloc (by simp) _).alloc (by simp; omega) _).alloc (by simp; omega) _
  have alt0 : w.heap.size + 3 < v0.heap.size := (Array.getElem?_eq_some_iff.1 hU0).1
  obtain ⟨ak0, ak1, ak2, ak3, ak4, ak5, ak6, ak7, ak8⟩ := box9 hX0
  obtain ⟨bk0, bk1, bk2, bk3, bk4, bk5, bk6, bk7, bk8⟩ := box9 hY0
  obtain ⟨yk0, yk1, yk2, yk3, yk4, yk5, yk6, yk7, yk8⟩ := box9 hZ0
  obtain ⟨zk0, zk1, zk2, zk3, zk4, zk5, zk6, zk7, zk8⟩ := box9 hU0
  obtain ⟨yy0, yy1, yy2, yy3, yy4, yy5, yy6, yy7, yy8⟩ := wr9 hZ0
  obtain ⟨zz0, zz1, zz2, zz3, zz4, zz5, zz6, zz7, zz8⟩ := wr9 hU0
  go_enter Tryz.func52, Tryz.ntmps52
  go_wp2_with fail
  refine (HEX.out _ hB0).mono ?_
  rintro e v1 ⟨xa, xm, xc, rfl, ho1, hb1⟩
  have hlo0 : w.heap.size + 3 < v0.heap.size := alt0
  have hX1 := (hb1.block _ (by omega)).trans hX0
  have hY1 := (hb1.block _ (by omega)).trans hY0
  have hZ1 := (hb1.block _ (by omega)).trans hZ0
  have hU1 := (hb1.block _ (by omega)).trans hU0
  have hB1 := hB0.trans (hb1.mono hB0.size)
  have alt1 : w.heap.size + 3 < v1.heap.size := (Array.getElem?_eq_some_iff.1 hU1).1
  clear hb1 hX0 hY0 hZ0 hU0 hB0 alt0  ak0 ak1 ak2 ak3 ak4 ak5 ak6 ak7 ak8 bk0 bk1 bk2 bk3 bk4 bk5 bk6 bk7 bk8 yk0 yk1 yk2 yk3 yk4 yk5 yk6 yk7 yk8 zk0 zk1 zk2 zk3 zk4 zk5 zk6 zk7 zk8 yy0 yy1 yy2 yy3 yy4 yy5 yy6 yy7 yy8 zz0 zz1 zz2 zz3 zz4 zz5 zz6 zz7 zz8 HEX hW0
  obtain ⟨ak0, ak1, ak2, ak3, ak4, ak5, ak6, ak7, ak8⟩ := box9 hX1
  obtain ⟨bk0, bk1, bk2, bk3, bk4, bk5, bk6, bk7, bk8⟩ := box9 hY1
  obtain ⟨yk0, yk1, yk2, yk3, yk4, yk5, yk6, yk7, yk8⟩ := box9 hZ1
  obtain ⟨zk0, zk1, zk2, zk3, zk4, zk5, zk6, zk7, zk8⟩ := box9 hU1
  obtain ⟨yy0, yy1, yy2, yy3, yy4, yy5, yy6, yy7, yy8⟩ := wr9 hZ1
  obtain ⟨zz0, zz1, zz2, zz3, zz4, zz5, zz6, zz7, zz8⟩ := wr9 hU1
  obtain ⟨v2, hv2⟩ : ∃ V, v1.alloc (Obj.cells #[.int .i64 c4, .int .i64 n4, .int .i64 k4, .int .i64 p4, .string s4, .slice xa xm xc, .int .i64 tc4, .int .i64 tn4, .bool on4] 34) = V := ⟨_, rfl⟩
  have hb2 : Below v1.heap.size v1 v2 := by rw [← hv2]; exact (Below.refl _ _).alloc (Nat.le_refl _) _
  have hS2 : v2.heap[v1.heap.size]? = some (Obj.cells #[.int .i64 c4, .int .i64 n4, .int .i64 k4, .int .i64 p4, .string s4, .slice xa xm xc, .int .i64 tc4, .int .i64 tn4, .bool on4] 34) := by rw [← hv2]; exact heap_alloc_new _ _
  have ho2 := ho1.below hb2
  have hlo1 : w.heap.size + 3 < v1.heap.size := alt1
  obtain ⟨sk0, sk1, sk2, sk3, sk4, sk5, sk6, sk7, sk8⟩ := box9 hS2
  clear ho1
  have hX2 := (hb2.block _ (by omega)).trans hX1
  have hY2 := (hb2.block _ (by omega)).trans hY1
  have hZ2 := (hb2.block _ (by omega)).trans hZ1
  have hU2 := (hb2.block _ (by omega)).trans hU1
  have hB2 := hB1.trans (hb2.mono hB1.size)
  have alt2 : w.heap.size + 3 < v2.heap.size := (Array.getElem?_eq_some_iff.1 hU2).1
  clear hb2 hX1 hY1 hZ1 hU1 hB1 alt1  ak0 ak1 ak2 ak3 ak4 ak5 ak6 ak7 ak8 bk0 bk1 bk2 bk3 bk4 bk5 bk6 bk7 bk8 yk0 yk1 yk2 yk3 yk4 yk5 yk6 yk7 yk8 zk0 zk1 zk2 zk3 zk4 zk5 zk6 zk7 zk8 yy0 yy1 yy2 yy3 yy4 yy5 yy6 yy7 yy8 zz0 zz1 zz2 zz3 zz4 zz5 zz6 zz7 zz8 
  obtain ⟨ak0, ak1, ak2, ak3, ak4, ak5, ak6, ak7, ak8⟩ := box9 hX2
  obtain ⟨bk0, bk1, bk2, bk3, bk4, bk5, bk6, bk7, bk8⟩ := box9 hY2
  obtain ⟨yk0, yk1, yk2, yk3, yk4, yk5, yk6, yk7, yk8⟩ := box9 hZ2
  obtain ⟨zk0, zk1, zk2, zk3, zk4, zk5, zk6, zk7, zk8⟩ := box9 hU2
  obtain ⟨yy0, yy1, yy2, yy3, yy4, yy5, yy6, yy7, yy8⟩ := wr9 hZ2
  obtain ⟨zz0, zz1, zz2, zz3, zz4, zz5, zz6, zz7, zz8⟩ := wr9 hU2
  go_wp2_with fail
  refine (I1.out _).mono ?_
  rintro e v3 ⟨rfl, hb3⟩
  have ho3 := ho2.below hb3
  clear sk0 sk1 sk2 sk3 sk4 sk5 sk6 sk7 sk8 ho2
  have hX3 := (hb3.block _ (by omega)).trans hX2
  have hY3 := (hb3.block _ (by omega)).trans hY2
  have hZ3 := (hb3.block _ (by omega)).trans hZ2
  have hU3 := (hb3.block _ (by omega)).trans hU2
  have hS3 := (hb3.block _ (Array.getElem?_eq_some_iff.1 hS2).1).trans hS2
  have hB3 := hB2.trans (hb3.mono hB2.size)
  have alt3 : w.heap.size + 3 < v3.heap.size := (Array.getElem?_eq_some_iff.1 hU3).1
  clear hb3 hX2 hY2 hZ2 hU2 hB2 alt2 hS2 ak0 ak1 ak2 ak3 ak4 ak5 ak6 ak7 ak8 bk0 bk1 bk2 bk3 bk4 bk5 bk6 bk7 bk8 yk0 yk1 yk2 yk3 yk4 yk5 yk6 yk7 yk8 zk0 zk1 zk2 zk3 zk4 zk5 zk6 zk7 zk8 yy0 yy1 yy2 yy3 yy4 yy5 yy6 yy7 yy8 zz0 zz1 zz2 zz3 zz4 zz5 zz6 zz7 zz8 I1 
  obtain ⟨ak0, ak1, ak2, ak3, ak4, ak5, ak6, ak7, ak8⟩ := box9 hX3
  obtain ⟨bk0, bk1, bk2, bk3, bk4, bk5, bk6, bk7, bk8⟩ := box9 hY3
  obtain ⟨yk0, yk1, yk2, yk3, yk4, yk5, yk6, yk7, yk8⟩ := box9 hZ3
  obtain ⟨zk0, zk1, zk2, zk3, zk4, zk5, zk6, zk7, zk8⟩ := box9 hU3
  obtain ⟨yy0, yy1, yy2, yy3, yy4, yy5, yy6, yy7, yy8⟩ := wr9 hZ3
  obtain ⟨zz0, zz1, zz2, zz3, zz4, zz5, zz6, zz7, zz8⟩ := wr9 hU3
  obtain ⟨sk0, sk1, sk2, sk3, sk4, sk5, sk6, sk7, sk8⟩ := box9 hS3
  go_wp2_with fail
  refine (I2.out _).mono ?_
  rintro e v4 ⟨rfl, hb4⟩
  have ho4 := ho3.below hb4
  clear sk0 sk1 sk2 sk3 sk4 sk5 sk6 sk7 sk8 ho3
  have hX4 := (hb4.block _ (by omega)).trans hX3
  have hY4 := (hb4.block _ (by omega)).trans hY3
  have hZ4 := (hb4.block _ (by omega)).trans hZ3
  have hU4 := (hb4.block _ (by omega)).trans hU3
  have hS4 := (hb4.block _ (Array.getElem?_eq_some_iff.1 hS3).1).trans hS3
  have hB4 := hB3.trans (hb4.mono hB3.size)
  have alt4 : w.heap.size + 3 < v4.heap.size := (Array.getElem?_eq_some_iff.1 hU4).1
  clear hb4 hX3 hY3 hZ3 hU3 hB3 alt3 hS3 ak0 ak1 ak2 ak3 ak4 ak5 ak6 ak7 ak8 bk0 bk1 bk2 bk3 bk4 bk5 bk6 bk7 bk8 yk0 yk1 yk2 yk3 yk4 yk5 yk6 yk7 yk8 zk0 zk1 zk2 zk3 zk4 zk5 zk6 zk7 zk8 yy0 yy1 yy2 yy3 yy4 yy5 yy6 yy7 yy8 zz0 zz1 zz2 zz3 zz4 zz5 zz6 zz7 zz8 I2 
  obtain ⟨ak0, ak1, ak2, ak3, ak4, ak5, ak6, ak7, ak8⟩ := box9 hX4
  obtain ⟨bk0, bk1, bk2, bk3, bk4, bk5, bk6, bk7, bk8⟩ := box9 hY4
  obtain ⟨yk0, yk1, yk2, yk3, yk4, yk5, yk6, yk7, yk8⟩ := box9 hZ4
  obtain ⟨zk0, zk1, zk2, zk3, zk4, zk5, zk6, zk7, zk8⟩ := box9 hU4
  obtain ⟨yy0, yy1, yy2, yy3, yy4, yy5, yy6, yy7, yy8⟩ := wr9 hZ4
  obtain ⟨zz0, zz1, zz2, zz3, zz4, zz5, zz6, zz7, zz8⟩ := wr9 hU4
  obtain ⟨sk0, sk1, sk2, sk3, sk4, sk5, sk6, sk7, sk8⟩ := box9 hS4
  go_wp2_with fail
  refine (HIN.out _ hB4).mono ?_
  rintro e v5 ⟨ya, ym, yc, rfl, hoy5, hb5⟩
  have ho5 := ho4.below hb5
  have hlo4 : w.heap.size + 3 < v4.heap.size := alt4
  clear sk0 sk1 sk2 sk3 sk4 sk5 sk6 sk7 sk8 ho4
  have hX5 := (hb5.block _ (by omega)).trans hX4
  have hY5 := (hb5.block _ (by omega)).trans hY4
  have hZ5 := (hb5.block _ (by omega)).trans hZ4
  have hU5 := (hb5.block _ (by omega)).trans hU4
  have hS5 := (hb5.block _ (Array.getElem?_eq_some_iff.1 hS4).1).trans hS4
  have hB5 := hB4.trans (hb5.mono hB4.size)
  have alt5 : w.heap.size + 3 < v5.heap.size := (Array.getElem?_eq_some_iff.1 hU5).1
  clear hb5 hX4 hY4 hZ4 hU4 hB4 alt4 hS4 ak0 ak1 ak2 ak3 ak4 ak5 ak6 ak7 ak8 bk0 bk1 bk2 bk3 bk4 bk5 bk6 bk7 bk8 yk0 yk1 yk2 yk3 yk4 yk5 yk6 yk7 yk8 zk0 zk1 zk2 zk3 zk4 zk5 zk6 zk7 zk8 yy0 yy1 yy2 yy3 yy4 yy5 yy6 yy7 yy8 zz0 zz1 zz2 zz3 zz4 zz5 zz6 zz7 zz8 HIN
  obtain ⟨ak0, ak1, ak2, ak3, ak4, ak5, ak6, ak7, ak8⟩ := box9 hX5
  obtain ⟨bk0, bk1, bk2, bk3, bk4, bk5, bk6, bk7, bk8⟩ := box9 hY5
  obtain ⟨yk0, yk1, yk2, yk3, yk4, yk5, yk6, yk7, yk8⟩ := box9 hZ5
  obtain ⟨zk0, zk1, zk2, zk3, zk4, zk5, zk6, zk7, zk8⟩ := box9 hU5
  obtain ⟨yy0, yy1, yy2, yy3, yy4, yy5, yy6, yy7, yy8⟩ := wr9 hZ5
  obtain ⟨zz0, zz1, zz2, zz3, zz4, zz5, zz6, zz7, zz8⟩ := wr9 hU5
  obtain ⟨v6, hv6⟩ : ∃ V, v5.alloc (Obj.cells #[.int .i64 c5, .int .i64 n5, .int .i64 k5, .int .i64 p5, .string s5, .slice ya ym yc, .int .i64 tc5, .int .i64 tn5, .bool on5] 34) = V := ⟨_, rfl⟩
  have hb6 : Below v5.heap.size v5 v6 := by rw [← hv6]; exact (Below.refl _ _).alloc (Nat.le_refl _) _
  have hT6 : v6.heap[v5.heap.size]? = some (Obj.cells #[.int .i64 c5, .int .i64 n5, .int .i64 k5, .int .i64 p5, .string s5, .slice ya ym yc, .int .i64 tc5, .int .i64 tn5, .bool on5] 34) := by rw [← hv6]; exact heap_alloc_new _ _
  have ho6 := ho5.below hb6
  have hoy6 := hoy5.below hb6
  have hlo5 : w.heap.size + 3 < v5.heap.size := alt5
  clear ho5 hoy5
  have hX6 := (hb6.block _ (by omega)).trans hX5
  have hY6 := (hb6.block _ (by omega)).trans hY5
  have hZ6 := (hb6.block _ (by omega)).trans hZ5
  have hU6 := (hb6.block _ (by omega)).trans hU5
  have hS6 := (hb6.block _ (Array.getElem?_eq_some_iff.1 hS5).1).trans hS5
  have hB6 := hB5.trans (hb6.mono hB5.size)
  have alt6 : w.heap.size + 3 < v6.heap.size := (Array.getElem?_eq_some_iff.1 hU6).1
  clear hb6 hX5 hY5 hZ5 hU5 hB5 alt5 hS5 ak0 ak1 ak2 ak3 ak4 ak5 ak6 ak7 ak8 bk0 bk1 bk2 bk3 bk4 bk5 bk6 bk7 bk8 yk0 yk1 yk2 yk3 yk4 yk5 yk6 yk7 yk8 zk0 zk1 zk2 zk3 zk4 zk5 zk6 zk7 zk8 yy0 yy1 yy2 yy3 yy4 yy5 yy6 yy7 yy8 zz0 zz1 zz2 zz3 zz4 zz5 zz6 zz7 zz8 
  obtain ⟨ak0, ak1, ak2, ak3, ak4, ak5, ak6, ak7, ak8⟩ := box9 hX6
  obtain ⟨bk0, bk1, bk2, bk3, bk4, bk5, bk6, bk7, bk8⟩ := box9 hY6
  obtain ⟨yk0, yk1, yk2, yk3, yk4, yk5, yk6, yk7, yk8⟩ := box9 hZ6
  obtain ⟨zk0, zk1, zk2, zk3, zk4, zk5, zk6, zk7, zk8⟩ := box9 hU6
  obtain ⟨yy0, yy1, yy2, yy3, yy4, yy5, yy6, yy7, yy8⟩ := wr9 hZ6
  obtain ⟨zz0, zz1, zz2, zz3, zz4, zz5, zz6, zz7, zz8⟩ := wr9 hU6
  obtain ⟨sk0, sk1, sk2, sk3, sk4, sk5, sk6, sk7, sk8⟩ := box9 hS6
  obtain ⟨uk0, uk1, uk2, uk3, uk4, uk5, uk6, uk7, uk8⟩ := box9 hT6
  go_wp2_with fail
  refine wp_region_held_drew (S := (fun W => (W.cell? ⟨v1.heap.size, 0, none⟩ = some (.int .i64 c4) ∧ W.cell? ⟨v1.heap.size, 1, none⟩ = some (.int .i64 n4) ∧ W.cell? ⟨v1.heap.size, 2, none⟩ = some (.int .i64 k4) ∧ W.cell? ⟨v1.heap.size, 3, none⟩ = some (.int .i64 p4) ∧ W.cell? ⟨v1.heap.size, 4, none⟩ = some (.string s4) ∧ W.cell? ⟨v1.heap.size, 5, none⟩ = some (.slice xa xm xc) ∧ W.cell? ⟨v1.heap.size, 6, none⟩ = some (.int .i64 tc4) ∧ W.cell? ⟨v1.heap.size, 7, none⟩ = some (.int .i64 tn4) ∧ W.cell? ⟨v1.heap.size, 8, none⟩ = some (.bool on4)) ∧ (W.cell? ⟨v5.heap.size, 0, none⟩ = some (.int .i64 c5) ∧ W.cell? ⟨v5.heap.size, 1, none⟩ = some (.int .i64 n5) ∧ W.cell? ⟨v5.heap.size, 2, none⟩ = some (.int .i64 k5) ∧ W.cell? ⟨v5.heap.size, 3, none⟩ = some (.int .i64 p5) ∧ W.cell? ⟨v5.heap.size, 4, none⟩ = some (.string s5) ∧ W.cell? ⟨v5.heap.size, 5, none⟩ = some (.slice ya ym yc) ∧ W.cell? ⟨v5.heap.size, 6, none⟩ = some (.int .i64 tc5) ∧ W.cell? ⟨v5.heap.size, 7, none⟩ = some (.int .i64 tn5) ∧ W.cell? ⟨v5.heap.size, 8, none⟩ = some (.bool on5)))) (by kernel_rfl) ?hS1 (fun hHeld => ?rest1)
  case hS1 => exact ⟨box9 hS6, box9 hT6⟩
  refine takeDh (i := 0) (d := some 97) (v := ?vT2) rfl rfl (by kernel_rfl) (by kernel_rfl) (by kernel_rfl) (fun _ _ _ h => h) (Or.inl ⟨by rfl, ?hyT2⟩) (by assumption) ?rstT2
  case hyT2 => (intro w hSw; (try dsimp only at hSw); go_simp; (try with_reducible rfl))
  try simp only [Act.put, List.setIfInBounds_toArray, List.set_cons_zero, List.set_cons_succ]
  refine takeDh (i := 1) (d := some 98) (v := ?vT3) rfl rfl (by kernel_rfl) (by kernel_rfl) (by kernel_rfl) (fun _ _ _ h => h) (Or.inl ⟨by rfl, ?hyT3⟩) (by assumption) ?rstT3
  case hyT3 => (intro w hSw; (try dsimp only at hSw); go_simp; (try with_reducible rfl))
  try simp only [Act.put, List.setIfInBounds_toArray, List.set_cons_zero, List.set_cons_succ]
  obtain ⟨v7, hv7⟩ : ∃ V, World.drew v6 = V := ⟨_, rfl⟩
  rw [hv7]
  rw [hv7] at hHeld
  have hb7 : Below v6.heap.size v6 v7 := by rw [← hv7]; exact below_drewN (Below.refl _ _) 1
  have hZ7 := (hb7.block _ (Array.getElem?_eq_some_iff.1 hZ6).1).trans hZ6
  have hU7 := (hb7.block _ (Array.getElem?_eq_some_iff.1 hU6).1).trans hU6
  have hS7 := (hb7.block _ (Array.getElem?_eq_some_iff.1 hS6).1).trans hS6
  have hT7 := (hb7.block _ (Array.getElem?_eq_some_iff.1 hT6).1).trans hT6
  have hB7 := hB6.trans (hb7.mono hB6.size)
  have ho7 := ho6.below hb7
  have hoy7 := hoy6.below hb7
  obtain ⟨W8, e8, hx8, hB8, hK8⟩ := store9 hZ7 hB7 (by omega) (.int .i64 c4) (.int .i64 n4) (.int .i64 k4) (.int .i64 p4) (.string s4) (.slice xa xm xc) (.int .i64 tc4) (.int .i64 tn4) (.bool on4)
  obtain ⟨d0, d1, d2, d3, d4, d5, d6, d7, d8⟩ := box9 hZ7
  obtain ⟨dz0, dz1, dz2, dz3, dz4, dz5, dz6, dz7, dz8⟩ := wr9 hZ7
  have hT8 := hK8.block hT7 (by omega)
  have hS8 := hK8.block hS7 (by omega)
  have hU8 := hK8.block hU7 (by omega)
  refine wpAnyH_ready (rs := [2]) (by kernel_rfl) (by simp) ?_
  refine AllReadyH.cons rfl (fun K hK => ?_) AllReadyH.nil
  go_simp
  try rw [e8]
  clear hHeld
  refine hK.out _ _ ?hS4 (fun hHeld => ?rest4)
  case hS4 => exact ⟨box9 hS8, box9 hT8⟩
  clear hK K
  try simp only [Act.put, List.setIfInBounds_toArray, List.set_cons_zero, List.set_cons_succ]
  obtain ⟨W9, e9, hx9, hB9, hK9⟩ := store9 hU8 hB8 (by omega) (.int .i64 c5) (.int .i64 n5) (.int .i64 k5) (.int .i64 p5) (.string s5) (.slice ya ym yc) (.int .i64 tc5) (.int .i64 tn5) (.bool on5)
  obtain ⟨g0, g1, g2, g3, g4, g5, g6, g7, g8⟩ := box9 hU8
  obtain ⟨gz0, gz1, gz2, gz3, gz4, gz5, gz6, gz7, gz8⟩ := wr9 hU8
  have hT9 := hK9.block hT8 (by omega)
  have hS9 := hK9.block hS8 (by omega)
  have hy9 := hK9.block hx8 (by omega)
  refine wpAnyH_ready (rs := [3]) (by kernel_rfl) (by simp) ?_
  refine AllReadyH.cons rfl (fun K hK => ?_) AllReadyH.nil
  go_simp
  try rw [e9]
  clear hHeld
  refine hK.out _ _ ?hS5 (fun hHeld => ?rest5)
  case hS5 => exact ⟨box9 hS9, box9 hT9⟩
  clear hK K
  try simp only [Act.put, List.setIfInBounds_toArray, List.set_cons_zero, List.set_cons_succ]
  refine takeDh (i := 4) (d := some 6) (v := ?vT6) rfl rfl (by kernel_rfl) (by kernel_rfl) (by kernel_rfl) (fun _ _ _ h => h) (Or.inl ⟨by rfl, ?hyT6⟩) (by assumption) ?rstT6
  case hyT6 => (intro w hSw; (try dsimp only at hSw); go_simp; (try with_reducible rfl))
  try simp only [Act.put, List.setIfInBounds_toArray, List.set_cons_zero, List.set_cons_succ]
  refine wpAnyH_done (by kernel_rfl) ?_ _
  obtain ⟨r0, r1, r2, r3, r4, r5, r6, r7, r8⟩ := box9 hx9
  obtain ⟨t0, t1, t2, t3, t4, t5, t6, t7, t8⟩ := box9 hy9
  have HO1 : Hid (OwnF rangeV 2 91 W9 w.heap.size (.slice xa xm xc) l4) := (hK9.own (hK8.own ho7 (by omega)) (by omega)).mono (by omega)
  have HO2 : Hid (OwnF rangeV 2 91 W9 w.heap.size (.slice ya ym yc) l5) := (hK9.own (hK8.own hoy7 (by omega)) (by omega)).mono (by omega)
  clear hHeld
  go_wp2_with fail
  refine bodyPost_ret (v := .tuple #[.agg #[.int .i64 c4, .int .i64 n4, .int .i64 k4, .int .i64 p4, .string s4, .slice xa xm xc, .int .i64 tc4, .int .i64 tn4, .bool on4], .agg #[.int .i64 c5, .int .i64 n5, .int .i64 k5, .int .i64 p5, .string s5, .slice ya ym yc, .int .i64 tc5, .int .i64 tn5, .bool on5], .int .i64 0]) (by simp [results, Tryz.results52, go_sem, r0, r1, r2, r3, r4, r5, r6, r7, r8, t0, t1, t2, t3, t4, t5, t6, t7, t8]) rfl ⟨xa, xm, xc, ya, ym, yc, rfl, HO1.out, HO2.out, hB9⟩
end Go.Proofs.YtmdnmhdimfglaaaGreatDoor
