import Derived.Test.YtmdnmhdimfglaaaGreatDoorXjG
import Derived.Test.YtmdnmhdimfglaaaGreatDoorXhJ
namespace Go.Proofs.YtmdnmhdimfglaaaGreatDoor
open Go.RowKit Go.Lib
set_option maxRecDepth 100000
set_option maxHeartbeats 32000000 in
theorem transpose_insE {o o2 : OpV} {a : Option Addr} {m cap : Nat} {b : Option Addr} {m2 cap2 : Nat} {w : World} {c4 n4 k4 p4 : Int} {s4 : ByteArray} {l4 : List (Int × Int)} {tc4 tn4 : Int} {on4 : Bool} {c5 n5 k5 p5 : Int} {s5 : ByteArray} {l5 : List (Int × Int)} {tc5 tn5 : Int} {on5 : Bool} {z5 : Int} (HEX : Hid (∀ W, Below w.heap.size w W → Calls Tryz.prog 51 #[opVal o2 (.slice b m2 cap2), opVal o (.slice a m cap)] W fun e w' => Ans W (⟨c4, n4, k4, p4, s4, l4, tc4, tn4, on4⟩, 0) e w')) (HMV : Hid (∀ W, Below w.heap.size w W → Calls Tryz.prog 72 #[opVal o (.slice a m cap), .int .i64 (if o2.p ≤ o.p then o.p + widthP o2 else o.p)] W fun e w' => Ans W (⟨c5, n5, k5, p5, s5, l5, tc5, tn5, on5⟩, z5) e w')) (one : Bool) (hI1 : isB o.tc o.tn o2.tc o2.tn = one) (tgt : Bool) (hI2 : isB o.tc o.tn o2.c o2.n = tgt) (hs : o.s.size ≤ 2097152) (hs2 : o2.s.size ≤ 2097152) (hp : 0 ≤ o.p ∧ o.p ≤ 1048576) (hp2 : 0 ≤ o2.p ∧ o2.p ≤ 1048576) (hwd : 0 < widthP o ∧ widthP o ≤ 256) (hwd2 : 0 < widthP o2 ∧ widthP o2 ≤ 256) (hno : ¬ (o.p < o2.p ∧ o2.p < o.p + widthP o)) (hk2 : o2.k = 1) (hk : o.k = 1) (hz : z5 ≠ 0) : Calls Tryz.prog 52 #[opVal o (.slice a m cap), opVal o2 (.slice b m2 cap2)] w fun e w' => Ans2 w ((op0, op0), z5) e w' := by
  have I1 : Hid (∀ W : World, Calls Tryz.prog 71 #[.agg #[.int .i64 o.tc, .int .i64 o.tn], .agg #[.int .i64 o2.tc, .int .i64 o2.tn]] W fun e w' => e = .returned (.bool one) ∧ Below W.heap.size W w') := fun W => by
    have := is_anyX o.tc o.tn o2.tc o2.tn W
    rw [hI1] at this
    exact this
  have I2 : Hid (∀ W : World, Calls Tryz.prog 71 #[.agg #[.int .i64 o.tc, .int .i64 o.tn], .agg #[.int .i64 o2.c, .int .i64 o2.n]] W fun e w' => e = .returned (.bool tgt) ∧ Below W.heap.size W w') := fun W => by
    have := is_anyX o.tc o.tn o2.c o2.n W
    rw [hI2] at this
    exact this
  have HW1 : Hid (∀ (W : World), Calls Tryz.prog 62 #[opVal o (.slice a m cap)] W fun e w' => e = .returned (.int .i64 (widthP o)) ∧ Below W.heap.size W w') := fun W => gWidth_any hs W
  have HW2 : Hid (∀ (W : World), Calls Tryz.prog 62 #[opVal o2 (.slice b m2 cap2)] W fun e w' => e = .returned (.int .i64 (widthP o2)) ∧ Below W.heap.size W w') := fun W => gWidth_any hs2 W
  have hJl := withL_len 1 o.p (widthP o) ctxL 0
  have hJo : SthOk (ctxJ o.p (widthP o)) := ctxJ_ok (by omega) (by omega)
  have hTl := withL_len 2 o2.p (widthP o2) (ctxJ o.p (widthP o)) 0
  have hTo : SthOk (turnI o.p (widthP o) o2.p (widthP o2)) := withL_ok (by omega) hJo
  have hJl2 : (ctxJ o.p (widthP o)).length ≤ 3 := hJl
  have HJL : Hid ((withL 1 o.p (widthP o) ctxL 0).length ≤ 16) := by show (withL 1 o.p (widthP o) ctxL 0).length ≤ 16; have : ctxL.length = 1 := rfl; omega
  have HJO : Hid (SthOk (withL 1 o.p (widthP o) ctxL 0)) := hJo
  obtain ⟨y, hy⟩ : ∃ y, (if o2.p ≤ o.p then o.p + widthP o2 else o.p) = y := ⟨_, rfl⟩
  rw [hy] at HMV
  have HP : Hid (∀ (W : World) va vc, Rw sthF 3 W va (withL 2 o2.p (widthP o2) (withL 1 o.p (widthP o) ctxL 0) 0).length vc (turnI o.p (widthP o) o2.p (widthP o2)) → Calls Tryz.prog 63 #[.slice va (withL 2 o2.p (widthP o2) (withL 1 o.p (widthP o) ctxL 0) 0).length vc, .int .i64 1, .int .i64 0] W fun e w' => e = .returned (.int .i64 y) ∧ Below W.heap.size W w') := fun W va vc hr => by
    have := place_any hr (by have : ((withL 2 o2.p (widthP o2) (ctxJ o.p (widthP o)) 0)).length ≤ 9 := by omega
                             exact Nat.le_trans this (by decide)) hTo 1 0 (by omega)
    rw [turn_place hp.1 hp.2 hp2.1 hp2.2 hwd.1 hno, hy] at this
    exact this
  clear hs hs2 hJl hJo hTl hTo hJl2 hy hI1 hI2 hno
  generalize widthP o2 = wd2 at *
  generalize widthP o = wd at *
  obtain ⟨c, n, k, p, s, l, tc, tn, on⟩ := o
  obtain ⟨c2, n2, k2, p2, s2, l2, tc2, tn2, on2⟩ := o2
  unfold Ans2
  simp only [opVal, Ans] at *
  subst hk2 hk
  have z1 : (z5 == 0) = false := beq_eq_false_iff_ne.2 hz
  have z2 : (z5 != 0) = true := by simp [bne, z1]
  have z3 : decide (z5 = 0) = false := decide_eq_false hz
  obtain ⟨v0, hW0⟩ : ∃ V, (((w.alloc (Obj.cells #[.int .i64 c, .int .i64 n, .int .i64 1, .int .i64 p, .string s, .slice a m cap, .int .i64 tc, .int .i64 tn, .bool on] 34)).alloc (Obj.cells #[.int .i64 c2, .int .i64 n2, .int .i64 1, .int .i64 p2, .string s2, .slice b m2 cap2, .int .i64 tc2, .int .i64 tn2, .bool on2] 34)).alloc (Obj.cells #[.int .i64 0, .int .i64 0, .int .i64 0, .int .i64 0, .string ⟨#[]⟩, .slice none 0 0, .int .i64 0, .int .i64 0, .bool false] 34)).alloc (Obj.cells #[.int .i64 0, .int .i64 0, .int .i64 0, .int .i64 0, .string ⟨#[]⟩, .slice none 0 0, .int .i64 0, .int .i64 0, .bool false] 34) = V := ⟨_, rfl⟩
  have hX0 : v0.heap[w.heap.size]? = some (Obj.cells #[.int .i64 c, .int .i64 n, .int .i64 1, .int .i64 p, .string s, .slice a m cap, .int .i64 tc, .int .i64 tn, .bool on] 34) := by rw [← hW0]; exact (Below.heap_alloc _ _ _ (by simp; omega)).trans ((Below.heap_alloc _ _ _ (by simp; omega)).trans ((Below.heap_alloc _ _ _ (by simp)).trans (heap_alloc_new _ _)))
  have hY0 : v0.heap[w.heap.size + 1]? = some (Obj.cells #[.int .i64 c2, .int .i64 n2, .int .i64 1, .int .i64 p2, .string s2, .slice b m2 cap2, .int .i64 tc2, .int .i64 tn2, .bool on2] 34) := by rw [← hW0]; exact (Below.heap_alloc _ _ _ (by first | (simp; done) | (simp; omega))).trans ((Below.heap_alloc _ _ _ (by simp)).trans (alloc_last _ _ _ (by simp)))
  have hZ0 : v0.heap[w.heap.size + 2]? = some (Obj.cells #[.int .i64 0, .int .i64 0, .int .i64 0, .int .i64 0, .string ⟨#[]⟩, .slice none 0 0, .int .i64 0, .int .i64 0, .bool false] 34) := by rw [← hW0]; exact (Below.heap_alloc _ _ _ (by simp)).trans (alloc_last _ _ _ (by simp))
  have hU0 : v0.heap[w.heap.size + 3]? = some (Obj.cells #[.int .i64 0, .int .i64 0, .int .i64 0, .int .i64 0, .string ⟨#[]⟩, .slice none 0 0, .int .i64 0, .int .i64 0, .bool false] 34) := by rw [← hW0]; exact alloc_last _ _ _ (by simp)
  have hB0 : Below w.heap.size w v0 := by rw [← hW0]; exact ((((Below.refl w.heap.size w).alloc (Nat.le_refl _) _).alloc (by simp) _).alloc (by simp; omega) _).alloc (by simp; omega) _
  have alt0 : w.heap.size + 3 < v0.heap.size := (Array.getElem?_eq_some_iff.1 hU0).1
  obtain ⟨ak0, ak1, ak2, ak3, ak4, ak5, ak6, ak7, ak8⟩ := box9 hX0
  obtain ⟨bk0, bk1, bk2, bk3, bk4, bk5, bk6, bk7, bk8⟩ := box9 hY0
  obtain ⟨yk0, yk1, yk2, yk3, yk4, yk5, yk6, yk7, yk8⟩ := box9 hZ0
  obtain ⟨zk0, zk1, zk2, zk3, zk4, zk5, zk6, zk7, zk8⟩ := box9 hU0
  obtain ⟨yy0, yy1, yy2, yy3, yy4, yy5, yy6, yy7, yy8⟩ := wr9 hZ0
  obtain ⟨zz0, zz1, zz2, zz3, zz4, zz5, zz6, zz7, zz8⟩ := wr9 hU0
  go_enter Tryz.func52, Tryz.ntmps52
  go_wp2_with fail
  refine (HEX.out _ hB0).mono ?_
  rintro e v1 ⟨xa, xm, xc, rfl, ho1, hb1⟩
  have hlo0 : w.heap.size + 3 < v0.heap.size := alt0
  have hX1 := (hb1.block _ (by omega)).trans hX0
  have hY1 := (hb1.block _ (by omega)).trans hY0
  have hZ1 := (hb1.block _ (by omega)).trans hZ0
  have hU1 := (hb1.block _ (by omega)).trans hU0
  have hB1 := hB0.trans (hb1.mono hB0.size)
  have alt1 : w.heap.size + 3 < v1.heap.size := (Array.getElem?_eq_some_iff.1 hU1).1
  clear hb1 hX0 hY0 hZ0 hU0 hB0 alt0  ak0 ak1 ak2 ak3 ak4 ak5 ak6 ak7 ak8 bk0 bk1 bk2 bk3 bk4 bk5 bk6 bk7 bk8 yk0 yk1 yk2 yk3 yk4 yk5 yk6 yk7 yk8 zk0 zk1 zk2 zk3 zk4 zk5 zk6 zk7 zk8 yy0 yy1 yy2 yy3 yy4 yy5 yy6 yy7 yy8 zz0 zz1 zz2 zz3 zz4 zz5 zz6 zz7 zz8 HEX hW0
  obtain ⟨ak0, ak1, ak2, ak3, ak4, ak5, ak6, ak7, ak8⟩ := box9 hX1
  obtain ⟨bk0, bk1, bk2, bk3, bk4, bk5, bk6, bk7, bk8⟩ := box9 hY1
  obtain ⟨yk0, yk1, yk2, yk3, yk4, yk5, yk6, yk7, yk8⟩ := box9 hZ1
  obtain ⟨zk0, zk1, zk2, zk3, zk4, zk5, zk6, zk7, zk8⟩ := box9 hU1
  obtain ⟨yy0, yy1, yy2, yy3, yy4, yy5, yy6, yy7, yy8⟩ := wr9 hZ1
  obtain ⟨zz0, zz1, zz2, zz3, zz4, zz5, zz6, zz7, zz8⟩ := wr9 hU1
  obtain ⟨v2, hv2⟩ : ∃ V, v1.alloc (Obj.cells #[.int .i64 c4, .int .i64 n4, .int .i64 k4, .int .i64 p4, .string s4, .slice xa xm xc, .int .i64 tc4, .int .i64 tn4, .bool on4] 34) = V := ⟨_, rfl⟩
  have hb2 : Below v1.heap.size v1 v2 := by rw [← hv2]; exact (Below.refl _ _).alloc (Nat.le_refl _) _
  have hS2 : v2.heap[v1.heap.size]? = some (Obj.cells #[.int .i64 c4, .int .i64 n4, .int .i64 k4, .int .i64 p4, .string s4, .slice xa xm xc, .int .i64 tc4, .int .i64 tn4, .bool on4] 34) := by rw [← hv2]; exact heap_alloc_new _ _
  have ho2 := ho1.below hb2
  have hlo1 : w.heap.size + 3 < v1.heap.size := alt1
  obtain ⟨sk0, sk1, sk2, sk3, sk4, sk5, sk6, sk7, sk8⟩ := box9 hS2
  clear ho1
  have hX2 := (hb2.block _ (by omega)).trans hX1
  have hY2 := (hb2.block _ (by omega)).trans hY1
  have hZ2 := (hb2.block _ (by omega)).trans hZ1
  have hU2 := (hb2.block _ (by omega)).trans hU1
  have hB2 := hB1.trans (hb2.mono hB1.size)
  have alt2 : w.heap.size + 3 < v2.heap.size := (Array.getElem?_eq_some_iff.1 hU2).1
  clear hb2 hX1 hY1 hZ1 hU1 hB1 alt1  ak0 ak1 ak2 ak3 ak4 ak5 ak6 ak7 ak8 bk0 bk1 bk2 bk3 bk4 bk5 bk6 bk7 bk8 yk0 yk1 yk2 yk3 yk4 yk5 yk6 yk7 yk8 zk0 zk1 zk2 zk3 zk4 zk5 zk6 zk7 zk8 yy0 yy1 yy2 yy3 yy4 yy5 yy6 yy7 yy8 zz0 zz1 zz2 zz3 zz4 zz5 zz6 zz7 zz8 
  obtain ⟨ak0, ak1, ak2, ak3, ak4, ak5, ak6, ak7, ak8⟩ := box9 hX2
  obtain ⟨bk0, bk1, bk2, bk3, bk4, bk5, bk6, bk7, bk8⟩ := box9 hY2
  obtain ⟨yk0, yk1, yk2, yk3, yk4, yk5, yk6, yk7, yk8⟩ := box9 hZ2
  obtain ⟨zk0, zk1, zk2, zk3, zk4, zk5, zk6, zk7, zk8⟩ := box9 hU2
  obtain ⟨yy0, yy1, yy2, yy3, yy4, yy5, yy6, yy7, yy8⟩ := wr9 hZ2
  obtain ⟨zz0, zz1, zz2, zz3, zz4, zz5, zz6, zz7, zz8⟩ := wr9 hU2
  go_wp2_with fail
  refine (I1.out _).mono ?_
  rintro e v3 ⟨rfl, hb3⟩
  have ho3 := ho2.below hb3
  clear sk0 sk1 sk2 sk3 sk4 sk5 sk6 sk7 sk8 ho2
  have hX3 := (hb3.block _ (by omega)).trans hX2
  have hY3 := (hb3.block _ (by omega)).trans hY2
  have hZ3 := (hb3.block _ (by omega)).trans hZ2
  have hU3 := (hb3.block _ (by omega)).trans hU2
  have hS3 := (hb3.block _ (Array.getElem?_eq_some_iff.1 hS2).1).trans hS2
  have hB3 := hB2.trans (hb3.mono hB2.size)
  have alt3 : w.heap.size + 3 < v3.heap.size := (Array.getElem?_eq_some_iff.1 hU3).1
  clear hb3 hX2 hY2 hZ2 hU2 hB2 alt2 hS2 ak0 ak1 ak2 ak3 ak4 ak5 ak6 ak7 ak8 bk0 bk1 bk2 bk3 bk4 bk5 bk6 bk7 bk8 yk0 yk1 yk2 yk3 yk4 yk5 yk6 yk7 yk8 zk0 zk1 zk2 zk3 zk4 zk5 zk6 zk7 zk8 yy0 yy1 yy2 yy3 yy4 yy5 yy6 yy7 yy8 zz0 zz1 zz2 zz3 zz4 zz5 zz6 zz7 zz8 I1 
  obtain ⟨ak0, ak1, ak2, ak3, ak4, ak5, ak6, ak7, ak8⟩ := box9 hX3
  obtain ⟨bk0, bk1, bk2, bk3, bk4, bk5, bk6, bk7, bk8⟩ := box9 hY3
  obtain ⟨yk0, yk1, yk2, yk3, yk4, yk5, yk6, yk7, yk8⟩ := box9 hZ3
  obtain ⟨zk0, zk1, zk2, zk3, zk4, zk5, zk6, zk7, zk8⟩ := box9 hU3
  obtain ⟨yy0, yy1, yy2, yy3, yy4, yy5, yy6, yy7, yy8⟩ := wr9 hZ3
  obtain ⟨zz0, zz1, zz2, zz3, zz4, zz5, zz6, zz7, zz8⟩ := wr9 hU3
  obtain ⟨sk0, sk1, sk2, sk3, sk4, sk5, sk6, sk7, sk8⟩ := box9 hS3
  go_wp2_with fail
  refine (I2.out _).mono ?_
  rintro e v4 ⟨rfl, hb4⟩
  have ho4 := ho3.below hb4
  clear sk0 sk1 sk2 sk3 sk4 sk5 sk6 sk7 sk8 ho3
  have hX4 := (hb4.block _ (by omega)).trans hX3
  have hY4 := (hb4.block _ (by omega)).trans hY3
  have hZ4 := (hb4.block _ (by omega)).trans hZ3
  have hU4 := (hb4.block _ (by omega)).trans hU3
  have hS4 := (hb4.block _ (Array.getElem?_eq_some_iff.1 hS3).1).trans hS3
  have hB4 := hB3.trans (hb4.mono hB3.size)
  have alt4 : w.heap.size + 3 < v4.heap.size := (Array.getElem?_eq_some_iff.1 hU4).1
  clear hb4 hX3 hY3 hZ3 hU3 hB3 alt3 hS3 ak0 ak1 ak2 ak3 ak4 ak5 ak6 ak7 ak8 bk0 bk1 bk2 bk3 bk4 bk5 bk6 bk7 bk8 yk0 yk1 yk2 yk3 yk4 yk5 yk6 yk7 yk8 zk0 zk1 zk2 zk3 zk4 zk5 zk6 zk7 zk8 yy0 yy1 yy2 yy3 yy4 yy5 yy6 yy7 yy8 zz0 zz1 zz2 zz3 zz4 zz5 zz6 zz7 zz8 I2 
  obtain ⟨ak0, ak1, ak2, ak3, ak4, ak5, ak6, ak7, ak8⟩ := box9 hX4
  obtain ⟨bk0, bk1, bk2, bk3, bk4, bk5, bk6, bk7, bk8⟩ := box9 hY4
  obtain ⟨yk0, yk1, yk2, yk3, yk4, yk5, yk6, yk7, yk8⟩ := box9 hZ4
  obtain ⟨zk0, zk1, zk2, zk3, zk4, zk5, zk6, zk7, zk8⟩ := box9 hU4
  obtain ⟨yy0, yy1, yy2, yy3, yy4, yy5, yy6, yy7, yy8⟩ := wr9 hZ4
  obtain ⟨zz0, zz1, zz2, zz3, zz4, zz5, zz6, zz7, zz8⟩ := wr9 hU4
  obtain ⟨sk0, sk1, sk2, sk3, sk4, sk5, sk6, sk7, sk8⟩ := box9 hS4
  go_wp2_with fail
  have hXx0 := hX4
  have hYx0 := hY4
  refine wp_region_held_drew (S := (fun W => (W.cell? ⟨w.heap.size, 0, none⟩ = some (.int .i64 c) ∧ W.cell? ⟨w.heap.size, 1, none⟩ = some (.int .i64 n) ∧ W.cell? ⟨w.heap.size, 2, none⟩ = some (.int .i64 1) ∧ W.cell? ⟨w.heap.size, 3, none⟩ = some (.int .i64 p) ∧ W.cell? ⟨w.heap.size, 4, none⟩ = some (.string s) ∧ W.cell? ⟨w.heap.size, 5, none⟩ = some (.slice a m cap) ∧ W.cell? ⟨w.heap.size, 6, none⟩ = some (.int .i64 tc) ∧ W.cell? ⟨w.heap.size, 7, none⟩ = some (.int .i64 tn) ∧ W.cell? ⟨w.heap.size, 8, none⟩ = some (.bool on)) ∧ (W.cell? ⟨w.heap.size + 1, 0, none⟩ = some (.int .i64 c2) ∧ W.cell? ⟨w.heap.size + 1, 1, none⟩ = some (.int .i64 n2) ∧ W.cell? ⟨w.heap.size + 1, 2, none⟩ = some (.int .i64 1) ∧ W.cell? ⟨w.heap.size + 1, 3, none⟩ = some (.int .i64 p2) ∧ W.cell? ⟨w.heap.size + 1, 4, none⟩ = some (.string s2) ∧ W.cell? ⟨w.heap.size + 1, 5, none⟩ = some (.slice b m2 cap2) ∧ W.cell? ⟨w.heap.size + 1, 6, none⟩ = some (.int .i64 tc2) ∧ W.cell? ⟨w.heap.size + 1, 7, none⟩ = some (.int .i64 tn2) ∧ W.cell? ⟨w.heap.size + 1, 8, none⟩ = some (.bool on2)))) (by kernel_rfl) ?hS1 (fun hHeld => ?rest1)
  case hS1 => exact ⟨box9 hX4, box9 hY4⟩
  obtain ⟨x0, hx0⟩ : ∃ V, World.drew v4 = V := ⟨_, rfl⟩
  rw [hx0]
  rw [hx0] at hHeld
  have hd0 : Below v4.heap.size v4 x0 := by rw [← hx0]; exact below_drewN (Below.refl _ _) 1
  have hXx0 := (hd0.block _ (by omega)).trans hX4
  have hYx0 := (hd0.block _ (by omega)).trans hY4
  have hq0 : w.heap.size + 3 < x0.heap.size := by have := hd0.size; omega
  clear hx0
  refine takeDh (i := 1) (d := some 100) (v := ?vT2) rfl rfl (by kernel_rfl) (by kernel_rfl) (by kernel_rfl) (fun _ _ _ h => h) (Or.inl ⟨by rfl, ?hyT2⟩) (by assumption) ?rstT2
  case hyT2 => (intro w hSw; (try dsimp only at hSw); go_simp; (try with_reducible rfl))
  try simp only [Act.put, List.setIfInBounds_toArray, List.set_cons_zero, List.set_cons_succ]
  refine takeDh (i := 2) (d := some 101) (v := ?vT3) rfl rfl (by kernel_rfl) (by kernel_rfl) (by kernel_rfl) (fun _ _ _ h => h) (Or.inl ⟨by rfl, ?hyT3⟩) (by assumption) ?rstT3
  case hyT3 => (intro w hSw; (try dsimp only at hSw); go_simp; (try with_reducible rfl))
  try simp only [Act.put, List.setIfInBounds_toArray, List.set_cons_zero, List.set_cons_succ]
  refine takeDh (i := 3) (d := some 102) (v := ?vT4) rfl rfl (by kernel_rfl) (by kernel_rfl) (by kernel_rfl) (fun _ _ _ h => h) (Or.inl ⟨by rfl, ?hyT4⟩) (by assumption) ?rstT4
  case hyT4 => (intro w hSw; (try dsimp only at hSw); go_simp; (try with_reducible rfl))
  try simp only [Act.put, List.setIfInBounds_toArray, List.set_cons_zero, List.set_cons_succ]
  refine takeDh (i := 6) (d := some 105) (v := ?vT5) rfl rfl (by kernel_rfl) (by kernel_rfl) (by kernel_rfl) (fun _ _ _ h => h) (Or.inl ⟨by rfl, ?hyT5⟩) (by assumption) ?rstT5
  case hyT5 => (intro w hSw; (try dsimp only at hSw); go_simp; (try with_reducible rfl))
  try simp only [Act.put, List.setIfInBounds_toArray, List.set_cons_zero, List.set_cons_succ]
  refine takeDh (i := 7) (d := some 106) (v := ?vT6) rfl rfl (by kernel_rfl) (by kernel_rfl) (by kernel_rfl) (fun _ _ _ h => h) (Or.inl ⟨by rfl, ?hyT6⟩) (by assumption) ?rstT6
  case hyT6 => (intro w hSw; (try dsimp only at hSw); go_simp; (try with_reducible rfl))
  try simp only [Act.put, List.setIfInBounds_toArray, List.set_cons_zero, List.set_cons_succ]
  refine takeDh (i := 8) (d := some 107) (v := ?vT7) rfl rfl (by kernel_rfl) (by kernel_rfl) (by kernel_rfl) (fun _ _ _ h => h) (Or.inl ⟨by rfl, ?hyT7⟩) (by assumption) ?rstT7
  case hyT7 => (intro w hSw; (try dsimp only at hSw); go_simp; (try with_reducible rfl))
  try simp only [Act.put, List.setIfInBounds_toArray, List.set_cons_zero, List.set_cons_succ]
  refine wpAnyH_ready (rs := [0]) (by kernel_rfl) (by simp) ?_
  refine AllReadyH.cons rfl (fun K hK => ?_) AllReadyH.nil
  go_simp
  refine (context_any _).mono ?_
  rintro e x1 ⟨ca, cc, rfl, hrow1, hf1⟩
  have hXx1 := (hf1.block _ (by omega)).trans hXx0
  have hYx1 := (hf1.block _ (by omega)).trans hYx0
  have hq1 : w.heap.size + 3 < x1.heap.size := by have := hf1.size; omega
  have hd1 : Below v4.heap.size v4 x1 := hd0.trans (hf1.mono hd0.size)
  clear hHeld
  refine hK.out _ _ ?hS8 (fun hHeld => ?rest8)
  case hS8 => exact ⟨box9 hXx1, box9 hYx1⟩
  clear hK K
  try simp only [Act.put, List.setIfInBounds_toArray, List.set_cons_zero, List.set_cons_succ]
  refine wpAnyH_ready (rs := [4]) (by kernel_rfl) (by simp) ?_
  refine AllReadyH.cons rfl (fun K hK => ?_) AllReadyH.nil
  go_simp
  refine (HW1.out _).mono ?_
  rintro e x2 ⟨rfl, hf2⟩
  have hXx2 := (hf2.block _ (by omega)).trans hXx1
  have hYx2 := (hf2.block _ (by omega)).trans hYx1
  have hq2 : w.heap.size + 3 < x2.heap.size := by have := hf2.size; omega
  have hd2 : Below v4.heap.size v4 x2 := hd1.trans (hf2.mono hd1.size)
  have hrow2 := hrow1.below hf2
  clear hHeld
  refine hK.out _ _ ?hS9 (fun hHeld => ?rest9)
  case hS9 => exact ⟨box9 hXx2, box9 hYx2⟩
  clear hK K
  try simp only [Act.put, List.setIfInBounds_toArray, List.set_cons_zero, List.set_cons_succ]
  refine wpAnyH_ready (rs := [5]) (by kernel_rfl) (by simp) ?_
  refine AllReadyH.cons rfl (fun K hK => ?_) AllReadyH.nil
  go_simp
  refine (with_any hrow2 (by omega) ctx_ok 1 p wd (by omega)).mono ?_
  rintro e x3 ⟨ra, rc, rfl, ho3, hf3⟩
  have hXx3 := (hf3.block _ (by omega)).trans hXx2
  have hYx3 := (hf3.block _ (by omega)).trans hYx2
  have hq3 : w.heap.size + 3 < x3.heap.size := by have := hf3.size; omega
  have hd3 : Below v4.heap.size v4 x3 := hd2.trans (hf3.mono hd2.size)
  have hrow3 : Rw sthF 3 x3 ra _ rc (ctxJ p wd) := ho3.rw_ layH
  clear ho3
  clear hHeld
  refine hK.out _ _ ?hS10 (fun hHeld => ?rest10)
  case hS10 => exact ⟨box9 hXx3, box9 hYx3⟩
  clear hK K
  try simp only [Act.put, List.setIfInBounds_toArray, List.set_cons_zero, List.set_cons_succ]
  refine wpAnyH_ready (rs := [9]) (by kernel_rfl) (by simp) ?_
  refine AllReadyH.cons rfl (fun K hK => ?_) AllReadyH.nil
  go_simp
  refine (HW2.out _).mono ?_
  rintro e x4 ⟨rfl, hf4⟩
  have hXx4 := (hf4.block _ (by omega)).trans hXx3
  have hYx4 := (hf4.block _ (by omega)).trans hYx3
  have hq4 : w.heap.size + 3 < x4.heap.size := by have := hf4.size; omega
  have hd4 : Below v4.heap.size v4 x4 := hd3.trans (hf4.mono hd3.size)
  have hrow4 := hrow3.below hf4
  clear hHeld
  refine hK.out _ _ ?hS11 (fun hHeld => ?rest11)
  case hS11 => exact ⟨box9 hXx4, box9 hYx4⟩
  clear hK K
  try simp only [Act.put, List.setIfInBounds_toArray, List.set_cons_zero, List.set_cons_succ]
  refine wpAnyH_ready (rs := [10]) (by kernel_rfl) (by simp) ?_
  refine AllReadyH.cons rfl (fun K hK => ?_) AllReadyH.nil
  go_simp
  refine (with_any hrow4 HJL.out HJO.out 2 p2 wd2 (by omega)).mono ?_
  rintro e x5 ⟨ta, tcc, rfl, ho5, hf5⟩
  have hXx5 := (hf5.block _ (by omega)).trans hXx4
  have hYx5 := (hf5.block _ (by omega)).trans hYx4
  have hq5 : w.heap.size + 3 < x5.heap.size := by have := hf5.size; omega
  have hd5 : Below v4.heap.size v4 x5 := hd4.trans (hf5.mono hd4.size)
  have hrow5 : Rw sthF 3 x5 ta _ tcc (turnI p wd p2 wd2) := ho5.rw_ layH
  clear ho5
  clear hHeld
  refine hK.out _ _ ?hS12 (fun hHeld => ?rest12)
  case hS12 => exact ⟨box9 hXx5, box9 hYx5⟩
  clear hK K
  try simp only [Act.put, List.setIfInBounds_toArray, List.set_cons_zero, List.set_cons_succ]
  refine takeDh (i := 11) (d := some 13) (v := ?vT13) rfl rfl (by kernel_rfl) (by kernel_rfl) (by kernel_rfl) (fun _ _ _ h => h) (Or.inl ⟨by rfl, ?hyT13⟩) (by assumption) ?rstT13
  case hyT13 => (intro w hSw; (try dsimp only at hSw); go_simp; (try with_reducible rfl))
  try simp only [Act.put, List.setIfInBounds_toArray, List.set_cons_zero, List.set_cons_succ]
  refine wpAnyH_done (by kernel_rfl) ?_ _
  have hA := hXx5
  have hZc := (hd5.block _ (by omega)).trans hZ4
  have hUc := (hd5.block _ (by omega)).trans hU4
  have hSc := (hd5.block _ (Array.getElem?_eq_some_iff.1 hS4).1).trans hS4
  have hBc := hB4.trans (hd5.mono hB4.size)
  have hoc := ho4.below hd5
  clear hHeld hrow1 hrow2 hrow3 hrow4 hXx0 hXx1 hXx2 hXx3 hXx4 hXx5 hYx0 hYx1 hYx2 hYx3 hYx4 hYx5 hf1 hf2 hf3 hf4 hf5 hd0 hd1 hd2 hd3 hd4 hd5 ho4 hX4 hY4 hZ4 hU4 hS4 hB4 ak0 ak1 ak2 ak3 ak4 ak5 ak6 ak7 ak8 bk0 bk1 bk2 bk3 bk4 bk5 bk6 bk7 bk8 yk0 yk1 yk2 yk3 yk4 yk5 yk6 yk7 yk8 zk0 zk1 zk2 zk3 zk4 zk5 zk6 zk7 zk8 yy0 yy1 yy2 yy3 yy4 yy5 yy6 yy7 yy8 zz0 zz1 zz2 zz3 zz4 zz5 zz6 zz7 zz8 sk0 sk1 sk2 sk3 sk4 sk5 sk6 sk7 sk8 HW1 HW2 HJL HJO
  obtain ⟨ak0, ak1, ak2, ak3, ak4, ak5, ak6, ak7, ak8⟩ := box9 hA
  go_wp2_with fail
  refine wp_region_held_drew (S := (fun W => W.cell? ⟨w.heap.size, 0, none⟩ = some (.int .i64 c) ∧ W.cell? ⟨w.heap.size, 1, none⟩ = some (.int .i64 n) ∧ W.cell? ⟨w.heap.size, 2, none⟩ = some (.int .i64 1) ∧ W.cell? ⟨w.heap.size, 3, none⟩ = some (.int .i64 p) ∧ W.cell? ⟨w.heap.size, 4, none⟩ = some (.string s) ∧ W.cell? ⟨w.heap.size, 5, none⟩ = some (.slice a m cap) ∧ W.cell? ⟨w.heap.size, 6, none⟩ = some (.int .i64 tc) ∧ W.cell? ⟨w.heap.size, 7, none⟩ = some (.int .i64 tn) ∧ W.cell? ⟨w.heap.size, 8, none⟩ = some (.bool on))) (by kernel_rfl) ?hS14 (fun hHeld => ?rest14)
  case hS14 => exact box9 hA
  obtain ⟨u0, hu0⟩ : ∃ V, World.drew x5 = V := ⟨_, rfl⟩
  rw [hu0]
  rw [hu0] at hHeld
  have hd : Below x5.heap.size x5 u0 := by rw [← hu0]; exact below_drewN (Below.refl _ _) 1
  have hA0 := (hd.block _ (by omega)).trans hA
  have hZ0' := (hd.block _ (by omega)).trans hZc
  have hU0' := (hd.block _ (by omega)).trans hUc
  have hS0' := (hd.block _ (Array.getElem?_eq_some_iff.1 hSc).1).trans hSc
  have hB0' := hBc.trans (hd.mono hBc.size)
  have lt0 : w.heap.size + 3 < u0.heap.size := (Array.getElem?_eq_some_iff.1 hU0').1
  have hoc0 := hoc.below hd
  have hrow6 := hrow5.below hd
  clear hu0 hd
  refine takeDh (i := 0) (d := some 111) (v := ?vT15) rfl rfl (by kernel_rfl) (by kernel_rfl) (by kernel_rfl) (fun _ _ _ h => h) (Or.inl ⟨by rfl, ?hyT15⟩) (by assumption) ?rstT15
  case hyT15 => (intro w hSw; (try dsimp only at hSw); go_simp; (try with_reducible rfl))
  try simp only [Act.put, List.setIfInBounds_toArray, List.set_cons_zero, List.set_cons_succ]
  refine takeDh (i := 1) (d := some 112) (v := ?vT16) rfl rfl (by kernel_rfl) (by kernel_rfl) (by kernel_rfl) (fun _ _ _ h => h) (Or.inl ⟨by rfl, ?hyT16⟩) (by assumption) ?rstT16
  case hyT16 => (intro w hSw; (try dsimp only at hSw); go_simp; (try with_reducible rfl))
  try simp only [Act.put, List.setIfInBounds_toArray, List.set_cons_zero, List.set_cons_succ]
  refine wpAnyH_ready (rs := [2, 7]) (by kernel_rfl) (by simp) ?_
  refine AllReadyH.cons rfl (fun K hK => ?b17_0) (AllReadyH.cons rfl (fun K hK => ?b18_1) (AllReadyH.nil))
  case b17_0 =>
    go_simp
    refine (HP.out _ _ _ hrow6).mono ?_
    rintro e u1 ⟨rfl, hb⟩
    have hA1 := (hb.block _ (by omega)).trans hA0
    have hZ1' := (hb.block _ (by omega)).trans hZ0'
    have hU1' := (hb.block _ (by omega)).trans hU0'
    have hS1' := (hb.block _ (Array.getElem?_eq_some_iff.1 hS0').1).trans hS0'
    have hB1' := hB0'.trans (hb.mono hB0'.size)
    have lt1 : w.heap.size + 3 < u1.heap.size := (Array.getElem?_eq_some_iff.1 hU1').1
    have hoc1 := hoc0.below hb
    clear hb
    clear hHeld
    refine hK.out _ _ ?hS19 (fun hHeld => ?rest19)
    case hS19 => exact box9 hA1
    clear hK K
    try simp only [Act.put, List.setIfInBounds_toArray, List.set_cons_zero, List.set_cons_succ]
    refine wpAnyH_ready (rs := [3, 7]) (by kernel_rfl) (by simp) ?_
    refine AllReadyH.cons rfl (fun K hK => ?b20_0) (AllReadyH.cons rfl (fun K hK => ?b21_1) (AllReadyH.nil))
    case b20_0 =>
      go_simp
      refine (HMV.out _ hB1').mono ?_
      rintro e u2 ⟨ya, ym, yc, rfl, hoy, hb⟩
      have hA2 := (hb.block _ (by omega)).trans hA1
      have hZ2' := (hb.block _ (by omega)).trans hZ1'
      have hU2' := (hb.block _ (by omega)).trans hU1'
      have hS2' := (hb.block _ (Array.getElem?_eq_some_iff.1 hS1').1).trans hS1'
      have hB2' := hB1'.trans (hb.mono hB1'.size)
      have lt2 : w.heap.size + 3 < u2.heap.size := (Array.getElem?_eq_some_iff.1 hU2').1
      have hoc2 := hoc1.below hb
      clear hb
      clear hHeld
      refine hK.out _ _ ?hS22 (fun hHeld => ?rest22)
      case hS22 => exact box9 hA2
      clear hK K
      try simp only [Act.put, List.setIfInBounds_toArray, List.set_cons_zero, List.set_cons_succ]
      refine takeDh (i := 4) (d := some 110) (v := ?vT23) rfl rfl (by kernel_rfl) (by kernel_rfl) (by kernel_rfl) (fun _ _ _ h => h) (Or.inl ⟨by rfl, ?hyT23⟩) (by assumption) ?rstT23
      case hyT23 => (intro w hSw; (try dsimp only at hSw); go_simp; (try with_reducible rfl))
      try simp only [Act.put, List.setIfInBounds_toArray, List.set_cons_zero, List.set_cons_succ]
      refine takeDh (i := 5) (d := some 115) (v := ?vT24) rfl rfl (by kernel_rfl) (by kernel_rfl) (by kernel_rfl) (fun _ _ _ h => h) (Or.inl ⟨by rfl, ?hyT24⟩) (by assumption) ?rstT24
      case hyT24 => (intro w hSw; (try dsimp only at hSw); go_simp; (try with_reducible rfl))
      try simp only [Act.put, List.setIfInBounds_toArray, List.set_cons_zero, List.set_cons_succ]
      refine takeDh (i := 6) (d := some 116) (v := ?vT25) rfl rfl (by kernel_rfl) (by kernel_rfl) (by kernel_rfl) (fun _ _ _ h => h) (Or.inl ⟨by rfl, ?hyT25⟩) (by assumption) ?rstT25
      case hyT25 => (intro w hSw; (try dsimp only at hSw); go_simp; (try with_reducible rfl))
      try simp only [Act.put, List.setIfInBounds_toArray, List.set_cons_zero, List.set_cons_succ]
      refine wpAnyH_ready (rs := [7]) (by kernel_rfl) (by simp) ?_
      refine AllReadyH.cons rfl (fun K hK => ?b26_0) (AllReadyH.nil)
      case b26_0 =>
        go_simp
        obtain ⟨u3, hv⟩ : ∃ V, u2.alloc (Obj.cells #[.int .i64 0, .int .i64 0, .int .i64 0, .int .i64 0, .string ⟨#[]⟩, .slice none 0 0, .int .i64 0, .int .i64 0, .bool false] 34) = V := ⟨_, rfl⟩
        have hb : Below u2.heap.size u2 u3 := by rw [← hv]; exact (Below.refl _ _).alloc (Nat.le_refl _) _
        have hA3 := (hb.block _ (by omega)).trans hA2
        have hZ3' := (hb.block _ (by omega)).trans hZ2'
        have hU3' := (hb.block _ (by omega)).trans hU2'
        have hS3' := (hb.block _ (Array.getElem?_eq_some_iff.1 hS2').1).trans hS2'
        have hB3' := hB2'.trans (hb.mono hB2'.size)
        have lt3 : w.heap.size + 3 < u3.heap.size := (Array.getElem?_eq_some_iff.1 hU3').1
        have hoc3 := hoc2.below hb
        have hbx : u3.heap[u2.heap.size]? = some (Obj.cells #[.int .i64 0, .int .i64 0, .int .i64 0, .int .i64 0, .string ⟨#[]⟩, .slice none 0 0, .int .i64 0, .int .i64 0, .bool false] 34) := by rw [← hv]; exact heap_alloc_new _ _
        have hbxlo : w.heap.size + 3 < u2.heap.size := lt2
        have hbxs : v1.heap.size < u2.heap.size := (Array.getElem?_eq_some_iff.1 hS2').1
        have hoy := hoy.below hb
        rw [hv]
        generalize u2.heap.size = bx at *
        clear hb hv
        clear hHeld
        refine hK.out _ _ ?hS27 (fun hHeld => ?rest27)
        case hS27 => exact box9 hA3
        clear hK K
        try simp only [Act.put, List.setIfInBounds_toArray, List.set_cons_zero, List.set_cons_succ]
        obtain ⟨y0, e7, hT0, hBy, hK7⟩ := store9 hbx hB3' (by omega) (.int .i64 c5) (.int .i64 n5) (.int .i64 k5) (.int .i64 p5) (.string s5) (.slice ya ym yc) (.int .i64 tc5) (.int .i64 tn5) (.bool on5)
        obtain ⟨d0, d1, d2, d3, d4, d5, d6, d7, d8⟩ := box9 hbx
        obtain ⟨dz0, dz1, dz2, dz3, dz4, dz5, dz6, dz7, dz8⟩ := wr9 hbx
        have hAy := hK7.block hA3 (by omega)
        have hZ6 := hK7.block hZ3' (by omega)
        have hU6 := hK7.block hU3' (by omega)
        have hS6 := hK7.block hS3' (by omega)
        have ho6 := own_type hoc3 hbx (by decide) hK7
        have hoy6 := own_type hoy hbx (by decide) hK7
        refine wpAnyH_ready (rs := [8]) (by kernel_rfl) (by simp) ?_
        refine AllReadyH.cons rfl (fun K hK => ?_) AllReadyH.nil
        go_simp
        try rw [e7]
        clear hHeld
        refine hK.out _ _ ?hS28 (fun hHeld => ?rest28)
        case hS28 => exact box9 hAy
        clear hK K
        try simp only [Act.put, List.setIfInBounds_toArray, List.set_cons_zero, List.set_cons_succ]
        refine takeDh (i := 9) (d := some 15) (v := ?vT29) rfl rfl (by kernel_rfl) (by kernel_rfl) (by kernel_rfl) (fun _ _ _ h => h) (Or.inl ⟨by rfl, ?hyT29⟩) (by assumption) ?rstT29
        case hyT29 => (intro w hSw; (try dsimp only at hSw); go_simp; (try with_reducible rfl))
        try simp only [Act.put, List.setIfInBounds_toArray, List.set_cons_zero, List.set_cons_succ]
        refine wpAnyH_done (by kernel_rfl) ?_ _
        clear hHeld
        obtain ⟨v6, hv6⟩ : ∃ V, y0 = V := ⟨_, rfl⟩
        subst hv6
        obtain ⟨yk0, yk1, yk2, yk3, yk4, yk5, yk6, yk7, yk8⟩ := box9 hZ6
        obtain ⟨yy0, yy1, yy2, yy3, yy4, yy5, yy6, yy7, yy8⟩ := wr9 hZ6
        obtain ⟨zk0, zk1, zk2, zk3, zk4, zk5, zk6, zk7, zk8⟩ := box9 hU6
        obtain ⟨zz0, zz1, zz2, zz3, zz4, zz5, zz6, zz7, zz8⟩ := wr9 hU6
        have hB6 := hBy
        obtain ⟨W8, e8, hx8, hB8, hK8⟩ := store9 hZ6 hB6 (by omega) (.int .i64 0) (.int .i64 0) (.int .i64 0) (.int .i64 0) (.string ⟨#[]⟩) (.slice none 0 0) (.int .i64 0) (.int .i64 0) (.bool false)
        have hU8 := hK8.block hU6 (by omega)
        obtain ⟨q0, q1, q2, q3, q4, q5, q6, q7, q8⟩ := box9 hU8
        obtain ⟨qz0, qz1, qz2, qz3, qz4, qz5, qz6, qz7, qz8⟩ := wr9 hU8
        obtain ⟨W9, e9, hx9, hB9, hK9⟩ := store9 hU8 hB8 (by omega) (.int .i64 0) (.int .i64 0) (.int .i64 0) (.int .i64 0) (.string ⟨#[]⟩) (.slice none 0 0) (.int .i64 0) (.int .i64 0) (.bool false)
        have hy9 := hK9.block hx8 (by omega)
        obtain ⟨r0, r1, r2, r3, r4, r5, r6, r7, r8⟩ := box9 hx9
        obtain ⟨t0, t1, t2, t3, t4, t5, t6, t7, t8⟩ := box9 hy9
        go_wp2_with fail
        try rw [e9]
        refine bodyPost_ret (v := .tuple #[.agg #[.int .i64 0, .int .i64 0, .int .i64 0, .int .i64 0, .string ⟨#[]⟩, .slice none 0 0, .int .i64 0, .int .i64 0, .bool false], .agg #[.int .i64 0, .int .i64 0, .int .i64 0, .int .i64 0, .string ⟨#[]⟩, .slice none 0 0, .int .i64 0, .int .i64 0, .bool false], .int .i64 z5]) (by simp [results, Tryz.results52, go_sem, r0, r1, r2, r3, r4, r5, r6, r7, r8, t0, t1, t2, t3, t4, t5, t6, t7, t8]) rfl ⟨none, 0, 0, none, 0, 0, rfl, ownF_nil _ _, ownF_nil _ _, hB9⟩
    case b21_1 =>
      go_simp
      obtain ⟨u2, hv⟩ : ∃ V, u1.alloc (Obj.cells #[.int .i64 0, .int .i64 0, .int .i64 0, .int .i64 0, .string ⟨#[]⟩, .slice none 0 0, .int .i64 0, .int .i64 0, .bool false] 34) = V := ⟨_, rfl⟩
      have hb : Below u1.heap.size u1 u2 := by rw [← hv]; exact (Below.refl _ _).alloc (Nat.le_refl _) _
      have hA2 := (hb.block _ (by omega)).trans hA1
      have hZ2' := (hb.block _ (by omega)).trans hZ1'
      have hU2' := (hb.block _ (by omega)).trans hU1'
      have hS2' := (hb.block _ (Array.getElem?_eq_some_iff.1 hS1').1).trans hS1'
      have hB2' := hB1'.trans (hb.mono hB1'.size)
      have lt2 : w.heap.size + 3 < u2.heap.size := (Array.getElem?_eq_some_iff.1 hU2').1
      have hoc2 := hoc1.below hb
      have hbx : u2.heap[u1.heap.size]? = some (Obj.cells #[.int .i64 0, .int .i64 0, .int .i64 0, .int .i64 0, .string ⟨#[]⟩, .slice none 0 0, .int .i64 0, .int .i64 0, .bool false] 34) := by rw [← hv]; exact heap_alloc_new _ _
      have hbxlo : w.heap.size + 3 < u1.heap.size := lt1
      have hbxs : v1.heap.size < u1.heap.size := (Array.getElem?_eq_some_iff.1 hS1').1
      rw [hv]
      generalize u1.heap.size = bx at *
      clear hb hv
      clear hHeld
      refine hK.out _ _ ?hS30 (fun hHeld => ?rest30)
      case hS30 => exact box9 hA2
      clear hK K
      try simp only [Act.put, List.setIfInBounds_toArray, List.set_cons_zero, List.set_cons_succ]
      refine wpAnyH_ready (rs := [3]) (by kernel_rfl) (by simp) ?_
      refine AllReadyH.cons rfl (fun K hK => ?b31_0) (AllReadyH.nil)
      case b31_0 =>
        go_simp
        refine (HMV.out _ hB2').mono ?_
        rintro e u3 ⟨ya, ym, yc, rfl, hoy, hb⟩
        have hA3 := (hb.block _ (by omega)).trans hA2
        have hZ3' := (hb.block _ (by omega)).trans hZ2'
        have hU3' := (hb.block _ (by omega)).trans hU2'
        have hS3' := (hb.block _ (Array.getElem?_eq_some_iff.1 hS2').1).trans hS2'
        have hB3' := hB2'.trans (hb.mono hB2'.size)
        have lt3 : w.heap.size + 3 < u3.heap.size := (Array.getElem?_eq_some_iff.1 hU3').1
        have hoc3 := hoc2.below hb
        have hbx := (hb.block _ (Array.getElem?_eq_some_iff.1 hbx).1).trans hbx
        clear hb
        clear hHeld
        refine hK.out _ _ ?hS32 (fun hHeld => ?rest32)
        case hS32 => exact box9 hA3
        clear hK K
        try simp only [Act.put, List.setIfInBounds_toArray, List.set_cons_zero, List.set_cons_succ]
        refine takeDh (i := 4) (d := some 110) (v := ?vT33) rfl rfl (by kernel_rfl) (by kernel_rfl) (by kernel_rfl) (fun _ _ _ h => h) (Or.inl ⟨by rfl, ?hyT33⟩) (by assumption) ?rstT33
        case hyT33 => (intro w hSw; (try dsimp only at hSw); go_simp; (try with_reducible rfl))
        try simp only [Act.put, List.setIfInBounds_toArray, List.set_cons_zero, List.set_cons_succ]
        refine takeDh (i := 5) (d := some 115) (v := ?vT34) rfl rfl (by kernel_rfl) (by kernel_rfl) (by kernel_rfl) (fun _ _ _ h => h) (Or.inl ⟨by rfl, ?hyT34⟩) (by assumption) ?rstT34
        case hyT34 => (intro w hSw; (try dsimp only at hSw); go_simp; (try with_reducible rfl))
        try simp only [Act.put, List.setIfInBounds_toArray, List.set_cons_zero, List.set_cons_succ]
        refine takeDh (i := 6) (d := some 116) (v := ?vT35) rfl rfl (by kernel_rfl) (by kernel_rfl) (by kernel_rfl) (fun _ _ _ h => h) (Or.inl ⟨by rfl, ?hyT35⟩) (by assumption) ?rstT35
        case hyT35 => (intro w hSw; (try dsimp only at hSw); go_simp; (try with_reducible rfl))
        try simp only [Act.put, List.setIfInBounds_toArray, List.set_cons_zero, List.set_cons_succ]
        obtain ⟨y0, e7, hT0, hBy, hK7⟩ := store9 hbx hB3' (by omega) (.int .i64 c5) (.int .i64 n5) (.int .i64 k5) (.int .i64 p5) (.string s5) (.slice ya ym yc) (.int .i64 tc5) (.int .i64 tn5) (.bool on5)
        obtain ⟨d0, d1, d2, d3, d4, d5, d6, d7, d8⟩ := box9 hbx
        obtain ⟨dz0, dz1, dz2, dz3, dz4, dz5, dz6, dz7, dz8⟩ := wr9 hbx
        have hAy := hK7.block hA3 (by omega)
        have hZ6 := hK7.block hZ3' (by omega)
        have hU6 := hK7.block hU3' (by omega)
        have hS6 := hK7.block hS3' (by omega)
        have ho6 := own_type hoc3 hbx (by decide) hK7
        have hoy6 := own_type hoy hbx (by decide) hK7
        refine wpAnyH_ready (rs := [8]) (by kernel_rfl) (by simp) ?_
        refine AllReadyH.cons rfl (fun K hK => ?_) AllReadyH.nil
        go_simp
        try rw [e7]
        clear hHeld
        refine hK.out _ _ ?hS36 (fun hHeld => ?rest36)
        case hS36 => exact box9 hAy
        clear hK K
        try simp only [Act.put, List.setIfInBounds_toArray, List.set_cons_zero, List.set_cons_succ]
        refine takeDh (i := 9) (d := some 15) (v := ?vT37) rfl rfl (by kernel_rfl) (by kernel_rfl) (by kernel_rfl) (fun _ _ _ h => h) (Or.inl ⟨by rfl, ?hyT37⟩) (by assumption) ?rstT37
        case hyT37 => (intro w hSw; (try dsimp only at hSw); go_simp; (try with_reducible rfl))
        try simp only [Act.put, List.setIfInBounds_toArray, List.set_cons_zero, List.set_cons_succ]
        refine wpAnyH_done (by kernel_rfl) ?_ _
        clear hHeld
        obtain ⟨v6, hv6⟩ : ∃ V, y0 = V := ⟨_, rfl⟩
        subst hv6
        obtain ⟨yk0, yk1, yk2, yk3, yk4, yk5, yk6, yk7, yk8⟩ := box9 hZ6
        obtain ⟨yy0, yy1, yy2, yy3, yy4, yy5, yy6, yy7, yy8⟩ := wr9 hZ6
        obtain ⟨zk0, zk1, zk2, zk3, zk4, zk5, zk6, zk7, zk8⟩ := box9 hU6
        obtain ⟨zz0, zz1, zz2, zz3, zz4, zz5, zz6, zz7, zz8⟩ := wr9 hU6
        have hB6 := hBy
        obtain ⟨W8, e8, hx8, hB8, hK8⟩ := store9 hZ6 hB6 (by omega) (.int .i64 0) (.int .i64 0) (.int .i64 0) (.int .i64 0) (.string ⟨#[]⟩) (.slice none 0 0) (.int .i64 0) (.int .i64 0) (.bool false)
        have hU8 := hK8.block hU6 (by omega)
        obtain ⟨q0, q1, q2, q3, q4, q5, q6, q7, q8⟩ := box9 hU8
        obtain ⟨qz0, qz1, qz2, qz3, qz4, qz5, qz6, qz7, qz8⟩ := wr9 hU8
        obtain ⟨W9, e9, hx9, hB9, hK9⟩ := store9 hU8 hB8 (by omega) (.int .i64 0) (.int .i64 0) (.int .i64 0) (.int .i64 0) (.string ⟨#[]⟩) (.slice none 0 0) (.int .i64 0) (.int .i64 0) (.bool false)
        have hy9 := hK9.block hx8 (by omega)
        obtain ⟨r0, r1, r2, r3, r4, r5, r6, r7, r8⟩ := box9 hx9
        obtain ⟨t0, t1, t2, t3, t4, t5, t6, t7, t8⟩ := box9 hy9
        go_wp2_with fail
        try rw [e9]
        refine bodyPost_ret (v := .tuple #[.agg #[.int .i64 0, .int .i64 0, .int .i64 0, .int .i64 0, .string ⟨#[]⟩, .slice none 0 0, .int .i64 0, .int .i64 0, .bool false], .agg #[.int .i64 0, .int .i64 0, .int .i64 0, .int .i64 0, .string ⟨#[]⟩, .slice none 0 0, .int .i64 0, .int .i64 0, .bool false], .int .i64 z5]) (by simp [results, Tryz.results52, go_sem, r0, r1, r2, r3, r4, r5, r6, r7, r8, t0, t1, t2, t3, t4, t5, t6, t7, t8]) rfl ⟨none, 0, 0, none, 0, 0, rfl, ownF_nil _ _, ownF_nil _ _, hB9⟩
  case b18_1 =>
    go_simp
    obtain ⟨u1, hv⟩ : ∃ V, u0.alloc (Obj.cells #[.int .i64 0, .int .i64 0, .int .i64 0, .int .i64 0, .string ⟨#[]⟩, .slice none 0 0, .int .i64 0, .int .i64 0, .bool false] 34) = V := ⟨_, rfl⟩
    have hb : Below u0.heap.size u0 u1 := by rw [← hv]; exact (Below.refl _ _).alloc (Nat.le_refl _) _
    have hA1 := (hb.block _ (by omega)).trans hA0
    have hZ1' := (hb.block _ (by omega)).trans hZ0'
    have hU1' := (hb.block _ (by omega)).trans hU0'
    have hS1' := (hb.block _ (Array.getElem?_eq_some_iff.1 hS0').1).trans hS0'
    have hB1' := hB0'.trans (hb.mono hB0'.size)
    have lt1 : w.heap.size + 3 < u1.heap.size := (Array.getElem?_eq_some_iff.1 hU1').1
    have hoc1 := hoc0.below hb
    have hbx : u1.heap[u0.heap.size]? = some (Obj.cells #[.int .i64 0, .int .i64 0, .int .i64 0, .int .i64 0, .string ⟨#[]⟩, .slice none 0 0, .int .i64 0, .int .i64 0, .bool false] 34) := by rw [← hv]; exact heap_alloc_new _ _
    have hbxlo : w.heap.size + 3 < u0.heap.size := lt0
    have hbxs : v1.heap.size < u0.heap.size := (Array.getElem?_eq_some_iff.1 hS0').1
    have hrow6 := hrow6.below hb
    rw [hv]
    generalize u0.heap.size = bx at *
    clear hb hv
    clear hHeld
    refine hK.out _ _ ?hS38 (fun hHeld => ?rest38)
    case hS38 => exact box9 hA1
    clear hK K
    try simp only [Act.put, List.setIfInBounds_toArray, List.set_cons_zero, List.set_cons_succ]
    refine wpAnyH_ready (rs := [2]) (by kernel_rfl) (by simp) ?_
    refine AllReadyH.cons rfl (fun K hK => ?b39_0) (AllReadyH.nil)
    case b39_0 =>
      go_simp
      refine (HP.out _ _ _ hrow6).mono ?_
      rintro e u2 ⟨rfl, hb⟩
      have hA2 := (hb.block _ (by omega)).trans hA1
      have hZ2' := (hb.block _ (by omega)).trans hZ1'
      have hU2' := (hb.block _ (by omega)).trans hU1'
      have hS2' := (hb.block _ (Array.getElem?_eq_some_iff.1 hS1').1).trans hS1'
      have hB2' := hB1'.trans (hb.mono hB1'.size)
      have lt2 : w.heap.size + 3 < u2.heap.size := (Array.getElem?_eq_some_iff.1 hU2').1
      have hoc2 := hoc1.below hb
      have hbx := (hb.block _ (Array.getElem?_eq_some_iff.1 hbx).1).trans hbx
      clear hb
      clear hHeld
      refine hK.out _ _ ?hS40 (fun hHeld => ?rest40)
      case hS40 => exact box9 hA2
      clear hK K
      try simp only [Act.put, List.setIfInBounds_toArray, List.set_cons_zero, List.set_cons_succ]
      refine wpAnyH_ready (rs := [3]) (by kernel_rfl) (by simp) ?_
      refine AllReadyH.cons rfl (fun K hK => ?b41_0) (AllReadyH.nil)
      case b41_0 =>
        go_simp
        refine (HMV.out _ hB2').mono ?_
        rintro e u3 ⟨ya, ym, yc, rfl, hoy, hb⟩
        have hA3 := (hb.block _ (by omega)).trans hA2
        have hZ3' := (hb.block _ (by omega)).trans hZ2'
        have hU3' := (hb.block _ (by omega)).trans hU2'
        have hS3' := (hb.block _ (Array.getElem?_eq_some_iff.1 hS2').1).trans hS2'
        have hB3' := hB2'.trans (hb.mono hB2'.size)
        have lt3 : w.heap.size + 3 < u3.heap.size := (Array.getElem?_eq_some_iff.1 hU3').1
        have hoc3 := hoc2.below hb
        have hbx := (hb.block _ (Array.getElem?_eq_some_iff.1 hbx).1).trans hbx
        clear hb
        clear hHeld
        refine hK.out _ _ ?hS42 (fun hHeld => ?rest42)
        case hS42 => exact box9 hA3
        clear hK K
        try simp only [Act.put, List.setIfInBounds_toArray, List.set_cons_zero, List.set_cons_succ]
        refine takeDh (i := 4) (d := some 110) (v := ?vT43) rfl rfl (by kernel_rfl) (by kernel_rfl) (by kernel_rfl) (fun _ _ _ h => h) (Or.inl ⟨by rfl, ?hyT43⟩) (by assumption) ?rstT43
        case hyT43 => (intro w hSw; (try dsimp only at hSw); go_simp; (try with_reducible rfl))
        try simp only [Act.put, List.setIfInBounds_toArray, List.set_cons_zero, List.set_cons_succ]
        refine takeDh (i := 5) (d := some 115) (v := ?vT44) rfl rfl (by kernel_rfl) (by kernel_rfl) (by kernel_rfl) (fun _ _ _ h => h) (Or.inl ⟨by rfl, ?hyT44⟩) (by assumption) ?rstT44
        case hyT44 => (intro w hSw; (try dsimp only at hSw); go_simp; (try with_reducible rfl))
        try simp only [Act.put, List.setIfInBounds_toArray, List.set_cons_zero, List.set_cons_succ]
        refine takeDh (i := 6) (d := some 116) (v := ?vT45) rfl rfl (by kernel_rfl) (by kernel_rfl) (by kernel_rfl) (fun _ _ _ h => h) (Or.inl ⟨by rfl, ?hyT45⟩) (by assumption) ?rstT45
        case hyT45 => (intro w hSw; (try dsimp only at hSw); go_simp; (try with_reducible rfl))
        try simp only [Act.put, List.setIfInBounds_toArray, List.set_cons_zero, List.set_cons_succ]
        obtain ⟨y0, e7, hT0, hBy, hK7⟩ := store9 hbx hB3' (by omega) (.int .i64 c5) (.int .i64 n5) (.int .i64 k5) (.int .i64 p5) (.string s5) (.slice ya ym yc) (.int .i64 tc5) (.int .i64 tn5) (.bool on5)
        obtain ⟨d0, d1, d2, d3, d4, d5, d6, d7, d8⟩ := box9 hbx
        obtain ⟨dz0, dz1, dz2, dz3, dz4, dz5, dz6, dz7, dz8⟩ := wr9 hbx
        have hAy := hK7.block hA3 (by omega)
        have hZ6 := hK7.block hZ3' (by omega)
        have hU6 := hK7.block hU3' (by omega)
        have hS6 := hK7.block hS3' (by omega)
        have ho6 := own_type hoc3 hbx (by decide) hK7
        have hoy6 := own_type hoy hbx (by decide) hK7
        refine wpAnyH_ready (rs := [8]) (by kernel_rfl) (by simp) ?_
        refine AllReadyH.cons rfl (fun K hK => ?_) AllReadyH.nil
        go_simp
        try rw [e7]
        clear hHeld
        refine hK.out _ _ ?hS46 (fun hHeld => ?rest46)
        case hS46 => exact box9 hAy
        clear hK K
        try simp only [Act.put, List.setIfInBounds_toArray, List.set_cons_zero, List.set_cons_succ]
        refine takeDh (i := 9) (d := some 15) (v := ?vT47) rfl rfl (by kernel_rfl) (by kernel_rfl) (by kernel_rfl) (fun _ _ _ h => h) (Or.inl ⟨by rfl, ?hyT47⟩) (by assumption) ?rstT47
        case hyT47 => (intro w hSw; (try dsimp only at hSw); go_simp; (try with_reducible rfl))
        try simp only [Act.put, List.setIfInBounds_toArray, List.set_cons_zero, List.set_cons_succ]
        refine wpAnyH_done (by kernel_rfl) ?_ _
        clear hHeld
        obtain ⟨v6, hv6⟩ : ∃ V, y0 = V := ⟨_, rfl⟩
        subst hv6
        obtain ⟨yk0, yk1, yk2, yk3, yk4, yk5, yk6, yk7, yk8⟩ := box9 hZ6
        obtain ⟨yy0, yy1, yy2, yy3, yy4, yy5, yy6, yy7, yy8⟩ := wr9 hZ6
        obtain ⟨zk0, zk1, zk2, zk3, zk4, zk5, zk6, zk7, zk8⟩ := box9 hU6
        obtain ⟨zz0, zz1, zz2, zz3, zz4, zz5, zz6, zz7, zz8⟩ := wr9 hU6
        have hB6 := hBy
        obtain ⟨W8, e8, hx8, hB8, hK8⟩ := store9 hZ6 hB6 (by omega) (.int .i64 0) (.int .i64 0) (.int .i64 0) (.int .i64 0) (.string ⟨#[]⟩) (.slice none 0 0) (.int .i64 0) (.int .i64 0) (.bool false)
        have hU8 := hK8.block hU6 (by omega)
        obtain ⟨q0, q1, q2, q3, q4, q5, q6, q7, q8⟩ := box9 hU8
        obtain ⟨qz0, qz1, qz2, qz3, qz4, qz5, qz6, qz7, qz8⟩ := wr9 hU8
        obtain ⟨W9, e9, hx9, hB9, hK9⟩ := store9 hU8 hB8 (by omega) (.int .i64 0) (.int .i64 0) (.int .i64 0) (.int .i64 0) (.string ⟨#[]⟩) (.slice none 0 0) (.int .i64 0) (.int .i64 0) (.bool false)
        have hy9 := hK9.block hx8 (by omega)
        obtain ⟨r0, r1, r2, r3, r4, r5, r6, r7, r8⟩ := box9 hx9
        obtain ⟨t0, t1, t2, t3, t4, t5, t6, t7, t8⟩ := box9 hy9
        go_wp2_with fail
        try rw [e9]
        refine bodyPost_ret (v := .tuple #[.agg #[.int .i64 0, .int .i64 0, .int .i64 0, .int .i64 0, .string ⟨#[]⟩, .slice none 0 0, .int .i64 0, .int .i64 0, .bool false], .agg #[.int .i64 0, .int .i64 0, .int .i64 0, .int .i64 0, .string ⟨#[]⟩, .slice none 0 0, .int .i64 0, .int .i64 0, .bool false], .int .i64 z5]) (by simp [results, Tryz.results52, go_sem, r0, r1, r2, r3, r4, r5, r6, r7, r8, t0, t1, t2, t3, t4, t5, t6, t7, t8]) rfl ⟨none, 0, 0, none, 0, 0, rfl, ownF_nil _ _, ownF_nil _ _, hB9⟩
end Go.Proofs.YtmdnmhdimfglaaaGreatDoor
