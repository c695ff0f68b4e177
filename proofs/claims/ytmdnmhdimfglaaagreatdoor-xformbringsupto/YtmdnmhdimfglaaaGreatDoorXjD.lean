import Derived.Test.YtmdnmhdimfglaaaGreatDoorXjC
namespace Go.Proofs.YtmdnmhdimfglaaaGreatDoor
open Go.RowKit Go.Lib
set_option maxRecDepth 100000
set_option maxHeartbeats 16000000 in
theorem transpose_copy {o o2 : OpV} {a : Option Addr} {m cap : Nat} {b : Option Addr} {m2 cap2 : Nat} {w : World} {c4 n4 k4 p4 : Int} {s4 : ByteArray} {l4 : List (Int × Int)} {tc4 tn4 : Int} {on4 : Bool} (HEX : Hid (∀ W, Below w.heap.size w W → Calls Tryz.prog 51 #[opVal o2 (.slice b m2 cap2), opVal o (.slice a m cap)] W fun e w' => Ans W (⟨c4, n4, k4, p4, s4, l4, tc4, tn4, on4⟩, 0) e w')) (hR : Sp.Rng w a m cap o.l) (hm : m ≤ 1000000000) (one : Bool) (hI1 : isB o.tc o.tn o2.tc o2.tn = one) (tgt : Bool) (hI2 : isB o.tc o.tn o2.c o2.n = tgt) (hk2 : o2.k ≠ 1) (hk : o.k ≠ 4) : Calls Tryz.prog 52 #[opVal o (.slice a m cap), opVal o2 (.slice b m2 cap2)] w fun e w' => Ans2 w ((⟨c4, n4, k4, p4, s4, l4, tc4, tn4, on4⟩, o), 0) e w' := by
  have I1 : Hid (∀ W : World, Calls Tryz.prog 71 #[.agg #[.int .i64 o.tc, .int .i64 o.tn], .agg #[.int .i64 o2.tc, .int .i64 o2.tn]] W fun e w' => e = .returned (.bool one) ∧ Below W.heap.size W w') := fun W => by
    have := is_anyX o.tc o.tn o2.tc o2.tn W
    rw [hI1] at this
    exact this
  have I2 : Hid (∀ W : World, Calls Tryz.prog 71 #[.agg #[.int .i64 o.tc, .int .i64 o.tn], .agg #[.int .i64 o2.c, .int .i64 o2.n]] W fun e w' => e = .returned (.bool tgt) ∧ Below W.heap.size W w') := fun W => by
    have := is_anyX o.tc o.tn o2.c o2.n W
    rw [hI2] at this
    exact this
  have HC : Hid (∀ W, Below w.heap.size w W → Calls Tryz.prog 22 #[opVal o (.slice a m cap)] W fun e w' => ∃ a' cap', e = .returned (opVal o (.slice a' m cap')) ∧ OwnF rangeV 2 91 w' W.heap.size (.slice a' m cap') o.l ∧ Below W.heap.size W w') := fun W hb => copy_any (hR.below hb) hm
  clear hI1 hI2 hR hm
  obtain ⟨c, n, k, p, s, l, tc, tn, on⟩ := o
  obtain ⟨c2, n2, k2, p2, s2, l2, tc2, tn2, on2⟩ := o2
  unfold Ans2
  simp only [opVal, Ans] at *
  have t1 : (k == 4) = false := beq_eq_false_iff_ne.2 hk
  have t2 : decide (k = 4) = false := decide_eq_false hk
  have t3 : (k2 == 1) = false := beq_eq_false_iff_ne.2 hk2
  have t4 : (k2 != 1) = true := by simp [bne, t3]
  have t5 : decide (k2 = 1) = false := decide_eq_false hk2
  obtain ⟨v0, hW0⟩ : ∃ V, (((w.alloc (Obj.cells #[.int .i64 c, .int .i64 n, .int .i64 k, .int .i64 p, .string s, .slice a m cap, .int .i64 tc, .int .i64 tn, .bool on] 34)).alloc (Obj.cells #[.int .i64 c2, .int .i64 n2, .int .i64 k2, .int .i64 p2, .string s2, .slice b m2 cap2, .int .i64 tc2, .int .i64 tn2, .bool on2] 34)).alloc (Obj.cells #[.int .i64 0, .int .i64 0, .int .i64 0, .int .i64 0, .string ⟨#[]⟩, .slice none 0 0, .int .i64 0, .int .i64 0, .bool false] 34)).alloc (Obj.cells #[.int .i64 0, .int .i64 0, .int .i64 0, .int .i64 0, .string ⟨#[]⟩, .slice none 0 0, .int .i64 0, .int .i64 0, .bool false] 34) = V := ⟨_, rfl⟩
  have hX0 : v0.heap[w.heap.size]? = some (Obj.cells #[.int .i64 c, .int .i64 n, .int .i64 k, .int .i64 p, .string s, .slice a m cap, .int .i64 tc, .int .i64 tn, .bool on] 34) := by rw [← hW0]; exact (Below.heap_alloc _ _ _ (by simp; omega)).trans ((Below.heap_alloc _ _ _ (by simp; omega)).trans ((Below.heap_alloc _ _ _ (by simp)).trans (heap_alloc_new _ _)))
  have hY0 : v0.heap[w.heap.size + 1]? = some (Obj.cells #[.int .i64 c2, .int .i64 n2, .int .i64 k2, .int .i64 p2, .string s2, .slice b m2 cap2, .int .i64 tc2, .int .i64 tn2, .bool on2] 34) := by rw [← hW0]; exact (Below.heap_alloc _ _ _ (by first | (simp; done) | (simp; omega))).trans ((Below.heap_alloc _ _ _ (by simp)).trans (alloc_last _ _ _ (by simp)))
  have hZ0 : v0.heap[w.heap.size + 2]? = some (Obj.cells #[.int .i64 0, .int .i64 0, .int .i64 0, .int .i64 0, .string ⟨#[]⟩, .slice none 0 0, .int .i64 0, .int .i64 0, .bool false] 34) := by rw [← hW0]; exact (Below.heap_alloc _ _ _ (by simp)).trans (alloc_last _ _ _ (by simp))
  have hU0 : v0.heap[w.heap.size + 3]? = some (Obj.cells #[.int .i64 0, .int .i64 0, .int .i64 0, .int .i64 0, .string ⟨#[]⟩, .slice none 0 0, .int .i64 0, .int .i64 0, .bool false] 34) := by rw [← hW0]; exact alloc_last _ _ _ (by simp)
  have hB0 : Below w.heap.size w v0 := by rw [← hW0]; exact ((((Below.refl w.heap.size w).alloc (Nat.le_refl _) _).alloc (by simp) _).alloc (by simp; omega) _).alloc (by simp; omega) _
  have alt0 : w.heap.size + 3 < v0.heap.size := (Array.getElem?_eq_some_iff.1 hU0).1
  obtain ⟨ak0, ak1, ak2, ak3, ak4, ak5, ak6, ak7, ak8⟩ := box9 hX0
  obtain ⟨bk0, bk1, bk2, bk3, bk4, bk5, bk6, bk7, bk8⟩ := box9 hY0
  obtain ⟨yk0, yk1, yk2, yk3, yk4, yk5, yk6, yk7, yk8⟩ := box9 hZ0
  obtain ⟨zk0, zk1, zk2, zk3, zk4, zk5, zk6, zk7, zk8⟩ := box9 hU0
  obtain ⟨yy0, yy1, yy2, yy3, yy4, yy5, yy6, yy7, yy8⟩ := wr9 hZ0
  obtain ⟨zz0, zz1, zz2, zz3, zz4, zz5, zz6, zz7, zz8⟩ := wr9 hU0
  go_enter Tryz.func52, Tryz.ntmps52
  go_wp2_with fail
  refine (HEX.out _ hB0).mono ?_
  rintro e v1 ⟨xa, xm, xc, rfl, ho1, hb1⟩
  have hlo0 : w.heap.size + 3 < v0.heap.size := alt0
  have hX1 := (hb1.block _ (by omega)).trans hX0
  have hY1 := (hb1.block _ (by omega)).trans hY0
  have hZ1 := (hb1.block _ (by omega)).trans hZ0
  have hU1 := (hb1.block _ (by omega)).trans hU0
  have hB1 := hB0.trans (hb1.mono hB0.size)
  have alt1 : w.heap.size + 3 < v1.heap.size := (Array.getElem?_eq_some_iff.1 hU1).1
  clear hb1 hX0 hY0 hZ0 hU0 hB0 alt0  ak0 ak1 ak2 ak3 ak4 ak5 ak6 ak7 ak8 bk0 bk1 bk2 bk3 bk4 bk5 bk6 bk7 bk8 yk0 yk1 yk2 yk3 yk4 yk5 yk6 yk7 yk8 zk0 zk1 zk2 zk3 zk4 zk5 zk6 zk7 zk8 yy0 yy1 yy2 yy3 yy4 yy5 yy6 yy7 yy8 zz0 zz1 zz2 zz3 zz4 zz5 zz6 zz7 zz8 HEX hW0
  obtain ⟨ak0, ak1, ak2, ak3, ak4, ak5, ak6, ak7, ak8⟩ := box9 hX1
  obtain ⟨bk0, bk1, bk2, bk3, bk4, bk5, bk6, bk7, bk8⟩ := box9 hY1
  obtain ⟨yk0, yk1, yk2, yk3, yk4, yk5, yk6, yk7, yk8⟩ := box9 hZ1
  obtain ⟨zk0, zk1, zk2, zk3, zk4, zk5, zk6, zk7, zk8⟩ := box9 hU1
  obtain ⟨yy0, yy1, yy2, yy3, yy4, yy5, yy6, yy7, yy8⟩ := wr9 hZ1
  obtain ⟨zz0, zz1, zz2, zz3, zz4, zz5, zz6, zz7, zz8⟩ := wr9 hU1
  obtain ⟨v2, hv2⟩ : ∃ V, v1.alloc (Obj.cells #[.int .i64 c4, .int .i64 n4, .int .i64 k4, .int .i64 p4, .string s4, .slice xa xm xc, .int .i64 tc4, .int .i64 tn4, .bool on4] 34) = V := ⟨_, rfl⟩
  have hb2 : Below v1.heap.size v1 v2 := by rw [← hv2]; exact (Below.refl _ _).alloc (Nat.le_refl _) _
  have hS2 : v2.heap[v1.heap.size]? = some (Obj.cells #[.int .i64 c4, .int .i64 n4, .int .i64 k4, .int .i64 p4, .string s4, .slice xa xm xc, .int .i64 tc4, .int .i64 tn4, .bool on4] 34) := by rw [← hv2]; exact heap_alloc_new _ _
  have ho2 := ho1.below hb2
  have hlo1 : w.heap.size + 3 < v1.heap.size := alt1
  obtain ⟨sk0, sk1, sk2, sk3, sk4, sk5, sk6, sk7, sk8⟩ := box9 hS2
  clear ho1
  have hX2 := (hb2.block _ (by omega)).trans hX1
  have hY2 := (hb2.block _ (by omega)).trans hY1
  have hZ2 := (hb2.block _ (by omega)).trans hZ1
  have hU2 := (hb2.block _ (by omega)).trans hU1
  have hB2 := hB1.trans (hb2.mono hB1.size)
  have alt2 : w.heap.size + 3 < v2.heap.size := (Array.getElem?_eq_some_iff.1 hU2).1
  clear hb2 hX1 hY1 hZ1 hU1 hB1 alt1  ak0 ak1 ak2 ak3 ak4 ak5 ak6 ak7 ak8 bk0 bk1 bk2 bk3 bk4 bk5 bk6 bk7 bk8 yk0 yk1 yk2 yk3 yk4 yk5 yk6 yk7 yk8 zk0 zk1 zk2 zk3 zk4 zk5 zk6 zk7 zk8 yy0 yy1 yy2 yy3 yy4 yy5 yy6 yy7 yy8 zz0 zz1 zz2 zz3 zz4 zz5 zz6 zz7 zz8 
  obtain ⟨ak0, ak1, ak2, ak3, ak4, ak5, ak6, ak7, ak8⟩ := box9 hX2
  obtain ⟨bk0, bk1, bk2, bk3, bk4, bk5, bk6, bk7, bk8⟩ := box9 hY2
  obtain ⟨yk0, yk1, yk2, yk3, yk4, yk5, yk6, yk7, yk8⟩ := box9 hZ2
  obtain ⟨zk0, zk1, zk2, zk3, zk4, zk5, zk6, zk7, zk8⟩ := box9 hU2
  obtain ⟨yy0, yy1, yy2, yy3, yy4, yy5, yy6, yy7, yy8⟩ := wr9 hZ2
  obtain ⟨zz0, zz1, zz2, zz3, zz4, zz5, zz6, zz7, zz8⟩ := wr9 hU2
  go_wp2_with fail
  refine (I1.out _).mono ?_
  rintro e v3 ⟨rfl, hb3⟩
  have ho3 := ho2.below hb3
  clear sk0 sk1 sk2 sk3 sk4 sk5 sk6 sk7 sk8 ho2
  have hX3 := (hb3.block _ (by omega)).trans hX2
  have hY3 := (hb3.block _ (by omega)).trans hY2
  have hZ3 := (hb3.block _ (by omega)).trans hZ2
  have hU3 := (hb3.block _ (by omega)).trans hU2
  have hS3 := (hb3.block _ (Array.getElem?_eq_some_iff.1 hS2).1).trans hS2
  have hB3 := hB2.trans (hb3.mono hB2.size)
  have alt3 : w.heap.size + 3 < v3.heap.size := (Array.getElem?_eq_some_iff.1 hU3).1
  clear hb3 hX2 hY2 hZ2 hU2 hB2 alt2 hS2 ak0 ak1 ak2 ak3 ak4 ak5 ak6 ak7 ak8 bk0 bk1 bk2 bk3 bk4 bk5 bk6 bk7 bk8 yk0 yk1 yk2 yk3 yk4 yk5 yk6 yk7 yk8 zk0 zk1 zk2 zk3 zk4 zk5 zk6 zk7 zk8 yy0 yy1 yy2 yy3 yy4 yy5 yy6 yy7 yy8 zz0 zz1 zz2 zz3 zz4 zz5 zz6 zz7 zz8 I1 
  obtain ⟨ak0, ak1, ak2, ak3, ak4, ak5, ak6, ak7, ak8⟩ := box9 hX3
  obtain ⟨bk0, bk1, bk2, bk3, bk4, bk5, bk6, bk7, bk8⟩ := box9 hY3
  obtain ⟨yk0, yk1, yk2, yk3, yk4, yk5, yk6, yk7, yk8⟩ := box9 hZ3
  obtain ⟨zk0, zk1, zk2, zk3, zk4, zk5, zk6, zk7, zk8⟩ := box9 hU3
  obtain ⟨yy0, yy1, yy2, yy3, yy4, yy5, yy6, yy7, yy8⟩ := wr9 hZ3
  obtain ⟨zz0, zz1, zz2, zz3, zz4, zz5, zz6, zz7, zz8⟩ := wr9 hU3
  obtain ⟨sk0, sk1, sk2, sk3, sk4, sk5, sk6, sk7, sk8⟩ := box9 hS3
  go_wp2_with fail
  refine (I2.out _).mono ?_
  rintro e v4 ⟨rfl, hb4⟩
  have ho4 := ho3.below hb4
  clear sk0 sk1 sk2 sk3 sk4 sk5 sk6 sk7 sk8 ho3
  have hX4 := (hb4.block _ (by omega)).trans hX3
  have hY4 := (hb4.block _ (by omega)).trans hY3
  have hZ4 := (hb4.block _ (by omega)).trans hZ3
  have hU4 := (hb4.block _ (by omega)).trans hU3
  have hS4 := (hb4.block _ (Array.getElem?_eq_some_iff.1 hS3).1).trans hS3
  have hB4 := hB3.trans (hb4.mono hB3.size)
  have alt4 : w.heap.size + 3 < v4.heap.size := (Array.getElem?_eq_some_iff.1 hU4).1
  clear hb4 hX3 hY3 hZ3 hU3 hB3 alt3 hS3 ak0 ak1 ak2 ak3 ak4 ak5 ak6 ak7 ak8 bk0 bk1 bk2 bk3 bk4 bk5 bk6 bk7 bk8 yk0 yk1 yk2 yk3 yk4 yk5 yk6 yk7 yk8 zk0 zk1 zk2 zk3 zk4 zk5 zk6 zk7 zk8 yy0 yy1 yy2 yy3 yy4 yy5 yy6 yy7 yy8 zz0 zz1 zz2 zz3 zz4 zz5 zz6 zz7 zz8 I2 
  obtain ⟨ak0, ak1, ak2, ak3, ak4, ak5, ak6, ak7, ak8⟩ := box9 hX4
  obtain ⟨bk0, bk1, bk2, bk3, bk4, bk5, bk6, bk7, bk8⟩ := box9 hY4
  obtain ⟨yk0, yk1, yk2, yk3, yk4, yk5, yk6, yk7, yk8⟩ := box9 hZ4
  obtain ⟨zk0, zk1, zk2, zk3, zk4, zk5, zk6, zk7, zk8⟩ := box9 hU4
  obtain ⟨yy0, yy1, yy2, yy3, yy4, yy5, yy6, yy7, yy8⟩ := wr9 hZ4
  obtain ⟨zz0, zz1, zz2, zz3, zz4, zz5, zz6, zz7, zz8⟩ := wr9 hU4
  obtain ⟨sk0, sk1, sk2, sk3, sk4, sk5, sk6, sk7, sk8⟩ := box9 hS4
  go_wp2_with fail
  refine wp_region_held_drew (S := (fun W => (W.cell? ⟨v1.heap.size, 0, none⟩ = some (.int .i64 c4) ∧ W.cell? ⟨v1.heap.size, 1, none⟩ = some (.int .i64 n4) ∧ W.cell? ⟨v1.heap.size, 2, none⟩ = some (.int .i64 k4) ∧ W.cell? ⟨v1.heap.size, 3, none⟩ = some (.int .i64 p4) ∧ W.cell? ⟨v1.heap.size, 4, none⟩ = some (.string s4) ∧ W.cell? ⟨v1.heap.size, 5, none⟩ = some (.slice xa xm xc) ∧ W.cell? ⟨v1.heap.size, 6, none⟩ = some (.int .i64 tc4) ∧ W.cell? ⟨v1.heap.size, 7, none⟩ = some (.int .i64 tn4) ∧ W.cell? ⟨v1.heap.size, 8, none⟩ = some (.bool on4)) ∧ (W.cell? ⟨w.heap.size, 0, none⟩ = some (.int .i64 c) ∧ W.cell? ⟨w.heap.size, 1, none⟩ = some (.int .i64 n) ∧ W.cell? ⟨w.heap.size, 2, none⟩ = some (.int .i64 k) ∧ W.cell? ⟨w.heap.size, 3, none⟩ = some (.int .i64 p) ∧ W.cell? ⟨w.heap.size, 4, none⟩ = some (.string s) ∧ W.cell? ⟨w.heap.size, 5, none⟩ = some (.slice a m cap) ∧ W.cell? ⟨w.heap.size, 6, none⟩ = some (.int .i64 tc) ∧ W.cell? ⟨w.heap.size, 7, none⟩ = some (.int .i64 tn) ∧ W.cell? ⟨w.heap.size, 8, none⟩ = some (.bool on)))) (by kernel_rfl) ?hS1 (fun hHeld => ?rest1)
  case hS1 => exact ⟨box9 hS4, box9 hX4⟩
  refine takeDh (i := 0) (d := some 79) (v := ?vT2) rfl rfl (by kernel_rfl) (by kernel_rfl) (by kernel_rfl) (fun _ _ _ h => h) (Or.inl ⟨by rfl, ?hyT2⟩) (by assumption) ?rstT2
  case hyT2 => (intro w hSw; (try dsimp only at hSw); go_simp; (try with_reducible rfl))
  try simp only [Act.put, List.setIfInBounds_toArray, List.set_cons_zero, List.set_cons_succ]
  refine takeDh (i := 1) (d := some 80) (v := ?vT3) rfl rfl (by kernel_rfl) (by kernel_rfl) (by kernel_rfl) (fun _ _ _ h => h) (Or.inl ⟨by rfl, ?hyT3⟩) (by assumption) ?rstT3
  case hyT3 => (intro w hSw; (try dsimp only at hSw); go_simp; (try with_reducible rfl))
  try simp only [Act.put, List.setIfInBounds_toArray, List.set_cons_zero, List.set_cons_succ]
  refine wpAnyH_ready (rs := [2]) (by kernel_rfl) (by simp) ?_
  refine AllReadyH.cons rfl (fun K hK => ?_) AllReadyH.nil
  go_simp
  refine (HC.out _ (below_drewN hB4 1)).mono ?_
  rintro e v5 ⟨ca, cc, rfl, ho5, hb5⟩
  have hb5 : Below v4.heap.size v4 v5 := (below_drewN (Below.refl _ _) 1).trans hb5
  have hX5 := (hb5.block _ (by omega)).trans hX4
  have hZ5 := (hb5.block _ (by omega)).trans hZ4
  have hU5 := (hb5.block _ (by omega)).trans hU4
  have hS5 := (hb5.block _ (Array.getElem?_eq_some_iff.1 hS4).1).trans hS4
  have hB5 := hB4.trans (hb5.mono hB4.size)
  have hoc5 := ho4.below hb5
  have ho5 : OwnF rangeV 2 91 v5 v4.heap.size (.slice ca m cc) l := ho5
  clear hHeld
  refine hK.out _ _ ?hS4 (fun hHeld => ?rest4)
  case hS4 => exact ⟨box9 hS5, box9 hX5⟩
  clear hK K
  try simp only [Act.put, List.setIfInBounds_toArray, List.set_cons_zero, List.set_cons_succ]
  obtain ⟨W8, e8, hx8, hB8, hK8⟩ := store9 hZ5 hB5 (by omega) (.int .i64 c4) (.int .i64 n4) (.int .i64 k4) (.int .i64 p4) (.string s4) (.slice xa xm xc) (.int .i64 tc4) (.int .i64 tn4) (.bool on4)
  obtain ⟨d0, d1, d2, d3, d4, d5, d6, d7, d8⟩ := box9 hZ5
  obtain ⟨dz0, dz1, dz2, dz3, dz4, dz5, dz6, dz7, dz8⟩ := wr9 hZ5
  have hX8 := hK8.block hX5 (by omega)
  have hS8 := hK8.block hS5 (by omega)
  have hU8 := hK8.block hU5 (by omega)
  refine wpAnyH_ready (rs := [3]) (by kernel_rfl) (by simp) ?_
  refine AllReadyH.cons rfl (fun K hK => ?_) AllReadyH.nil
  go_simp
  try rw [e8]
  clear hHeld
  refine hK.out _ _ ?hS5 (fun hHeld => ?rest5)
  case hS5 => exact ⟨box9 hS8, box9 hX8⟩
  clear hK K
  try simp only [Act.put, List.setIfInBounds_toArray, List.set_cons_zero, List.set_cons_succ]
  obtain ⟨W9, e9, hx9, hB9, hK9⟩ := store9 hU8 hB8 (by omega) (.int .i64 c) (.int .i64 n) (.int .i64 k) (.int .i64 p) (.string s) (.slice ca m cc) (.int .i64 tc) (.int .i64 tn) (.bool on)
  obtain ⟨g0, g1, g2, g3, g4, g5, g6, g7, g8⟩ := box9 hU8
  obtain ⟨gz0, gz1, gz2, gz3, gz4, gz5, gz6, gz7, gz8⟩ := wr9 hU8
  have hX9 := hK9.block hX8 (by omega)
  have hS9 := hK9.block hS8 (by omega)
  have hy9 := hK9.block hx8 (by omega)
  refine wpAnyH_ready (rs := [4]) (by kernel_rfl) (by simp) ?_
  refine AllReadyH.cons rfl (fun K hK => ?_) AllReadyH.nil
  go_simp
  try rw [e9]
  clear hHeld
  refine hK.out _ _ ?hS6 (fun hHeld => ?rest6)
  case hS6 => exact ⟨box9 hS9, box9 hX9⟩
  clear hK K
  try simp only [Act.put, List.setIfInBounds_toArray, List.set_cons_zero, List.set_cons_succ]
  refine takeDh (i := 5) (d := some 6) (v := ?vT7) rfl rfl (by kernel_rfl) (by kernel_rfl) (by kernel_rfl) (fun _ _ _ h => h) (Or.inl ⟨by rfl, ?hyT7⟩) (by assumption) ?rstT7
  case hyT7 => (intro w hSw; (try dsimp only at hSw); go_simp; (try with_reducible rfl))
  try simp only [Act.put, List.setIfInBounds_toArray, List.set_cons_zero, List.set_cons_succ]
  refine wpAnyH_done (by kernel_rfl) ?_ _
  obtain ⟨r0, r1, r2, r3, r4, r5, r6, r7, r8⟩ := box9 hx9
  obtain ⟨t0, t1, t2, t3, t4, t5, t6, t7, t8⟩ := box9 hy9
  have HO1 : Hid (OwnF rangeV 2 91 W9 w.heap.size (.slice xa xm xc) l4) := (hK9.own (hK8.own hoc5 (by omega)) (by omega)).mono (by omega)
  have HO2 : Hid (OwnF rangeV 2 91 W9 w.heap.size (.slice ca m cc) l) := (hK9.own (hK8.own ho5 (by omega)) (by omega)).mono (by omega)
  clear hHeld
  go_wp2_with fail
  refine bodyPost_ret (v := .tuple #[.agg #[.int .i64 c4, .int .i64 n4, .int .i64 k4, .int .i64 p4, .string s4, .slice xa xm xc, .int .i64 tc4, .int .i64 tn4, .bool on4], .agg #[.int .i64 c, .int .i64 n, .int .i64 k, .int .i64 p, .string s, .slice ca m cc, .int .i64 tc, .int .i64 tn, .bool on], .int .i64 0]) (by simp [results, Tryz.results52, go_sem, r0, r1, r2, r3, r4, r5, r6, r7, r8, t0, t1, t2, t3, t4, t5, t6, t7, t8]) rfl ⟨xa, xm, xc, ca, m, cc, rfl, HO1.out, HO2.out, hB9⟩
end Go.Proofs.YtmdnmhdimfglaaaGreatDoor
