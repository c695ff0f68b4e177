import Derived.Test.YtmdnmhdimfglaaaGreatDoorGaA
import Derived.Test.YtmdnmhdimfglaaaGreatDoorXlA
namespace Go.Proofs.YtmdnmhdimfglaaaGreatDoor
open Go.RowKit Go.Lib
set_option maxRecDepth 100000
set_option maxHeartbeats 8000000 in
theorem crossed_run {o o2 : OpV} {a : Option Addr} {m cap : Nat} {b : Option Addr} {m2 cap2 : Nat} {w : World} (hR : Sp.Rng w a m cap o.l) (hR2 : Sp.Rng w b m2 cap2 o2.l) (hs1 : o.s.size ≤ 9223372036854775807) (hs2 : o2.s.size ≤ 9223372036854775807) (hw : Bar w) (r1 : Right o) (r2 : Right o2) (e1 : (inclP o2 o true).2 = 0) :
    Calls Tryz.prog 12 #[opVal o (.slice a m cap), opVal o2 (.slice b m2 cap2)] w fun e w' => ∃ va vm vc ya ym yc, e = .returned (.tuple #[opVal (inclP o o2 false).1 (.slice va vm vc), opVal (inclP o2 o true).1 (.slice ya ym yc), .int .i64 (inclP o o2 false).2]) ∧ Src (.slice a m cap) o.l w w' (.slice va vm vc) (inclP o o2 false).1.l ∧ Src (.slice b m2 cap2) o2.l w w' (.slice ya ym yc) (inclP o2 o true).1.l ∧ Below w.heap.size w w' := by
  have HI1 : Hid (∀ (W : World), Below w.heap.size w W → Calls Tryz.prog 19 #[opVal o2 (.slice b m2 cap2), opVal o (.slice a m cap), .bool true] W fun e w' => ∃ va vm vc, e = .returned (.tuple #[opVal (inclP o2 o true).1 (.slice va vm vc), .int .i64 0]) ∧ Src (.slice b m2 cap2) o2.l W w' (.slice va vm vc) (inclP o2 o true).1.l ∧ Below W.heap.size W w') := fun W hb => by
    have := included_any (ear := true) (b := a) (m2 := m) (cap2 := cap) (hR2.below hb) (by omega) (by omega) (hw.below hb) r2 r1
    rw [e1] at this
    exact this
  have HI2 : Hid (∀ (W : World), Below w.heap.size w W → Calls Tryz.prog 19 #[opVal o (.slice a m cap), opVal o2 (.slice b m2 cap2), .bool false] W fun e w' => ∃ va vm vc, e = .returned (.tuple #[opVal (inclP o o2 false).1 (.slice va vm vc), .int .i64 (inclP o o2 false).2]) ∧ Src (.slice a m cap) o.l W w' (.slice va vm vc) (inclP o o2 false).1.l ∧ Below W.heap.size W w') := fun W hb => by
    have := included_any (ear := false) (b := b) (m2 := m2) (cap2 := cap2) (hR.below hb) (by omega) (by omega) (hw.below hb) r1 r2
    exact this
  clear e1
  generalize (inclP o o2 false).2 = z2 at *
  generalize (inclP o o2 false).1 = q1 at *
  generalize (inclP o2 o true).1 = q2 at *
  clear hR hR2 hs1 hs2 hw r1 r2
  obtain ⟨c3, n3, k3, p3, s3, l3, tc3, tn3, on3⟩ := q1
  obtain ⟨c4, n4, k4, p4, s4, l4, tc4, tn4, on4⟩ := q2
  obtain ⟨c, n, k, p, s, l, tc, tn, on⟩ := o
  obtain ⟨c2, n2, k2, p2, s2, l2, tc2, tn2, on2⟩ := o2
  simp only [opVal] at *
  obtain ⟨W0, hW0⟩ : ∃ W0, (((w.alloc (Obj.cells #[.int .i64 c, .int .i64 n, .int .i64 k, .int .i64 p, .string s, .slice a m cap, .int .i64 tc, .int .i64 tn, .bool on] 34)).alloc (Obj.cells #[.int .i64 c2, .int .i64 n2, .int .i64 k2, .int .i64 p2, .string s2, .slice b m2 cap2, .int .i64 tc2, .int .i64 tn2, .bool on2] 34)).alloc (Obj.cells #[.int .i64 0, .int .i64 0, .int .i64 0, .int .i64 0, .string ⟨#[]⟩, .slice none 0 0, .int .i64 0, .int .i64 0, .bool false] 34)).alloc (Obj.cells #[.int .i64 0, .int .i64 0, .int .i64 0, .int .i64 0, .string ⟨#[]⟩, .slice none 0 0, .int .i64 0, .int .i64 0, .bool false] 34) = W0 := ⟨_, rfl⟩
  have hX : W0.heap[w.heap.size]? = some (Obj.cells #[.int .i64 c, .int .i64 n, .int .i64 k, .int .i64 p, .string s, .slice a m cap, .int .i64 tc, .int .i64 tn, .bool on] 34) := by rw [← hW0]; exact (Below.heap_alloc _ _ _ (by simp; omega)).trans ((Below.heap_alloc _ _ _ (by simp; omega)).trans ((Below.heap_alloc _ _ _ (by simp)).trans (alloc_last _ _ _ rfl)))
  have hY : W0.heap[w.heap.size + 1]? = some (Obj.cells #[.int .i64 c2, .int .i64 n2, .int .i64 k2, .int .i64 p2, .string s2, .slice b m2 cap2, .int .i64 tc2, .int .i64 tn2, .bool on2] 34) := by rw [← hW0]; exact (Below.heap_alloc _ _ _ (by first | (simp; done) | (simp; omega))).trans ((Below.heap_alloc _ _ _ (by simp)).trans (alloc_last _ _ _ (by simp)))
  have hZ : W0.heap[w.heap.size + 2]? = some (Obj.cells #[.int .i64 0, .int .i64 0, .int .i64 0, .int .i64 0, .string ⟨#[]⟩, .slice none 0 0, .int .i64 0, .int .i64 0, .bool false] 34) := by rw [← hW0]; exact (Below.heap_alloc _ _ _ (by simp)).trans (alloc_last _ _ _ (by simp))
  have hV : W0.heap[w.heap.size + 3]? = some (Obj.cells #[.int .i64 0, .int .i64 0, .int .i64 0, .int .i64 0, .string ⟨#[]⟩, .slice none 0 0, .int .i64 0, .int .i64 0, .bool false] 34) := by rw [← hW0]; exact alloc_last _ _ _ (by simp)
  have hB0 : Below w.heap.size w W0 := by rw [← hW0]; exact ((((Below.refl w.heap.size w).alloc (Nat.le_refl _) _).alloc (by simp) _).alloc (by simp; omega) _).alloc (by simp; omega) _
  have alt : w.heap.size < W0.heap.size := (Array.getElem?_eq_some_iff.1 hX).1
  have blt : w.heap.size + 1 < W0.heap.size := (Array.getElem?_eq_some_iff.1 hY).1
  have zlt : w.heap.size + 2 < W0.heap.size := (Array.getElem?_eq_some_iff.1 hZ).1
  have vlt : w.heap.size + 3 < W0.heap.size := (Array.getElem?_eq_some_iff.1 hV).1
  obtain ⟨ak0, ak1, ak2, ak3, ak4, ak5, ak6, ak7, ak8⟩ := box9 hX
  obtain ⟨bk0, bk1, bk2, bk3, bk4, bk5, bk6, bk7, bk8⟩ := box9 hY
  go_enter Tryz.func12, Tryz.ntmps12
  go_wp2_with fail
  refine (HI1.out _ hB0).mono ?_
  rintro e w1 ⟨ya, ym, yc, rfl, hS, hcur⟩
  have hB1 := hB0.trans (hcur.mono hB0.size)
  have hX1 := (hcur.block _ alt).trans hX
  have hY1 := (hcur.block _ blt).trans hY
  have hZ1 := (hcur.block _ zlt).trans hZ
  have hV1 := (hcur.block _ vlt).trans hV
  obtain ⟨W9, e9, hx9, hB9, hK9⟩ := store9 hV1 hB1 (by omega) (.int .i64 c4) (.int .i64 n4) (.int .i64 k4) (.int .i64 p4) (.string s4) (.slice ya ym yc) (.int .i64 tc4) (.int .i64 tn4) (.bool on4)
  have HS1 : Hid (Src (.slice b m2 cap2) l2 W0 W9 (.slice ya ym yc) l4) := hS.step hK9 vlt (Nat.le_refl _)
  have zlt0 := zlt
  have h0s := hB0.size
  obtain ⟨d0, d1, d2, d3, d4, d5, d6, d7, d8⟩ := box9 hV1
  obtain ⟨dz0, dz1, dz2, dz3, dz4, dz5, dz6, dz7, dz8⟩ := wr9 hV1
  clear ak0 ak1 ak2 ak3 ak4 ak5 ak6 ak7 ak8 bk0 bk1 bk2 bk3 bk4 bk5 bk6 bk7 bk8 HI1 hS
  have hX2 := hK9.block hX1 (by omega)
  have hY2 := hK9.block hY1 (by omega)
  have hZ2 := hK9.block hZ1 (by omega)
  obtain ⟨ak0, ak1, ak2, ak3, ak4, ak5, ak6, ak7, ak8⟩ := box9 hX2
  obtain ⟨bk0, bk1, bk2, bk3, bk4, bk5, bk6, bk7, bk8⟩ := box9 hY2
  have HI3 := HI2.out W9 hB9
  clear hX1 hY1 hZ1 hB1 hX hY hZ hV hB0 hcur alt blt zlt vlt hW0 HI2
  go_wp2_with fail
  try rw [e9]
  refine HI3.mono ?_
  rintro e w2 ⟨va, vm, vc, rfl, hS, hcur⟩
  have alt : w.heap.size < W9.heap.size := (Array.getElem?_eq_some_iff.1 hX2).1
  have zlt : w.heap.size + 2 < W9.heap.size := (Array.getElem?_eq_some_iff.1 hZ2).1
  have vlt : w.heap.size + 3 < W9.heap.size := (Array.getElem?_eq_some_iff.1 hx9).1
  have hB2 := hB9.trans (hcur.mono hB9.size)
  have hZ3 := (hcur.block _ zlt).trans hZ2
  have hV3 := (hcur.block _ vlt).trans hx9
  have HS2 := HS1.out.below hcur
  clear ak0 ak1 ak2 ak3 ak4 ak5 ak6 ak7 ak8 bk0 bk1 bk2 bk3 bk4 bk5 bk6 bk7 bk8 d0 dz0 d1 dz1 d2 dz2 d3 dz3 d4 dz4 d5 dz5 d6 dz6 d7 dz7 d8 dz8 e9 hV1
  obtain ⟨W8, e8, hx8, hB8, hK8⟩ := store9 hZ3 hB2 (by omega) (.int .i64 c3) (.int .i64 n3) (.int .i64 k3) (.int .i64 p3) (.string s3) (.slice va vm vc) (.int .i64 tc3) (.int .i64 tn3) (.bool on3)
  obtain ⟨d0, d1, d2, d3, d4, d5, d6, d7, d8⟩ := box9 hZ3
  obtain ⟨dz0, dz1, dz2, dz3, dz4, dz5, dz6, dz7, dz8⟩ := wr9 hZ3
  have hV8 := hK8.block hV3 (by omega)
  obtain ⟨r0, r1, r2, r3, r4, r5, r6, r7, r8⟩ := box9 hx8
  obtain ⟨q0, q1, q2, q3, q4, q5, q6, q7, q8⟩ := box9 hV8
  obtain ⟨rz0, rz1, rz2, rz3, rz4, rz5, rz6, rz7, rz8⟩ := wr9 hx8
  obtain ⟨qz0, qz1, qz2, qz3, qz4, qz5, qz6, qz7, qz8⟩ := wr9 hV8
  have HS3 : Hid (Src (.slice a m cap) l w W8 (.slice va vm vc) l3) := hS.step hK8 zlt hB9.size
  have HS4 : Hid (Src (.slice b m2 cap2) l2 w W8 (.slice ya ym yc) l4) := HS2.step hK8 zlt0 h0s
  have sr0 : W8.drew.setCell ⟨w.heap.size + 2, 0, none⟩ (.int .i64 c3) = W8.drew := setCell_self (by simpa using r0)
  have sr1 : W8.drew.setCell ⟨w.heap.size + 2, 1, none⟩ (.int .i64 n3) = W8.drew := setCell_self (by simpa using r1)
  have sr2 : W8.drew.setCell ⟨w.heap.size + 2, 2, none⟩ (.int .i64 k3) = W8.drew := setCell_self (by simpa using r2)
  have sr3 : W8.drew.setCell ⟨w.heap.size + 2, 3, none⟩ (.int .i64 p3) = W8.drew := setCell_self (by simpa using r3)
  have sr4 : W8.drew.setCell ⟨w.heap.size + 2, 4, none⟩ (.string s3) = W8.drew := setCell_self (by simpa using r4)
  have sr5 : W8.drew.setCell ⟨w.heap.size + 2, 5, none⟩ (.slice va vm vc) = W8.drew := setCell_self (by simpa using r5)
  have sr6 : W8.drew.setCell ⟨w.heap.size + 2, 6, none⟩ (.int .i64 tc3) = W8.drew := setCell_self (by simpa using r6)
  have sr7 : W8.drew.setCell ⟨w.heap.size + 2, 7, none⟩ (.int .i64 tn3) = W8.drew := setCell_self (by simpa using r7)
  have sr8 : W8.drew.setCell ⟨w.heap.size + 2, 8, none⟩ (.bool on3) = W8.drew := setCell_self (by simpa using r8)
  have sq0 : W8.drew.setCell ⟨w.heap.size + 3, 0, none⟩ (.int .i64 c4) = W8.drew := setCell_self (by simpa using q0)
  have sq1 : W8.drew.setCell ⟨w.heap.size + 3, 1, none⟩ (.int .i64 n4) = W8.drew := setCell_self (by simpa using q1)
  have sq2 : W8.drew.setCell ⟨w.heap.size + 3, 2, none⟩ (.int .i64 k4) = W8.drew := setCell_self (by simpa using q2)
  have sq3 : W8.drew.setCell ⟨w.heap.size + 3, 3, none⟩ (.int .i64 p4) = W8.drew := setCell_self (by simpa using q3)
  have sq4 : W8.drew.setCell ⟨w.heap.size + 3, 4, none⟩ (.string s4) = W8.drew := setCell_self (by simpa using q4)
  have sq5 : W8.drew.setCell ⟨w.heap.size + 3, 5, none⟩ (.slice ya ym yc) = W8.drew := setCell_self (by simpa using q5)
  have sq6 : W8.drew.setCell ⟨w.heap.size + 3, 6, none⟩ (.int .i64 tc4) = W8.drew := setCell_self (by simpa using q6)
  have sq7 : W8.drew.setCell ⟨w.heap.size + 3, 7, none⟩ (.int .i64 tn4) = W8.drew := setCell_self (by simpa using q7)
  have sq8 : W8.drew.setCell ⟨w.heap.size + 3, 8, none⟩ (.bool on4) = W8.drew := setCell_self (by simpa using q8)
  clear HI3 HS1 HS2 hS hZ3 hV3 hB2 hcur
  go_wp2_with fail
  try rw [e8]
  go_region
  all_goals
    go_wp2_with fail
    refine bodyPost_ret (v := .tuple #[.agg #[.int .i64 c3, .int .i64 n3, .int .i64 k3, .int .i64 p3, .string s3, .slice va vm vc, .int .i64 tc3, .int .i64 tn3, .bool on3], .agg #[.int .i64 c4, .int .i64 n4, .int .i64 k4, .int .i64 p4, .string s4, .slice ya ym yc, .int .i64 tc4, .int .i64 tn4, .bool on4], .int .i64 z2]) (by simp [results, Tryz.results12, go_sem, r0, r1, r2, r3, r4, r5, r6, r7, r8, q0, q1, q2, q3, q4, q5, q6, q7, q8]) rfl ⟨va, vm, vc, ya, ym, yc, rfl, HS3.out.below (Below.refl _ _).drew, HS4.out.below (Below.refl _ _).drew, hB8.drew⟩
set_option maxHeartbeats 8000000 in
theorem crossed_bad {o o2 : OpV} {a : Option Addr} {m cap : Nat} {b : Option Addr} {m2 cap2 : Nat} {w : World} (hR2 : Sp.Rng w b m2 cap2 o2.l) (hs1 : o.s.size ≤ 9223372036854775807) (hs2 : o2.s.size ≤ 9223372036854775807) (hw : Bar w) (r1 : Right o) (r2 : Right o2) (e1 : (inclP o2 o true).2 ≠ 0) :
    Calls Tryz.prog 12 #[opVal o (.slice a m cap), opVal o2 (.slice b m2 cap2)] w fun e w' => ∃ va vm vc ya ym yc, e = .returned (.tuple #[opVal op0 (.slice va vm vc), opVal op0 (.slice ya ym yc), .int .i64 (inclP o2 o true).2]) ∧ Src (.slice a m cap) o.l w w' (.slice va vm vc) op0.l ∧ Src (.slice b m2 cap2) o2.l w w' (.slice ya ym yc) op0.l ∧ Below w.heap.size w w' := by
  have HI1 : Hid (∀ (W : World), Below w.heap.size w W → Calls Tryz.prog 19 #[opVal o2 (.slice b m2 cap2), opVal o (.slice a m cap), .bool true] W fun e w' => ∃ va vm vc, e = .returned (.tuple #[opVal (inclP o2 o true).1 (.slice va vm vc), .int .i64 (inclP o2 o true).2]) ∧ Src (.slice b m2 cap2) o2.l W w' (.slice va vm vc) (inclP o2 o true).1.l ∧ Below W.heap.size W w') := fun W hb => by
    have := included_any (ear := true) (b := a) (m2 := m) (cap2 := cap) (hR2.below hb) (by omega) (by omega) (hw.below hb) r2 r1
    exact this
  generalize (inclP o2 o true).2 = z1 at *
  generalize (inclP o2 o true).1 = q2 at *
  clear hR2 hs1 hs2 hw r1 r2
  obtain ⟨c4, n4, k4, p4, s4, l4, tc4, tn4, on4⟩ := q2
  obtain ⟨c, n, k, p, s, l, tc, tn, on⟩ := o
  obtain ⟨c2, n2, k2, p2, s2, l2, tc2, tn2, on2⟩ := o2
  simp only [opVal] at *
  obtain ⟨W0, hW0⟩ : ∃ W0, (((w.alloc (Obj.cells #[.int .i64 c, .int .i64 n, .int .i64 k, .int .i64 p, .string s, .slice a m cap, .int .i64 tc, .int .i64 tn, .bool on] 34)).alloc (Obj.cells #[.int .i64 c2, .int .i64 n2, .int .i64 k2, .int .i64 p2, .string s2, .slice b m2 cap2, .int .i64 tc2, .int .i64 tn2, .bool on2] 34)).alloc (Obj.cells #[.int .i64 0, .int .i64 0, .int .i64 0, .int .i64 0, .string ⟨#[]⟩, .slice none 0 0, .int .i64 0, .int .i64 0, .bool false] 34)).alloc (Obj.cells #[.int .i64 0, .int .i64 0, .int .i64 0, .int .i64 0, .string ⟨#[]⟩, .slice none 0 0, .int .i64 0, .int .i64 0, .bool false] 34) = W0 := ⟨_, rfl⟩
  have hX : W0.heap[w.heap.size]? = some (Obj.cells #[.int .i64 c, .int .i64 n, .int .i64 k, .int .i64 p, .string s, .slice a m cap, .int .i64 tc, .int .i64 tn, .bool on] 34) := by rw [← hW0]; exact (Below.heap_alloc _ _ _ (by simp; omega)).trans ((Below.heap_alloc _ _ _ (by simp; omega)).trans ((Below.heap_alloc _ _ _ (by simp)).trans (alloc_last _ _ _ rfl)))
  have hY : W0.heap[w.heap.size + 1]? = some (Obj.cells #[.int .i64 c2, .int .i64 n2, .int .i64 k2, .int .i64 p2, .string s2, .slice b m2 cap2, .int .i64 tc2, .int .i64 tn2, .bool on2] 34) := by rw [← hW0]; exact (Below.heap_alloc _ _ _ (by first | (simp; done) | (simp; omega))).trans ((Below.heap_alloc _ _ _ (by simp)).trans (alloc_last _ _ _ (by simp)))
  have hZ : W0.heap[w.heap.size + 2]? = some (Obj.cells #[.int .i64 0, .int .i64 0, .int .i64 0, .int .i64 0, .string ⟨#[]⟩, .slice none 0 0, .int .i64 0, .int .i64 0, .bool false] 34) := by rw [← hW0]; exact (Below.heap_alloc _ _ _ (by simp)).trans (alloc_last _ _ _ (by simp))
  have hV : W0.heap[w.heap.size + 3]? = some (Obj.cells #[.int .i64 0, .int .i64 0, .int .i64 0, .int .i64 0, .string ⟨#[]⟩, .slice none 0 0, .int .i64 0, .int .i64 0, .bool false] 34) := by rw [← hW0]; exact alloc_last _ _ _ (by simp)
  have hB0 : Below w.heap.size w W0 := by rw [← hW0]; exact ((((Below.refl w.heap.size w).alloc (Nat.le_refl _) _).alloc (by simp) _).alloc (by simp; omega) _).alloc (by simp; omega) _
  have alt : w.heap.size < W0.heap.size := (Array.getElem?_eq_some_iff.1 hX).1
  have blt : w.heap.size + 1 < W0.heap.size := (Array.getElem?_eq_some_iff.1 hY).1
  have zlt : w.heap.size + 2 < W0.heap.size := (Array.getElem?_eq_some_iff.1 hZ).1
  have vlt : w.heap.size + 3 < W0.heap.size := (Array.getElem?_eq_some_iff.1 hV).1
  obtain ⟨ak0, ak1, ak2, ak3, ak4, ak5, ak6, ak7, ak8⟩ := box9 hX
  obtain ⟨bk0, bk1, bk2, bk3, bk4, bk5, bk6, bk7, bk8⟩ := box9 hY
  go_enter Tryz.func12, Tryz.ntmps12
  go_wp2_with fail
  refine (HI1.out _ hB0).mono ?_
  rintro e w1 ⟨ya, ym, yc, rfl, hS, hcur⟩
  have hB1 := hB0.trans (hcur.mono hB0.size)
  have hX1 := (hcur.block _ alt).trans hX
  have hY1 := (hcur.block _ blt).trans hY
  have hZ1 := (hcur.block _ zlt).trans hZ
  have hV1 := (hcur.block _ vlt).trans hV
  obtain ⟨W9, e9, hx9, hB9, hK9⟩ := store9 hV1 hB1 (by omega) (.int .i64 c4) (.int .i64 n4) (.int .i64 k4) (.int .i64 p4) (.string s4) (.slice ya ym yc) (.int .i64 tc4) (.int .i64 tn4) (.bool on4)
  obtain ⟨d0, d1, d2, d3, d4, d5, d6, d7, d8⟩ := box9 hV1
  obtain ⟨dz0, dz1, dz2, dz3, dz4, dz5, dz6, dz7, dz8⟩ := wr9 hV1
  clear ak0 bk0 ak1 bk1 ak2 bk2 ak3 bk3 ak4 bk4 ak5 bk5 ak6 bk6 ak7 bk7 ak8 bk8 HI1 hS
  have hZ2 := hK9.block hZ1 (by omega)
  have t1 : (z1 == 0) = false := beq_eq_false_iff_ne.2 e1
  have t2 : (z1 != 0) = true := by simp [bne, t1]
  have t3 : decide (z1 = 0) = false := decide_eq_false e1
  obtain ⟨W8, e8, hx8, hB8, hK8⟩ := store9 hZ2 hB9 (by omega) (.int .i64 0) (.int .i64 0) (.int .i64 0) (.int .i64 0) (.string ⟨#[]⟩) (.slice none 0 0) (.int .i64 0) (.int .i64 0) (.bool false)
  have hV8 := hK8.block hx9 (by omega)
  obtain ⟨W7, e7, hx7, hB7, hK7⟩ := store9 hV8 hB8 (by omega) (.int .i64 0) (.int .i64 0) (.int .i64 0) (.int .i64 0) (.string ⟨#[]⟩) (.slice none 0 0) (.int .i64 0) (.int .i64 0) (.bool false)
  have hZ7 := hK7.block hx8 (by omega)
  obtain ⟨f0, f1, f2, f3, f4, f5, f6, f7, f8⟩ := box9 hZ2
  obtain ⟨fz0, fz1, fz2, fz3, fz4, fz5, fz6, fz7, fz8⟩ := wr9 hZ2
  obtain ⟨g0, g1, g2, g3, g4, g5, g6, g7, g8⟩ := box9 hV8
  obtain ⟨gz0, gz1, gz2, gz3, gz4, gz5, gz6, gz7, gz8⟩ := wr9 hV8
  obtain ⟨r0, r1, r2, r3, r4, r5, r6, r7, r8⟩ := box9 hZ7
  obtain ⟨q0, q1, q2, q3, q4, q5, q6, q7, q8⟩ := box9 hx7
  clear hX1 hY1 hZ1 hB1 hX hY hZ hV hB0 hcur alt blt zlt vlt hW0
  go_wp2_with fail
  try rw [e9]
  go_wp2_with fail
  try rw [e8]
  go_wp2_with fail
  try rw [e7]
  refine bodyPost_ret (v := .tuple #[.agg #[.int .i64 0, .int .i64 0, .int .i64 0, .int .i64 0, .string ⟨#[]⟩, .slice none 0 0, .int .i64 0, .int .i64 0, .bool false], .agg #[.int .i64 0, .int .i64 0, .int .i64 0, .int .i64 0, .string ⟨#[]⟩, .slice none 0 0, .int .i64 0, .int .i64 0, .bool false], .int .i64 z1]) (by simp [results, Tryz.results12, go_sem, r0, r1, r2, r3, r4, r5, r6, r7, r8, q0, q1, q2, q3, q4, q5, q6, q7, q8]) rfl ⟨none, 0, 0, none, 0, 0, rfl, src_nil _ _ _ _, src_nil _ _ _ _, hB7⟩
theorem crossed_any {o o2 : OpV} {a : Option Addr} {m cap : Nat} {b : Option Addr} {m2 cap2 : Nat} {w : World} (hR : Sp.Rng w a m cap o.l) (hR2 : Sp.Rng w b m2 cap2 o2.l) (hs1 : o.s.size ≤ 9223372036854775807) (hs2 : o2.s.size ≤ 9223372036854775807) (hw : Bar w) (r1 : Right o) (r2 : Right o2) :
    Calls Tryz.prog 12 #[opVal o (.slice a m cap), opVal o2 (.slice b m2 cap2)] w fun e w' => ∃ va vm vc ya ym yc, e = .returned (.tuple #[opVal (crossP o o2).1.1 (.slice va vm vc), opVal (crossP o o2).1.2 (.slice ya ym yc), .int .i64 (crossP o o2).2]) ∧ Src (.slice a m cap) o.l w w' (.slice va vm vc) (crossP o o2).1.1.l ∧ Src (.slice b m2 cap2) o2.l w w' (.slice ya ym yc) (crossP o o2).1.2.l ∧ Below w.heap.size w w' := by
  unfold crossP
  by_cases e1 : (inclP o2 o true).2 ≠ 0
  · rw [if_pos e1]
    exact crossed_bad hR2 hs1 hs2 hw r1 r2 e1
  · rw [if_neg e1]
    exact crossed_run hR hR2 hs1 hs2 hw r1 r2 (Classical.not_not.1 e1)
end Go.Proofs.YtmdnmhdimfglaaaGreatDoor
