import Derived.Test.YtmdnmhdimfglaaaGreatDoorGaJ
namespace Go.Proofs.YtmdnmhdimfglaaaGreatDoor
open Go.RowKit Go.Lib
set_option maxRecDepth 100000
theorem setCell_self {W : World} {b i : Nat} {v : Value} (h : W.cell? ⟨b, i, none⟩ = some v) : W.setCell ⟨b, i, none⟩ v = W := by
  unfold World.setCell
  unfold World.cell? at h
  obtain ⟨heap, t, d, os, out⟩ := W
  simp only at *
  congr 1
  refine Array.ext_getElem? fun k => ?_
  rw [Array.getElem?_modify]
  by_cases hk : b = k
  · subst hk
    rw [if_pos rfl]
    cases hb : heap[b]? with
    | none => rfl
    | some o =>
      rw [hb] at h
      cases o with
      | cells c T fr =>
        simp at h
        simp only [Option.map_some, Option.isSome_none]
        congr 2
        obtain ⟨hi, rfl⟩ := Array.getElem?_eq_some_iff.1 h
        simp
        refine Array.ext (by simp) fun j h1 h2 => ?_
        rw [Array.getElem_setIfInBounds]
        split
        · subst_vars; rfl
        · rfl
      | _ => rfl
  · rw [if_neg hk]
end Go.Proofs.YtmdnmhdimfglaaaGreatDoor

namespace Go.Proofs.YtmdnmhdimfglaaaGreatDoor
open Go.RowKit Go.Lib
set_option maxRecDepth 100000
set_option maxHeartbeats 8000000 in
theorem transposed_any {o o2 : OpV} {a : Option Addr} {m cap : Nat} {b : Option Addr} {m2 cap2 : Nat} {w : World} (hR : Sp.Rng w a m cap o.l) (hR2 : Sp.Rng w b m2 cap2 o2.l) (hs1 : o.s.size ≤ 9223372036854775807) (hs2 : o2.s.size ≤ 9223372036854775807) (hw : Bar w) (r1 : Right o) (r2 : Right o2) :
    Calls Tryz.prog 16 #[opVal o (.slice a m cap), opVal o2 (.slice b m2 cap2)] w fun e w' => ∃ va vm vc ya ym yc, e = .returned (.tuple #[opVal (transP o o2).1.1 (.slice va vm vc), opVal (transP o o2).1.2 (.slice ya ym yc), .int .i64 (transP o o2).2]) ∧ Src (.slice b m2 cap2) o2.l w w' (.slice va vm vc) (transP o o2).1.1.l ∧ Src (.slice a m cap) o.l w w' (.slice ya ym yc) (transP o o2).1.2.l ∧ Below w.heap.size w w' := by
  have HE : Hid (∀ (W : World), Below w.heap.size w W → Calls Tryz.prog 34 #[opVal o2 (.slice b m2 cap2), opVal o (.slice a m cap)] W fun e w' => ∃ va vm vc, e = .returned (.tuple #[opVal (exclP o2 o).1 (.slice va vm vc), .int .i64 (exclP o2 o).2]) ∧ Src (.slice b m2 cap2) o2.l W w' (.slice va vm vc) (exclP o2 o).1.l ∧ Below W.heap.size W w') := fun W hb => excluded_any (hR2.below hb) (by omega) (hw.below hb) r2 r1
  have HO : Hid (∀ (W : World), Calls Tryz.prog 35 #[opVal o (.slice a m cap), opVal o2 (.slice b m2 cap2)] W fun e w' => e = .returned (.bool (orderedP o o2)) ∧ Below W.heap.size W w') := fun W => ordered_any
  have HI : Hid (∀ (W : World), Below w.heap.size w W → Calls Tryz.prog 19 #[opVal o (.slice a m cap), opVal o2 (.slice b m2 cap2), .bool true] W fun e w' => ∃ va vm vc, e = .returned (.tuple #[opVal (inclP o o2 true).1 (.slice va vm vc), .int .i64 (inclP o o2 true).2]) ∧ Src (.slice a m cap) o.l W w' (.slice va vm vc) (inclP o o2 true).1.l ∧ Below W.heap.size W w') := fun W hb => included_any (hR.below hb) (by omega) (by omega) (hw.below hb) r1 r2
  obtain ⟨q, hq⟩ : ∃ q, transP o o2 = q := ⟨_, rfl⟩
  rw [hq]
  unfold transP at hq
  generalize exclP o2 o = q1 at *
  generalize inclP o o2 true = q2 at *
  generalize orderedP o o2 = od at *
  clear hR hR2 hs1 hs2 hw r1 r2
  obtain ⟨⟨c3, n3, k3, p3, s3, l3, tc3, tn3, on3⟩, z1⟩ := q1
  obtain ⟨⟨c4, n4, k4, p4, s4, l4, tc4, tn4, on4⟩, z2⟩ := q2
  simp only at hq
  obtain ⟨c, n, k, p, s, l, tc, tn, on⟩ := o
  obtain ⟨c2, n2, k2, p2, s2, l2, tc2, tn2, on2⟩ := o2
  simp only [opVal] at *
  obtain ⟨W0, hW0⟩ : ∃ W0, (((w.alloc (Obj.cells #[.int .i64 c, .int .i64 n, .int .i64 k, .int .i64 p, .string s, .slice a m cap, .int .i64 tc, .int .i64 tn, .bool on] 34)).alloc (Obj.cells #[.int .i64 c2, .int .i64 n2, .int .i64 k2, .int .i64 p2, .string s2, .slice b m2 cap2, .int .i64 tc2, .int .i64 tn2, .bool on2] 34)).alloc (Obj.cells #[.int .i64 0, .int .i64 0, .int .i64 0, .int .i64 0, .string ⟨#[]⟩, .slice none 0 0, .int .i64 0, .int .i64 0, .bool false] 34)).alloc (Obj.cells #[.int .i64 0, .int .i64 0, .int .i64 0, .int .i64 0, .string ⟨#[]⟩, .slice none 0 0, .int .i64 0, .int .i64 0, .bool false] 34) = W0 := ⟨_, rfl⟩
  have hX : W0.heap[w.heap.size]? = some (Obj.cells #[.int .i64 c, .int .i64 n, .int .i64 k, .int .i64 p, .string s, .slice a m cap, .int .i64 tc, .int .i64 tn, .bool on] 34) := by rw [← hW0]; exact (Below.heap_alloc _ _ _ (by simp; omega)).trans ((Below.heap_alloc _ _ _ (by simp; omega)).trans ((Below.heap_alloc _ _ _ (by simp)).trans (alloc_last _ _ _ rfl)))
  have hY : W0.heap[w.heap.size + 1]? = some (Obj.cells #[.int .i64 c2, .int .i64 n2, .int .i64 k2, .int .i64 p2, .string s2, .slice b m2 cap2, .int .i64 tc2, .int .i64 tn2, .bool on2] 34) := by rw [← hW0]; exact (Below.heap_alloc _ _ _ (by first | (simp; done) | (simp; omega))).trans ((Below.heap_alloc _ _ _ (by simp)).trans (alloc_last _ _ _ (by simp)))
  have hZ : W0.heap[w.heap.size + 2]? = some (Obj.cells #[.int .i64 0, .int .i64 0, .int .i64 0, .int .i64 0, .string ⟨#[]⟩, .slice none 0 0, .int .i64 0, .int .i64 0, .bool false] 34) := by rw [← hW0]; exact (Below.heap_alloc _ _ _ (by simp)).trans (alloc_last _ _ _ (by simp))
  have hV : W0.heap[w.heap.size + 3]? = some (Obj.cells #[.int .i64 0, .int .i64 0, .int .i64 0, .int .i64 0, .string ⟨#[]⟩, .slice none 0 0, .int .i64 0, .int .i64 0, .bool false] 34) := by rw [← hW0]; exact alloc_last _ _ _ (by simp)
  have hB0 : Below w.heap.size w W0 := by rw [← hW0]; exact ((((Below.refl w.heap.size w).alloc (Nat.le_refl _) _).alloc (by simp) _).alloc (by simp; omega) _).alloc (by simp; omega) _
  have alt : w.heap.size < W0.heap.size := (Array.getElem?_eq_some_iff.1 hX).1
  have blt : w.heap.size + 1 < W0.heap.size := (Array.getElem?_eq_some_iff.1 hY).1
  have zlt : w.heap.size + 2 < W0.heap.size := (Array.getElem?_eq_some_iff.1 hZ).1
  have vlt : w.heap.size + 3 < W0.heap.size := (Array.getElem?_eq_some_iff.1 hV).1
  obtain ⟨ak0, ak1, ak2, ak3, ak4, ak5, ak6, ak7, ak8⟩ := box9 hX
  obtain ⟨bk0, bk1, bk2, bk3, bk4, bk5, bk6, bk7, bk8⟩ := box9 hY
  go_enter Tryz.func16, Tryz.ntmps16
  go_wp2_with fail
  refine (HE.out _ hB0).mono ?_
  rintro e w1 ⟨va, vm, vc, rfl, hS, hcur⟩
  have hB1 := hB0.trans (hcur.mono hB0.size)
  have hX1 := (hcur.block _ alt).trans hX
  have hY1 := (hcur.block _ blt).trans hY
  have hZ1 := (hcur.block _ zlt).trans hZ
  have hV1 := (hcur.block _ vlt).trans hV
  obtain ⟨W9, e9, hx9, hB9, hK9⟩ := store9 hZ1 hB1 (by omega) (.int .i64 c3) (.int .i64 n3) (.int .i64 k3) (.int .i64 p3) (.string s3) (.slice va vm vc) (.int .i64 tc3) (.int .i64 tn3) (.bool on3)
  have HS1 : Hid (Src (.slice b m2 cap2) l2 W0 W9 (.slice va vm vc) l3) := hS.step hK9 zlt (Nat.le_refl _)
  have vlt0 := vlt
  have h0s := hB0.size
  obtain ⟨d0, d1, d2, d3, d4, d5, d6, d7, d8⟩ := box9 hZ1
  obtain ⟨dz0, dz1, dz2, dz3, dz4, dz5, dz6, dz7, dz8⟩ := wr9 hZ1
  clear ak0 ak1 ak2 ak3 ak4 ak5 ak6 ak7 ak8 bk0 bk1 bk2 bk3 bk4 bk5 bk6 bk7 bk8 HE hS
  have hX2 := hK9.block hX1 (by omega)
  have hY2 := hK9.block hY1 (by omega)
  have hV2 := hK9.block hV1 (by omega)
  obtain ⟨ak0, ak1, ak2, ak3, ak4, ak5, ak6, ak7, ak8⟩ := box9 hX2
  obtain ⟨bk0, bk1, bk2, bk3, bk4, bk5, bk6, bk7, bk8⟩ := box9 hY2
  clear hX1 hY1 hV1 hB1 hX hY hZ hV hB0 hcur alt blt zlt vlt hW0
  by_cases h1 : z1 = 0
  · subst h1
    rw [if_neg (by simp)] at hq
    go_wp2_with fail
    try rw [e9]
    refine (HO.out _).mono ?_
    rintro e w2 ⟨rfl, hcur⟩
    have alt : w.heap.size < W9.heap.size := (Array.getElem?_eq_some_iff.1 hX2).1
    have blt : w.heap.size + 1 < W9.heap.size := (Array.getElem?_eq_some_iff.1 hY2).1
    have zlt : w.heap.size + 2 < W9.heap.size := (Array.getElem?_eq_some_iff.1 hx9).1
    have vlt : w.heap.size + 3 < W9.heap.size := (Array.getElem?_eq_some_iff.1 hV2).1
    have hB2 := hB9.trans (hcur.mono hB9.size)
    have hX3 := (hcur.block _ alt).trans hX2
    have hY3 := (hcur.block _ blt).trans hY2
    have hZ3 := (hcur.block _ zlt).trans hx9
    have hV3 := (hcur.block _ vlt).trans hV2
    have HS2 : Hid (Src (.slice b m2 cap2) l2 W0 w2 (.slice va vm vc) l3) := HS1.out.below hcur
    clear ak0 ak1 ak2 ak3 ak4 ak5 ak6 ak7 ak8 bk0 bk1 bk2 bk3 bk4 bk5 bk6 bk7 bk8 d0 dz0 d1 dz1 d2 dz2 d3 dz3 d4 dz4 d5 dz5 d6 dz6 d7 dz7 d8 dz8 e9 hZ1 HS1 HO hx9 hX2 hY2 hV2 hK9 hB9 hcur alt blt zlt vlt
    cases od with
    | true =>
      rw [if_pos rfl] at hq
      subst hq
      clear HI HS2
      obtain ⟨W7, e7, hx7, hB7, hK7⟩ := store9 hZ3 hB2 (by omega) (.int .i64 0) (.int .i64 0) (.int .i64 0) (.int .i64 0) (.string ⟨#[]⟩) (.slice none 0 0) (.int .i64 0) (.int .i64 0) (.bool false)
      obtain ⟨f0, f1, f2, f3, f4, f5, f6, f7, f8⟩ := box9 hZ3
      obtain ⟨fz0, fz1, fz2, fz3, fz4, fz5, fz6, fz7, fz8⟩ := wr9 hZ3
      have hV7 := hK7.block hV3 (by omega)
      obtain ⟨W6, e6, hx6, hB6, hK6⟩ := store9 hV7 hB7 (by omega) (.int .i64 0) (.int .i64 0) (.int .i64 0) (.int .i64 0) (.string ⟨#[]⟩) (.slice none 0 0) (.int .i64 0) (.int .i64 0) (.bool false)
      obtain ⟨g0, g1, g2, g3, g4, g5, g6, g7, g8⟩ := box9 hV7
      obtain ⟨gz0, gz1, gz2, gz3, gz4, gz5, gz6, gz7, gz8⟩ := wr9 hV7
      obtain ⟨r0, r1, r2, r3, r4, r5, r6, r7, r8⟩ := box9 (hK6.block hx7 (by omega))
      obtain ⟨q0, q1, q2, q3, q4, q5, q6, q7, q8⟩ := box9 hx6
      go_wp2_with fail
      try rw [e7]
      try rw [e6]
      refine bodyPost_ret (v := .tuple #[.agg #[.int .i64 0, .int .i64 0, .int .i64 0, .int .i64 0, .string ⟨#[]⟩, .slice none 0 0, .int .i64 0, .int .i64 0, .bool false], .agg #[.int .i64 0, .int .i64 0, .int .i64 0, .int .i64 0, .string ⟨#[]⟩, .slice none 0 0, .int .i64 0, .int .i64 0, .bool false], .int .i64 50]) (by simp [results, Tryz.results16, go_sem, r0, r1, r2, r3, r4, r5, r6, r7, r8, q0, q1, q2, q3, q4, q5, q6, q7, q8]) rfl ⟨none, 0, 0, none, 0, 0, rfl, src_nil _ _ _ _, src_nil _ _ _ _, hB6⟩
    | false =>
      rw [if_neg (by simp)] at hq
      obtain ⟨ak0, ak1, ak2, ak3, ak4, ak5, ak6, ak7, ak8⟩ := box9 hX3
      obtain ⟨bk0, bk1, bk2, bk3, bk4, bk5, bk6, bk7, bk8⟩ := box9 hY3
      have HI2 := HI.out w2 hB2
      clear HI
      go_wp2_with fail
      refine HI2.mono ?_
      rintro e w3 ⟨ya, ym, yc, rfl, hS, hcur⟩
      have zlt : w.heap.size + 2 < w2.heap.size := (Array.getElem?_eq_some_iff.1 hZ3).1
      have vlt : w.heap.size + 3 < w2.heap.size := (Array.getElem?_eq_some_iff.1 hV3).1
      have hB3 := hB2.trans (hcur.mono hB2.size)
      have hZ4 := (hcur.block _ zlt).trans hZ3
      have hV4 := (hcur.block _ vlt).trans hV3
      have HS3 : Hid (Src (.slice b m2 cap2) l2 W0 w3 (.slice va vm vc) l3) := HS2.out.below hcur
      clear ak0 ak1 ak2 ak3 ak4 ak5 ak6 ak7 ak8 bk0 bk1 bk2 bk3 bk4 bk5 bk6 bk7 bk8 HI2 HS2 hX3 hY3 hZ3 hV3 hcur
      obtain ⟨W8, e8, hx8, hB8, hK8⟩ := store9 hV4 hB3 (by omega) (.int .i64 c4) (.int .i64 n4) (.int .i64 k4) (.int .i64 p4) (.string s4) (.slice ya ym yc) (.int .i64 tc4) (.int .i64 tn4) (.bool on4)
      obtain ⟨d0, d1, d2, d3, d4, d5, d6, d7, d8⟩ := box9 hV4
      obtain ⟨dz0, dz1, dz2, dz3, dz4, dz5, dz6, dz7, dz8⟩ := wr9 hV4
      have hZ8 := hK8.block hZ4 (by omega)
      by_cases h2 : z2 = 0
      · subst h2
        rw [if_neg (by simp)] at hq
        subst hq
        obtain ⟨r0, r1, r2, r3, r4, r5, r6, r7, r8⟩ := box9 hZ8
        obtain ⟨q0, q1, q2, q3, q4, q5, q6, q7, q8⟩ := box9 hx8
        obtain ⟨rz0, rz1, rz2, rz3, rz4, rz5, rz6, rz7, rz8⟩ := wr9 hZ8
        obtain ⟨qz0, qz1, qz2, qz3, qz4, qz5, qz6, qz7, qz8⟩ := wr9 hx8
        have HS4 : Hid (Src (.slice b m2 cap2) l2 w W8 (.slice va vm vc) l3) := HS3.out.step hK8 vlt0 h0s
        have HS5 : Hid (Src (.slice a m cap) l w W8 (.slice ya ym yc) l4) := hS.step hK8 vlt hB2.size
        have sr0 : W8.drew.setCell ⟨w.heap.size + 2, 0, none⟩ (.int .i64 c3) = W8.drew := setCell_self (by simpa using r0)
        have sr1 : W8.drew.setCell ⟨w.heap.size + 2, 1, none⟩ (.int .i64 n3) = W8.drew := setCell_self (by simpa using r1)
        have sr2 : W8.drew.setCell ⟨w.heap.size + 2, 2, none⟩ (.int .i64 k3) = W8.drew := setCell_self (by simpa using r2)
        have sr3 : W8.drew.setCell ⟨w.heap.size + 2, 3, none⟩ (.int .i64 p3) = W8.drew := setCell_self (by simpa using r3)
        have sr4 : W8.drew.setCell ⟨w.heap.size + 2, 4, none⟩ (.string s3) = W8.drew := setCell_self (by simpa using r4)
        have sr5 : W8.drew.setCell ⟨w.heap.size + 2, 5, none⟩ (.slice va vm vc) = W8.drew := setCell_self (by simpa using r5)
        have sr6 : W8.drew.setCell ⟨w.heap.size + 2, 6, none⟩ (.int .i64 tc3) = W8.drew := setCell_self (by simpa using r6)
        have sr7 : W8.drew.setCell ⟨w.heap.size + 2, 7, none⟩ (.int .i64 tn3) = W8.drew := setCell_self (by simpa using r7)
        have sr8 : W8.drew.setCell ⟨w.heap.size + 2, 8, none⟩ (.bool on3) = W8.drew := setCell_self (by simpa using r8)
        have sq0 : W8.drew.setCell ⟨w.heap.size + 3, 0, none⟩ (.int .i64 c4) = W8.drew := setCell_self (by simpa using q0)
        have sq1 : W8.drew.setCell ⟨w.heap.size + 3, 1, none⟩ (.int .i64 n4) = W8.drew := setCell_self (by simpa using q1)
        have sq2 : W8.drew.setCell ⟨w.heap.size + 3, 2, none⟩ (.int .i64 k4) = W8.drew := setCell_self (by simpa using q2)
        have sq3 : W8.drew.setCell ⟨w.heap.size + 3, 3, none⟩ (.int .i64 p4) = W8.drew := setCell_self (by simpa using q3)
        have sq4 : W8.drew.setCell ⟨w.heap.size + 3, 4, none⟩ (.string s4) = W8.drew := setCell_self (by simpa using q4)
        have sq5 : W8.drew.setCell ⟨w.heap.size + 3, 5, none⟩ (.slice ya ym yc) = W8.drew := setCell_self (by simpa using q5)
        have sq6 : W8.drew.setCell ⟨w.heap.size + 3, 6, none⟩ (.int .i64 tc4) = W8.drew := setCell_self (by simpa using q6)
        have sq7 : W8.drew.setCell ⟨w.heap.size + 3, 7, none⟩ (.int .i64 tn4) = W8.drew := setCell_self (by simpa using q7)
        have sq8 : W8.drew.setCell ⟨w.heap.size + 3, 8, none⟩ (.bool on4) = W8.drew := setCell_self (by simpa using q8)
        clear HS3 hS hZ4 hB3
        go_wp2_with fail
        try rw [e8]
        go_region
        all_goals
          go_wp2_with fail
          refine bodyPost_ret (v := .tuple #[.agg #[.int .i64 c3, .int .i64 n3, .int .i64 k3, .int .i64 p3, .string s3, .slice va vm vc, .int .i64 tc3, .int .i64 tn3, .bool on3], .agg #[.int .i64 c4, .int .i64 n4, .int .i64 k4, .int .i64 p4, .string s4, .slice ya ym yc, .int .i64 tc4, .int .i64 tn4, .bool on4], .int .i64 0]) (by simp [results, Tryz.results16, go_sem, r0, r1, r2, r3, r4, r5, r6, r7, r8, q0, q1, q2, q3, q4, q5, q6, q7, q8]) rfl ⟨va, vm, vc, ya, ym, yc, rfl, HS4.out.below (Below.refl _ _).drew, HS5.out.below (Below.refl _ _).drew, hB8.drew⟩
      · rw [if_pos h2] at hq
        subst hq
        have t2 : (z2 == 0) = false := beq_eq_false_iff_ne.2 h2
        clear HS3 hS h2
        obtain ⟨W7, e7, hx7, hB7, hK7⟩ := store9 hZ8 hB8 (by omega) (.int .i64 0) (.int .i64 0) (.int .i64 0) (.int .i64 0) (.string ⟨#[]⟩) (.slice none 0 0) (.int .i64 0) (.int .i64 0) (.bool false)
        obtain ⟨f0, f1, f2, f3, f4, f5, f6, f7, f8⟩ := box9 hZ8
        obtain ⟨fz0, fz1, fz2, fz3, fz4, fz5, fz6, fz7, fz8⟩ := wr9 hZ8
        have hV7 := hK7.block hx8 (by omega)
        obtain ⟨W6, e6, hx6, hB6, hK6⟩ := store9 hV7 hB7 (by omega) (.int .i64 0) (.int .i64 0) (.int .i64 0) (.int .i64 0) (.string ⟨#[]⟩) (.slice none 0 0) (.int .i64 0) (.int .i64 0) (.bool false)
        obtain ⟨g0, g1, g2, g3, g4, g5, g6, g7, g8⟩ := box9 hV7
        obtain ⟨gz0, gz1, gz2, gz3, gz4, gz5, gz6, gz7, gz8⟩ := wr9 hV7
        obtain ⟨r0, r1, r2, r3, r4, r5, r6, r7, r8⟩ := box9 (hK6.block hx7 (by omega))
        obtain ⟨q0, q1, q2, q3, q4, q5, q6, q7, q8⟩ := box9 hx6
        go_wp2_with fail
        try rw [e7]
        try rw [e6]
        refine bodyPost_ret (v := .tuple #[.agg #[.int .i64 0, .int .i64 0, .int .i64 0, .int .i64 0, .string ⟨#[]⟩, .slice none 0 0, .int .i64 0, .int .i64 0, .bool false], .agg #[.int .i64 0, .int .i64 0, .int .i64 0, .int .i64 0, .string ⟨#[]⟩, .slice none 0 0, .int .i64 0, .int .i64 0, .bool false], .int .i64 z2]) (by simp [results, Tryz.results16, go_sem, r0, r1, r2, r3, r4, r5, r6, r7, r8, q0, q1, q2, q3, q4, q5, q6, q7, q8]) rfl ⟨none, 0, 0, none, 0, 0, rfl, src_nil _ _ _ _, src_nil _ _ _ _, hB6⟩
  · rw [if_pos h1] at hq
    subst hq
    have t1 : (z1 == 0) = false := beq_eq_false_iff_ne.2 h1
    clear HO HI HS1 h1
    obtain ⟨W7, e7, hx7, hB7, hK7⟩ := store9 hx9 hB9 (by omega) (.int .i64 0) (.int .i64 0) (.int .i64 0) (.int .i64 0) (.string ⟨#[]⟩) (.slice none 0 0) (.int .i64 0) (.int .i64 0) (.bool false)
    obtain ⟨f0, f1, f2, f3, f4, f5, f6, f7, f8⟩ := box9 hx9
    obtain ⟨fz0, fz1, fz2, fz3, fz4, fz5, fz6, fz7, fz8⟩ := wr9 hx9
    have hV7 := hK7.block hV2 (by omega)
    obtain ⟨W6, e6, hx6, hB6, hK6⟩ := store9 hV7 hB7 (by omega) (.int .i64 0) (.int .i64 0) (.int .i64 0) (.int .i64 0) (.string ⟨#[]⟩) (.slice none 0 0) (.int .i64 0) (.int .i64 0) (.bool false)
    obtain ⟨g0, g1, g2, g3, g4, g5, g6, g7, g8⟩ := box9 hV7
    obtain ⟨gz0, gz1, gz2, gz3, gz4, gz5, gz6, gz7, gz8⟩ := wr9 hV7
    obtain ⟨r0, r1, r2, r3, r4, r5, r6, r7, r8⟩ := box9 (hK6.block hx7 (by omega))
    obtain ⟨q0, q1, q2, q3, q4, q5, q6, q7, q8⟩ := box9 hx6
    go_wp2_with fail
    try rw [e7]
    try rw [e6]
    refine bodyPost_ret (v := .tuple #[.agg #[.int .i64 0, .int .i64 0, .int .i64 0, .int .i64 0, .string ⟨#[]⟩, .slice none 0 0, .int .i64 0, .int .i64 0, .bool false], .agg #[.int .i64 0, .int .i64 0, .int .i64 0, .int .i64 0, .string ⟨#[]⟩, .slice none 0 0, .int .i64 0, .int .i64 0, .bool false], .int .i64 z1]) (by simp [results, Tryz.results16, go_sem, r0, r1, r2, r3, r4, r5, r6, r7, r8, q0, q1, q2, q3, q4, q5, q6, q7, q8]) rfl ⟨none, 0, 0, none, 0, 0, rfl, src_nil _ _ _ _, src_nil _ _ _ _, hB6⟩
end Go.Proofs.YtmdnmhdimfglaaaGreatDoor
