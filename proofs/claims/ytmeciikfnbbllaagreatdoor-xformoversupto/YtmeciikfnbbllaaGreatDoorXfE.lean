import Derived.Test.YtmeciikfnbbllaaGreatDoorGaA
namespace Go.Proofs.YtmeciikfnbbllaaGreatDoor
open Go.RowKit Go.Lib
set_option maxRecDepth 100000
theorem transP_few {o o2 : OpV} (h1 : Right o) (h2 : Right o2) : (transP o o2).1.1.l.length ≤ 65536 ∧ (transP o o2).1.2.l.length ≤ 65536 := by
  unfold transP
  split
  · exact ⟨by simp [op0], by simp [op0]⟩
  · split
    · exact ⟨by simp [op0], by simp [op0]⟩
    · split
      · exact ⟨by simp [op0], by simp [op0]⟩
      · exact ⟨exclP_few h2, by have := inclP_few true (o2 := o2) h1; simp only; omega⟩
theorem transP_s (o o2 : OpV) : (transP o o2).1.1.s.size ≤ max o.s.size o2.s.size ∧ (transP o o2).1.2.s.size ≤ max o.s.size o2.s.size := by
  have e0 : op0.s.size = 0 := rfl
  unfold transP
  split
  · simp only [e0]; omega
  · split
    · simp only [e0]; omega
    · split
      · simp only [e0]; omega
      · have := exclP_s o2 o
        have := inclP_s o o2 true
        simp only
        omega
def Ans2 (w : World) (q : (OpV × OpV) × Int) (e : Ending) (w' : World) : Prop :=
  ∃ va vm vc ya ym yc, e = .returned (.tuple #[opVal q.1.1 (.slice va vm vc), opVal q.1.2 (.slice ya ym yc), .int .i64 q.2]) ∧ OwnF rangeV 2 94 w' w.heap.size (.slice va vm vc) q.1.1.l ∧ OwnF rangeV 2 94 w' w.heap.size (.slice ya ym yc) q.1.2.l ∧ Below w.heap.size w w'
def xTranspose (o o2 : OpV) : (OpV × OpV) × Int := if firstErr [o, o2] ≠ 0 then ((op0, op0), firstErr [o, o2]) else transP o o2
set_option maxHeartbeats 16000000 in
theorem Transpose_any {o o2 : OpV} {a : Option Addr} {m cap : Nat} {b : Option Addr} {m2 cap2 : Nat} {w : World} (hR : Sp.Rng w a m cap o.l) (hR2 : Sp.Rng w b m2 cap2 o2.l) (hs1 : o.s.size ≤ 281474976710656) (hs : o2.s.size ≤ 281474976710656) (hw : Bar w) :
    Calls Tryz.prog 20 #[opVal o (.slice a m cap), opVal o2 (.slice b m2 cap2)] w fun e w' => Ans2 w (xTranspose o o2) e w' := by
  have HE : Hid (∀ (W : World) (g : Nat), Below w.heap.size w W → W.heap[g]? = some (.cells (opF (o, (a, m, cap)) ++ opF (o2, (b, m2, cap2))).toArray 33) → Calls Tryz.prog 15 #[.slice (some ⟨g, 0, none⟩) 2 2] W fun e w' => e = .returned (.int .i64 (firstErr [o, o2])) ∧ Below W.heap.size W w') := fun W g hb hg => ownErrors_any (L := [(o, (a, m, cap)), (o2, (b, m2, cap2))]) (two_ops hg) (fun x hx => by
    simp at hx
    rcases hx with rfl | rfl
    · exact ⟨hR.below hb, by simp only; omega⟩
    · exact ⟨hR2.below hb, by simp only; omega⟩) (hw.below hb)
  have HI : Hid (firstErr [o, o2] = 0 → ∀ (W : World), Below w.heap.size w W → Calls Tryz.prog 36 #[opVal o (.slice a m cap), opVal o2 (.slice b m2 cap2)] W fun e w' => ∃ va vm vc ya ym yc, e = .returned (.tuple #[opVal (transP o o2).1.1 (.slice va vm vc), opVal (transP o o2).1.2 (.slice ya ym yc), .int .i64 (transP o o2).2]) ∧ Src (.slice b m2 cap2) o2.l W w' (.slice va vm vc) (transP o o2).1.1.l ∧ Src (.slice a m cap) o.l W w' (.slice ya ym yc) (transP o o2).1.2.l ∧ Below W.heap.size W w') := fun h0 W hb => transposed_any (hR.below hb) (hR2.below hb) (by omega) (by omega) (hw.below hb) (right_of (first2 h0).1) (right_of (first2 h0).2)
  have HC1 : Hid (firstErr [o, o2] = 0 → ∀ (W' : World) va vm vc, Sp.Rng W' va vm vc (transP o o2).1.1.l → Calls Tryz.prog 22 #[opVal (transP o o2).1.1 (.slice va vm vc)] W' fun e w' => ∃ xa xc, e = .returned (opVal (transP o o2).1.1 (.slice xa vm xc)) ∧ OwnF rangeV 2 94 w' W'.heap.size (.slice xa vm xc) (transP o o2).1.1.l ∧ Below W'.heap.size W' w') := fun h0 W va vm vc hr => (opClone_any hr (by have := hr.len; have := (transP_few (right_of (first2 h0).1) (right_of (first2 h0).2)).1; omega) (by have := (transP_s o o2).1; omega)).mono fun e w1 ⟨a', c', he, ho, hb⟩ => ⟨a', c', he, ho.mono (by omega), hb⟩
  have HC2 : Hid (firstErr [o, o2] = 0 → ∀ (W' : World) va vm vc, Sp.Rng W' va vm vc (transP o o2).1.2.l → Calls Tryz.prog 22 #[opVal (transP o o2).1.2 (.slice va vm vc)] W' fun e w' => ∃ xa xc, e = .returned (opVal (transP o o2).1.2 (.slice xa vm xc)) ∧ OwnF rangeV 2 94 w' W'.heap.size (.slice xa vm xc) (transP o o2).1.2.l ∧ Below W'.heap.size W' w') := fun h0 W va vm vc hr => (opClone_any hr (by have := hr.len; have := (transP_few (right_of (first2 h0).1) (right_of (first2 h0).2)).2; omega) (by have := (transP_s o o2).2; omega)).mono fun e w1 ⟨a', c', he, ho, hb⟩ => ⟨a', c', he, ho.mono (by omega), hb⟩
  have HRA : Hid (Sp.Rng w a m cap o.l) := hR
  have HRB : Hid (Sp.Rng w b m2 cap2 o2.l) := hR2
  obtain ⟨q, hq⟩ : ∃ q, xTranspose o o2 = q := ⟨_, rfl⟩
  rw [hq]
  unfold xTranspose at hq
  generalize firstErr [o, o2] = y at *
  generalize transP o o2 = tq at *
  simp only [opF, List.cons_append, List.nil_append] at HE
  clear hR hR2 hs hs1 hw
  obtain ⟨⟨⟨c3, n3, k3, p3, s3, l3, tc3, tn3, on3⟩, ⟨c4, n4, k4, p4, s4, l4, tc4, tn4, on4⟩⟩, z⟩ := tq
  unfold Ans2
  obtain ⟨c, n, k, p, s, l, tc, tn, on⟩ := o
  obtain ⟨c2, n2, k2, p2, s2, l2, tc2, tn2, on2⟩ := o2
  simp only [opVal] at *
  obtain ⟨W0, hW0⟩ : ∃ W0, (((w.alloc (Obj.cells #[.int .i64 c, .int .i64 n, .int .i64 k, .int .i64 p, .string s, .slice a m cap, .int .i64 tc, .int .i64 tn, .bool on] 33)).alloc (Obj.cells #[.int .i64 c2, .int .i64 n2, .int .i64 k2, .int .i64 p2, .string s2, .slice b m2 cap2, .int .i64 tc2, .int .i64 tn2, .bool on2] 33)).alloc (Obj.cells #[.int .i64 0, .int .i64 0, .int .i64 0, .int .i64 0, .string ⟨#[]⟩, .slice none 0 0, .int .i64 0, .int .i64 0, .bool false] 33)).alloc (Obj.cells #[.int .i64 0, .int .i64 0, .int .i64 0, .int .i64 0, .string ⟨#[]⟩, .slice none 0 0, .int .i64 0, .int .i64 0, .bool false] 33) = W0 := ⟨_, rfl⟩
  have hX : W0.heap[w.heap.size]? = some (Obj.cells #[.int .i64 c, .int .i64 n, .int .i64 k, .int .i64 p, .string s, .slice a m cap, .int .i64 tc, .int .i64 tn, .bool on] 33) := by rw [← hW0]; exact (Below.heap_alloc _ _ _ (by simp; omega)).trans ((Below.heap_alloc _ _ _ (by simp; omega)).trans ((Below.heap_alloc _ _ _ (by simp)).trans (alloc_last _ _ _ rfl)))
  have hY : W0.heap[w.heap.size + 1]? = some (Obj.cells #[.int .i64 c2, .int .i64 n2, .int .i64 k2, .int .i64 p2, .string s2, .slice b m2 cap2, .int .i64 tc2, .int .i64 tn2, .bool on2] 33) := by rw [← hW0]; exact (Below.heap_alloc _ _ _ (by first | (simp; done) | (simp; omega))).trans ((Below.heap_alloc _ _ _ (by simp)).trans (alloc_last _ _ _ (by simp)))
  have hZ : W0.heap[w.heap.size + 2]? = some (Obj.cells #[.int .i64 0, .int .i64 0, .int .i64 0, .int .i64 0, .string ⟨#[]⟩, .slice none 0 0, .int .i64 0, .int .i64 0, .bool false] 33) := by rw [← hW0]; exact (Below.heap_alloc _ _ _ (by simp)).trans (alloc_last _ _ _ (by simp))
  have hV : W0.heap[w.heap.size + 3]? = some (Obj.cells #[.int .i64 0, .int .i64 0, .int .i64 0, .int .i64 0, .string ⟨#[]⟩, .slice none 0 0, .int .i64 0, .int .i64 0, .bool false] 33) := by rw [← hW0]; exact alloc_last _ _ _ (by simp)
  have hB0 : Below w.heap.size w W0 := by rw [← hW0]; exact ((((Below.refl w.heap.size w).alloc (Nat.le_refl _) _).alloc (by simp) _).alloc (by simp; omega) _).alloc (by simp; omega) _
  have alt : w.heap.size < W0.heap.size := (Array.getElem?_eq_some_iff.1 hX).1
  have blt : w.heap.size + 1 < W0.heap.size := (Array.getElem?_eq_some_iff.1 hY).1
  have zlt : w.heap.size + 2 < W0.heap.size := (Array.getElem?_eq_some_iff.1 hZ).1
  have vlt : w.heap.size + 3 < W0.heap.size := (Array.getElem?_eq_some_iff.1 hV).1
  obtain ⟨ak0, ak1, ak2, ak3, ak4, ak5, ak6, ak7, ak8⟩ := box9 hX
  obtain ⟨bk0, bk1, bk2, bk3, bk4, bk5, bk6, bk7, bk8⟩ := box9 hY
  obtain ⟨W1, hW1⟩ : ∃ W1, W0.alloc (Obj.cells #[.int .i64 c, .int .i64 n, .int .i64 k, .int .i64 p, .string s, .slice a m cap, .int .i64 tc, .int .i64 tn, .bool on, .int .i64 c2, .int .i64 n2, .int .i64 k2, .int .i64 p2, .string s2, .slice b m2 cap2, .int .i64 tc2, .int .i64 tn2, .bool on2] 33) = W1 := ⟨_, rfl⟩
  have hT : W1.heap[W0.heap.size]? = some (Obj.cells #[.int .i64 c, .int .i64 n, .int .i64 k, .int .i64 p, .string s, .slice a m cap, .int .i64 tc, .int .i64 tn, .bool on, .int .i64 c2, .int .i64 n2, .int .i64 k2, .int .i64 p2, .string s2, .slice b m2 cap2, .int .i64 tc2, .int .i64 tn2, .bool on2] 33) := by rw [← hW1]; exact alloc_last _ _ _ rfl
  have h01 : Below W0.heap.size W0 W1 := by rw [← hW1]; exact (Below.refl _ _).alloc (Nat.le_refl _) _
  go_enter Tryz.func20, Tryz.ntmps20
  go_wp2_with fail
  refine (HE.out W1 _ (hB0.trans (h01.mono hB0.size)) hT).mono ?_
  rintro e w1 ⟨rfl, hcur1⟩
  have hcur : Below W0.heap.size W0 w1 := h01.trans (hcur1.mono h01.size)
  have hB1 := hB0.trans (hcur.mono hB0.size)
  have hX1 := (hcur.block _ alt).trans hX
  have hY1 := (hcur.block _ blt).trans hY
  have hZ1 := (hcur.block _ zlt).trans hZ
  have hV1 := (hcur.block _ vlt).trans hV
  clear HE hcur1 hT h01 hcur hX hY hZ hV hB0 alt blt zlt vlt hW0 hW1 ak0 ak1 ak2 ak3 ak4 ak5 ak6 ak7 ak8 bk0 bk1 bk2 bk3 bk4 bk5 bk6 bk7 bk8
  obtain ⟨ak0, ak1, ak2, ak3, ak4, ak5, ak6, ak7, ak8⟩ := box9 hX1
  obtain ⟨bk0, bk1, bk2, bk3, bk4, bk5, bk6, bk7, bk8⟩ := box9 hY1
  by_cases h0 : y = 0
  · subst h0
    rw [if_neg (by simp)] at hq
    subst hq
    have HI2 := HI.out rfl w1 hB1
    have HD1 := HC1.out rfl
    have HD2 := HC2.out rfl
    clear HI HC1 HC2
    go_wp2_with fail
    refine HI2.mono ?_
    rintro e w2 ⟨va, vm, vc, ya, ym, yc, rfl, hS1, hS2, hb2⟩
    have zlt : w.heap.size + 2 < w1.heap.size := (Array.getElem?_eq_some_iff.1 hZ1).1
    have vlt : w.heap.size + 3 < w1.heap.size := (Array.getElem?_eq_some_iff.1 hV1).1
    have hB2 := hB1.trans (hb2.mono hB1.size)
    have hZ2 := (hb2.block _ zlt).trans hZ1
    have hV2 := (hb2.block _ vlt).trans hV1
    have hrb := hS1.rd ⟨_, _, _, rfl, HRB.out.below hB1⟩ hb2
    have hra := hS2.rd ⟨_, _, _, rfl, HRA.out.below hB1⟩ hb2
    obtain ⟨W9, e9, hx9, hB9, hK9⟩ := store9 hZ2 hB2 (by omega) (.int .i64 c3) (.int .i64 n3) (.int .i64 k3) (.int .i64 p3) (.string s3) (.slice va vm vc) (.int .i64 tc3) (.int .i64 tn3) (.bool on3)
    obtain ⟨d0, d1, d2, d3, d4, d5, d6, d7, d8⟩ := box9 hZ2
    obtain ⟨dz0, dz1, dz2, dz3, dz4, dz5, dz6, dz7, dz8⟩ := wr9 hZ2
    have hV9 := hK9.block hV2 (by omega)
    obtain ⟨W8, e8, hx8, hB8, hK8⟩ := store9 hV9 hB9 (by omega) (.int .i64 c4) (.int .i64 n4) (.int .i64 k4) (.int .i64 p4) (.string s4) (.slice ya ym yc) (.int .i64 tc4) (.int .i64 tn4) (.bool on4)
    obtain ⟨g0, g1, g2, g3, g4, g5, g6, g7, g8⟩ := box9 hV9
    obtain ⟨gz0, gz1, gz2, gz3, gz4, gz5, gz6, gz7, gz8⟩ := wr9 hV9
    have hZ8 := hK8.block hx9 (by omega)
    obtain ⟨r0, r1, r2, r3, r4, r5, r6, r7, r8⟩ := box9 hZ8
    obtain ⟨q0, q1, q2, q3, q4, q5, q6, q7, q8⟩ := box9 hx8
    have zlt8 : w.heap.size + 2 < W8.heap.size := (Array.getElem?_eq_some_iff.1 hZ8).1
    have vlt8 : w.heap.size + 3 < W8.heap.size := (Array.getElem?_eq_some_iff.1 hx8).1
    have hr8 : Sp.Rng W8 va vm vc l3 := by
      rcases hS1 with ⟨e, rfl⟩ | ho
      · cases e
        exact HRB.out.belowB HRB.out.under hB8
      · exact rng_of_rw ((hK8.own (hK9.own ho zlt) vlt).rw_ layG)
    have hq8 : Sp.Rng W8 ya ym yc l4 := by
      rcases hS2 with ⟨e, rfl⟩ | ho
      · cases e
        exact HRA.out.belowB HRA.out.under hB8
      · exact rng_of_rw ((hK8.own (hK9.own ho zlt) vlt).rw_ layG)
    have HC1 : Hid (∀ W', Below W8.heap.size W8 W' → Calls Tryz.prog 22 #[opVal (⟨c3, n3, k3, p3, s3, l3, tc3, tn3, on3⟩ : OpV) (.slice va vm vc)] W' fun e w' => ∃ xa xc, e = .returned (opVal (⟨c3, n3, k3, p3, s3, l3, tc3, tn3, on3⟩ : OpV) (.slice xa vm xc)) ∧ OwnF rangeV 2 94 w' W'.heap.size (.slice xa vm xc) (⟨c3, n3, k3, p3, s3, l3, tc3, tn3, on3⟩ : OpV).l ∧ Below W'.heap.size W' w') := fun W' hb => HD1 W' va vm vc (hr8.below hb)
    have HC2 : Hid (∀ W', Below W8.heap.size W8 W' → Calls Tryz.prog 22 #[opVal (⟨c4, n4, k4, p4, s4, l4, tc4, tn4, on4⟩ : OpV) (.slice ya ym yc)] W' fun e w' => ∃ xa xc, e = .returned (opVal (⟨c4, n4, k4, p4, s4, l4, tc4, tn4, on4⟩ : OpV) (.slice xa ym xc)) ∧ OwnF rangeV 2 94 w' W'.heap.size (.slice xa ym xc) (⟨c4, n4, k4, p4, s4, l4, tc4, tn4, on4⟩ : OpV).l ∧ Below W'.heap.size W' w') := fun W' hb => HD2 W' ya ym yc (hq8.below hb)
    simp only [opVal] at HC1 HC2
    clear HD1 HD2 hr8 hq8 hS1 hS2 hrb hra HRA HRB HI2 ak0 ak1 ak2 ak3 ak4 ak5 ak6 ak7 ak8 bk0 bk1 bk2 bk3 bk4 bk5 bk6 bk7 bk8 hX1 hY1 hZ1 hV1 hb2
    go_wp2_with fail
    try rw [e9]
    try rw [e8]
    go_region_with (first | (have hguard := h85; clear hguard; go_at_call 22; refine (HC2.out _ ?_).mono ?_; (first | exact h85 | exact h85.drew); rintro e6 w6 ⟨za, zc, rfl, hoz, hb6⟩; have h86 : Below W8.heap.size W8 w6 := (by first | exact h85.trans (hb6.mono h85.size) | exact h85.drew.trans (hb6.mono h85.size)); have hoz := (show OwnF rangeV 2 94 w6 w5.heap.size (.slice za ym zc) l4 from hoz); have h56 : Below w5.heap.size w5 w6 := (by first | exact hb6 | exact (Below.refl _ _).drew.trans hb6); have hZ6 := (h86.block _ zlt8).trans hZ8; have hV6 := (h86.block _ vlt8).trans hx8; have h6B := hB8.trans (h86.mono hB8.size); obtain ⟨Wa, ea, hxa, hBa, hKa⟩ := store9 hZ6 h6B (by omega) (.int .i64 c3) (.int .i64 n3) (.int .i64 k3) (.int .i64 p3) (.string s3) (.slice xa vm xc) (.int .i64 tc3) (.int .i64 tn3) (.bool on3); obtain ⟨Wab, eab, hxab, hBab, hKab⟩ := store9 (hKa.block hV6 (by omega)) hBa (by omega) (.int .i64 c4) (.int .i64 n4) (.int .i64 k4) (.int .i64 p4) (.string s4) (.slice za ym zc) (.int .i64 tc4) (.int .i64 tn4) (.bool on4); obtain ⟨f0, f1, f2, f3, f4, f5, f6, f7, f8⟩ := box9 hZ6; obtain ⟨fz0, fz1, fz2, fz3, fz4, fz5, fz6, fz7, fz8⟩ := wr9 hZ6; obtain ⟨i0, i1, i2, i3, i4, i5, i6, i7, i8⟩ := box9 (hKa.block hV6 (by omega)); obtain ⟨iz0, iz1, iz2, iz3, iz4, iz5, iz6, iz7, iz8⟩ := wr9 (hKa.block hV6 (by omega))) | ((fail_if_success have hguard := h85); go_at_call 22; refine (HC1.out _ ?_).mono ?_; (first | exact Below.refl _ _ | exact (Below.refl _ _).drew); rintro e5 w5 ⟨xa, xc, rfl, hox, hb5⟩; have h85 : Below W8.heap.size W8 w5 := (by first | exact hb5 | exact (Below.refl _ _).drew.trans hb5); have hox := (show OwnF rangeV 2 94 w5 W8.heap.size (.slice xa vm xc) l3 from hox); have mq0 := (h85.cell (p := ⟨w.heap.size + 3, 0, none⟩) vlt8).trans q0; have mq1 := (h85.cell (p := ⟨w.heap.size + 3, 1, none⟩) vlt8).trans q1; have mq2 := (h85.cell (p := ⟨w.heap.size + 3, 2, none⟩) vlt8).trans q2; have mq3 := (h85.cell (p := ⟨w.heap.size + 3, 3, none⟩) vlt8).trans q3; have mq4 := (h85.cell (p := ⟨w.heap.size + 3, 4, none⟩) vlt8).trans q4; have mq5 := (h85.cell (p := ⟨w.heap.size + 3, 5, none⟩) vlt8).trans q5; have mq6 := (h85.cell (p := ⟨w.heap.size + 3, 6, none⟩) vlt8).trans q6; have mq7 := (h85.cell (p := ⟨w.heap.size + 3, 7, none⟩) vlt8).trans q7; have mq8 := (h85.cell (p := ⟨w.heap.size + 3, 8, none⟩) vlt8).trans q8))
    all_goals
      go_wp2_with fail
      try rw [ea]
      try rw [eab]
      have h85s := h85.size
      have h8s := hB8.size
      obtain ⟨u0, u1, u2, u3, u4, u5, u6, u7, u8⟩ := box9 (hKab.block hxa (by omega))
      obtain ⟨v0, v1, v2, v3, v4, v5, v6, v7, v8⟩ := box9 hxab
      refine bodyPost_ret (v := .tuple #[.agg #[.int .i64 c3, .int .i64 n3, .int .i64 k3, .int .i64 p3, .string s3, .slice xa vm xc, .int .i64 tc3, .int .i64 tn3, .bool on3], .agg #[.int .i64 c4, .int .i64 n4, .int .i64 k4, .int .i64 p4, .string s4, .slice za ym zc, .int .i64 tc4, .int .i64 tn4, .bool on4], .int .i64 z]) (by simp [results, Tryz.results20, go_sem, u0, u1, u2, u3, u4, u5, u6, u7, u8, v0, v1, v2, v3, v4, v5, v6, v7, v8]) rfl ⟨xa, vm, xc, za, ym, zc, rfl, (hKab.own (hKa.own (hox.below h56) (by omega)) (by omega)).mono (by omega), (hKab.own (hKa.own hoz (by omega)) (by omega)).mono (by omega), hBab⟩
  · rw [if_pos h0] at hq
    subst hq
    have t1 : (y == 0) = false := beq_eq_false_iff_ne.2 h0
    clear HI HC1 HC2 h0
    obtain ⟨W7, e7, hx7, hB7, hK7⟩ := store9 hZ1 hB1 (by omega) (.int .i64 0) (.int .i64 0) (.int .i64 0) (.int .i64 0) (.string ⟨#[]⟩) (.slice none 0 0) (.int .i64 0) (.int .i64 0) (.bool false)
    obtain ⟨f0, f1, f2, f3, f4, f5, f6, f7, f8⟩ := box9 hZ1
    obtain ⟨fz0, fz1, fz2, fz3, fz4, fz5, fz6, fz7, fz8⟩ := wr9 hZ1
    have hV7 := hK7.block hV1 (by omega)
    obtain ⟨W6, e6, hx6, hB6, hK6⟩ := store9 hV7 hB7 (by omega) (.int .i64 0) (.int .i64 0) (.int .i64 0) (.int .i64 0) (.string ⟨#[]⟩) (.slice none 0 0) (.int .i64 0) (.int .i64 0) (.bool false)
    obtain ⟨g0, g1, g2, g3, g4, g5, g6, g7, g8⟩ := box9 hV7
    obtain ⟨gz0, gz1, gz2, gz3, gz4, gz5, gz6, gz7, gz8⟩ := wr9 hV7
    obtain ⟨r0, r1, r2, r3, r4, r5, r6, r7, r8⟩ := box9 (hK6.block hx7 (by omega))
    obtain ⟨q0, q1, q2, q3, q4, q5, q6, q7, q8⟩ := box9 hx6
    go_wp2_with fail
    try rw [e7]
    try rw [e6]
    refine bodyPost_ret (v := .tuple #[.agg #[.int .i64 0, .int .i64 0, .int .i64 0, .int .i64 0, .string ⟨#[]⟩, .slice none 0 0, .int .i64 0, .int .i64 0, .bool false], .agg #[.int .i64 0, .int .i64 0, .int .i64 0, .int .i64 0, .string ⟨#[]⟩, .slice none 0 0, .int .i64 0, .int .i64 0, .bool false], .int .i64 y]) (by simp [results, Tryz.results20, go_sem, r0, r1, r2, r3, r4, r5, r6, r7, r8, q0, q1, q2, q3, q4, q5, q6, q7, q8]) rfl ⟨none, 0, 0, none, 0, 0, rfl, ownF_nil _ _, ownF_nil _ _, hB6⟩
end Go.Proofs.YtmeciikfnbbllaaGreatDoor
