import Derived.Test.YtmeciikfnbbllaaGreatDoorXbB
namespace Go.Proofs.YtmeciikfnbbllaaGreatDoor
open Go.RowKit Go.Lib
set_option maxRecDepth 100000
set_option maxHeartbeats 2000000 in
theorem shifted_any {o : OpV} {v : Value} {d : Int} {w : World} (hv : ∃ a m cap, v = .slice a m cap) (hs : o.s.size ≤ 9223372036854775807) (hw : Bar w) (hp : 0 ≤ o.p ∧ o.p ≤ 1048576) (hd : 0 ≤ d ∧ d ≤ 1048576) (hwd : 0 ≤ widthP o ∧ widthP o ≤ 1048576) :
    Calls Tryz.prog 39 #[opVal o v, .int .i64 d] w fun e w' => ∃ v', e = .returned (.tuple #[opVal (shiftP o d).1 v', .int .i64 (shiftP o d).2]) ∧ ((v' = v ∧ (shiftP o d).1.l = o.l) ∨ ((shiftP o d).1.l = [] ∧ v' = .slice none 0 0)) ∧ Below w.heap.size w w' := by
  obtain ⟨a, m, cap, rfl⟩ := hv
  have HW : Hid (∀ (W : World), Below w.heap.size w W → Calls Tryz.prog 16 #[opVal { o with p := o.p + d } (.slice a m cap)] W fun e w' => e = .returned (.int .i64 (widthP o)) ∧ Below W.heap.size W w') := fun W hb => width_any (o := { o with p := o.p + d }) hs (hw.below hb)
  obtain ⟨z, hz⟩ : ∃ z, widthP o = z := ⟨_, rfl⟩
  obtain ⟨q, hq⟩ : ∃ q, shiftP o d = q := ⟨_, rfl⟩
  rw [hq]
  unfold shiftP at hq
  rw [hz] at HW hq hwd
  clear hz hs hw
  obtain ⟨c, n, k, p, s, l, tc, tn, on⟩ := o
  simp only [opVal] at *
  obtain ⟨hp0, hp1⟩ := hp
  obtain ⟨hd0, hd1⟩ := hd
  obtain ⟨hw0, hw1⟩ := hwd
  have e1 : IntKind.i64.wrap (p + d) = p + d := IntWalk.i64_in _ (by omega)
  have e2 : IntKind.i64.wrap (p + d + z) = p + d + z := IntWalk.i64_in _ (by omega)
  obtain ⟨W0, hW0⟩ : ∃ W0, (w.alloc (Obj.cells #[.int .i64 c, .int .i64 n, .int .i64 k, .int .i64 (p + d), .string s, .slice a m cap, .int .i64 tc, .int .i64 tn, .bool on] 33)).alloc (Obj.cells #[.int .i64 0, .int .i64 0, .int .i64 0, .int .i64 0, .string ⟨#[]⟩, .slice none 0 0, .int .i64 0, .int .i64 0, .bool false] 33) = W0 := ⟨_, rfl⟩
  have hX : W0.heap[w.heap.size]? = some (Obj.cells #[.int .i64 c, .int .i64 n, .int .i64 k, .int .i64 (p + d), .string s, .slice a m cap, .int .i64 tc, .int .i64 tn, .bool on] 33) := by rw [← hW0]; exact (Below.heap_alloc _ _ _ (by simp)).trans (alloc_last _ _ _ rfl)
  have hZ : W0.heap[w.heap.size + 1]? = some (Obj.cells #[.int .i64 0, .int .i64 0, .int .i64 0, .int .i64 0, .string ⟨#[]⟩, .slice none 0 0, .int .i64 0, .int .i64 0, .bool false] 33) := by rw [← hW0]; exact alloc_last _ _ _ (by simp)
  have hB0 : Below w.heap.size w W0 := by rw [← hW0]; exact ((Below.refl w.heap.size w).alloc (Nat.le_refl _) _).alloc (by simp) _
  have alt : w.heap.size < W0.heap.size := by rw [← hW0]; simp; omega
  obtain ⟨ak0, ak1, ak2, ak3, ak4, ak5, ak6, ak7, ak8⟩ := box9 hX
  go_enter Tryz.func39, Tryz.ntmps39
  go_wp2_with fail
  have hcur : Below W0.heap.size W0 W0 := Below.refl _ _
  clear hW0
  go_region_held3 (fun W => W.cell? ⟨w.heap.size, 0, none⟩ = some (.int .i64 c) ∧ W.cell? ⟨w.heap.size, 1, none⟩ = some (.int .i64 n) ∧ W.cell? ⟨w.heap.size, 2, none⟩ = some (.int .i64 k) ∧ W.cell? ⟨w.heap.size, 3, none⟩ = some (.int .i64 (p + d)) ∧ W.cell? ⟨w.heap.size, 4, none⟩ = some (.string s) ∧ W.cell? ⟨w.heap.size, 5, none⟩ = some (.slice a m cap) ∧ W.cell? ⟨w.heap.size, 6, none⟩ = some (.int .i64 tc) ∧ W.cell? ⟨w.heap.size, 7, none⟩ = some (.int .i64 tn) ∧ W.cell? ⟨w.heap.size, 8, none⟩ = some (.bool on)) (first | exact ⟨ak0, ak1, ak2, ak3, ak4, ak5, ak6, ak7, ak8⟩ | exact ⟨ae0, ae1, ae2, ae3, ae4, ae5, ae6, ae7, ae8⟩)
    (first
      | (go_at_call 16; refine (HW.out _ ?_).mono ?_; (first | exact hB0.trans (hcur.mono hB0.size) | exact hB0.trans (hcur.drew.mono hB0.size)); rintro e w1 ⟨rfl, hb1⟩; have hcur : Below W0.heap.size W0 w1 := (by first | exact hcur.trans (hb1.mono hcur.size) | exact hcur.drew.trans (hb1.mono hcur.size)); have ae0 := (hcur.cell (p := ⟨w.heap.size, 0, none⟩) alt).trans ak0; have ae1 := (hcur.cell (p := ⟨w.heap.size, 1, none⟩) alt).trans ak1; have ae2 := (hcur.cell (p := ⟨w.heap.size, 2, none⟩) alt).trans ak2; have ae3 := (hcur.cell (p := ⟨w.heap.size, 3, none⟩) alt).trans ak3; have ae4 := (hcur.cell (p := ⟨w.heap.size, 4, none⟩) alt).trans ak4; have ae5 := (hcur.cell (p := ⟨w.heap.size, 5, none⟩) alt).trans ak5; have ae6 := (hcur.cell (p := ⟨w.heap.size, 6, none⟩) alt).trans ak6; have ae7 := (hcur.cell (p := ⟨w.heap.size, 7, none⟩) alt).trans ak7; have ae8 := (hcur.cell (p := ⟨w.heap.size, 8, none⟩) alt).trans ak8))
  all_goals
    have hB1 := hB0.trans (hcur.mono hB0.size)
    have hX1 := (hcur.block _ alt).trans hX
    have hZ1 := (hcur.block _ (Array.getElem?_eq_some_iff.1 hZ).1).trans hZ
    clear hcur HW ak0 ak1 ak2 ak3 ak4 ak5 ak6 ak7 ak8 ae0 ae1 ae2 ae3 ae4 ae5 ae6 ae7 ae8 hX hZ hB0 alt hb1
    obtain ⟨ak0, ak1, ak2, ak3, ak4, ak5, ak6, ak7, ak8⟩ := box9 hX1
    by_cases hg : 1048576 < p + d + z
    · rw [if_pos hg] at hq
      subst hq
      obtain ⟨W9, e9, hx9, hB9, hK9⟩ := store9 hZ1 hB1 (by omega) (.int .i64 0) (.int .i64 0) (.int .i64 0) (.int .i64 0) (.string ⟨#[]⟩) (.slice none 0 0) (.int .i64 0) (.int .i64 0) (.bool false)
      obtain ⟨d0, d1, d2, d3, d4, d5, d6, d7, d8⟩ := box9 hZ1
      obtain ⟨dz0, dz1, dz2, dz3, dz4, dz5, dz6, dz7, dz8⟩ := wr9 hZ1
      obtain ⟨r0, r1, r2, r3, r4, r5, r6, r7, r8⟩ := box9 hx9
      go_wp2_with fail
      try rw [e9]
      refine bodyPost_ret (v := .tuple #[.agg #[.int .i64 0, .int .i64 0, .int .i64 0, .int .i64 0, .string ⟨#[]⟩, .slice none 0 0, .int .i64 0, .int .i64 0, .bool false], .int .i64 24]) (by simp [results, Tryz.results39, go_sem, r0, r1, r2, r3, r4, r5, r6, r7, r8]) rfl ⟨.slice none 0 0, rfl, .inr ⟨rfl, rfl⟩, hB9⟩
    · rw [if_neg hg] at hq
      subst hq
      obtain ⟨W9, e9, hx9, hB9, hK9⟩ := store9 hZ1 hB1 (by omega) (.int .i64 c) (.int .i64 n) (.int .i64 k) (.int .i64 (p + d)) (.string s) (.slice a m cap) (.int .i64 tc) (.int .i64 tn) (.bool on)
      obtain ⟨d0, d1, d2, d3, d4, d5, d6, d7, d8⟩ := box9 hZ1
      obtain ⟨dz0, dz1, dz2, dz3, dz4, dz5, dz6, dz7, dz8⟩ := wr9 hZ1
      obtain ⟨r0, r1, r2, r3, r4, r5, r6, r7, r8⟩ := box9 hx9
      go_wp2_with fail
      try rw [e9]
      refine bodyPost_ret (v := .tuple #[.agg #[.int .i64 c, .int .i64 n, .int .i64 k, .int .i64 (p + d), .string s, .slice a m cap, .int .i64 tc, .int .i64 tn, .bool on], .int .i64 0]) (by simp [results, Tryz.results39, go_sem, r0, r1, r2, r3, r4, r5, r6, r7, r8]) rfl ⟨.slice a m cap, rfl, by first | exact .inl rfl | exact .inl ⟨rfl, rfl⟩, hB9⟩
end Go.Proofs.YtmeciikfnbbllaaGreatDoor
