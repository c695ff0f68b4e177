import Derived.Test.YtmdnmhdimfglaaaGreatDoorGaD
import Derived.Test.YtmdnmhdimfglaaaGreatDoorGaE
namespace Go.Proofs.YtmdnmhdimfglaaaGreatDoor
open Go.RowKit Go.Lib
set_option maxRecDepth 100000
set_option maxHeartbeats 8000000 in
theorem included_any {o o2 : OpV} {ear : Bool} {a : Option Addr} {m cap : Nat} {b : Option Addr} {m2 cap2 : Nat} {w : World} (hR : Sp.Rng w a m cap o.l) (hs1 : o.s.size ≤ 9223372036854775807) (hs : o2.s.size ≤ 9223372036854775807) (hw : Bar w) (r1 : Right o) (r2 : Right o2) :
    Calls Tryz.prog 19 #[opVal o (.slice a m cap), opVal o2 (.slice b m2 cap2), .bool ear] w fun e w' => ∃ va vm vc, e = .returned (.tuple #[opVal (inclP o o2 ear).1 (.slice va vm vc), .int .i64 (inclP o o2 ear).2]) ∧ Src (.slice a m cap) o.l w w' (.slice va vm vc) (inclP o o2 ear).1.l ∧ Below w.heap.size w w' := by
  have HW : Hid (∀ (W : World), Below w.heap.size w W → Calls Tryz.prog 44 #[opVal o2 (.slice b m2 cap2)] W fun e w' => e = .returned (.int .i64 (widthP o2)) ∧ Below W.heap.size W w') := fun W hb => width_any hs (hw.below hb)
  have HC : Hid (∀ (W : World), Calls Tryz.prog 41 #[opVal o (.slice a m cap), opVal o2 (.slice b m2 cap2)] W fun e w' => e = .returned (.bool (clashP o o2)) ∧ Below W.heap.size W w') := fun W => clash_any
  have HT : Hid (o2.k = 1 → o.k ≠ 1 → o.k ≠ 4 → ∀ (W : World), Below w.heap.size w W → Calls Tryz.prog 42 #[opVal o (.slice a m cap), opVal o2 (.slice b m2 cap2)] W fun e w' => ∃ va vm vc, e = .returned (.tuple #[opVal (thrP o o2).1 (.slice va vm vc), .int .i64 (thrP o o2).2]) ∧ OwnF rangeV 2 91 w' W.heap.size (.slice va vm vc) (thrP o o2).1.l ∧ Below W.heap.size W w') := fun e1 e2 e3 W hb => throughInsert_any (hR.below hb) (r1.lst e2 e3) hs (hw.below hb) ⟨(r2.pos e1).1, (r2.pos e1).2.1⟩ ⟨(r2.wd).1, by have := r2.wd; omega⟩
  have HS : Hid (o2.k = 1 → o.k = 1 → ∀ (W : World), Below w.heap.size w W → Calls Tryz.prog 43 #[opVal o (.slice a m cap), .int .i64 (widthP o2)] W fun e w' => ∃ va vm vc, e = .returned (.tuple #[opVal (shiftP o (widthP o2)).1 (.slice va vm vc), .int .i64 (shiftP o (widthP o2)).2]) ∧ Src (.slice a m cap) o.l W w' (.slice va vm vc) (shiftP o (widthP o2)).1.l ∧ Below W.heap.size W w') := fun e1 e2 W hb => by
    refine (shifted_any ⟨_, _, _, rfl⟩ hs1 (hw.below hb) ⟨(r1.pos e2).1, (r1.pos e2).2.1⟩ ⟨(r2.wd).1, by have := r2.wd; omega⟩ ⟨(r1.wd).1, by have := r1.wd; omega⟩).mono ?_
    rintro e w1 ⟨v', rfl, hv, hb1⟩
    rcases hv with ⟨rfl, h0⟩ | ⟨h0, rfl⟩
    · exact ⟨_, _, _, rfl, .inl ⟨rfl, h0⟩, hb1⟩
    · rw [h0]
      exact ⟨_, _, _, rfl, src_nil _ _ _ _, hb1⟩
  obtain ⟨q, hq⟩ : ∃ q, inclP o o2 ear = q := ⟨_, rfl⟩
  rw [hq]
  unfold inclP at hq
  generalize clashP o o2 = cl at *
  generalize thrP o o2 = tq at *
  generalize shiftP o (widthP o2) = sq at *
  generalize widthP o2 = wd at *
  clear hR hs hs1 hw r1 r2
  obtain ⟨⟨c3, n3, k3, p3, s3, l3, tc3, tn3, on3⟩, e3⟩ := tq
  obtain ⟨⟨c4, n4, k4, p4, s4, l4, tc4, tn4, on4⟩, e4⟩ := sq
  obtain ⟨c, n, k, p, s, l, tc, tn, on⟩ := o
  obtain ⟨c2, n2, k2, p2, s2, l2, tc2, tn2, on2⟩ := o2
  simp only [opVal] at *
  obtain ⟨W0, hW0⟩ : ∃ W0, ((w.alloc (Obj.cells #[.int .i64 c, .int .i64 n, .int .i64 k, .int .i64 p, .string s, .slice a m cap, .int .i64 tc, .int .i64 tn, .bool on] 34)).alloc (Obj.cells #[.int .i64 c2, .int .i64 n2, .int .i64 k2, .int .i64 p2, .string s2, .slice b m2 cap2, .int .i64 tc2, .int .i64 tn2, .bool on2] 34)).alloc (Obj.cells #[.int .i64 0, .int .i64 0, .int .i64 0, .int .i64 0, .string ⟨#[]⟩, .slice none 0 0, .int .i64 0, .int .i64 0, .bool false] 34) = W0 := ⟨_, rfl⟩
  have hX : W0.heap[w.heap.size]? = some (Obj.cells #[.int .i64 c, .int .i64 n, .int .i64 k, .int .i64 p, .string s, .slice a m cap, .int .i64 tc, .int .i64 tn, .bool on] 34) := by rw [← hW0]; exact (Below.heap_alloc _ _ _ (by simp; omega)).trans ((Below.heap_alloc _ _ _ (by simp)).trans (alloc_last _ _ _ rfl))
  have hY : W0.heap[w.heap.size + 1]? = some (Obj.cells #[.int .i64 c2, .int .i64 n2, .int .i64 k2, .int .i64 p2, .string s2, .slice b m2 cap2, .int .i64 tc2, .int .i64 tn2, .bool on2] 34) := by rw [← hW0]; exact (Below.heap_alloc _ _ _ (by simp)).trans (alloc_last _ _ _ (by simp))
  have hZ : W0.heap[w.heap.size + 2]? = some (Obj.cells #[.int .i64 0, .int .i64 0, .int .i64 0, .int .i64 0, .string ⟨#[]⟩, .slice none 0 0, .int .i64 0, .int .i64 0, .bool false] 34) := by rw [← hW0]; exact alloc_last _ _ _ (by simp)
  have hB0 : Below w.heap.size w W0 := by rw [← hW0]; exact (((Below.refl w.heap.size w).alloc (Nat.le_refl _) _).alloc (by simp) _).alloc (by simp; omega) _
  have alt : w.heap.size < W0.heap.size := (Array.getElem?_eq_some_iff.1 hX).1
  have blt : w.heap.size + 1 < W0.heap.size := (Array.getElem?_eq_some_iff.1 hY).1
  have zlt : w.heap.size + 2 < W0.heap.size := (Array.getElem?_eq_some_iff.1 hZ).1
  obtain ⟨ak0, ak1, ak2, ak3, ak4, ak5, ak6, ak7, ak8⟩ := box9 hX
  obtain ⟨bk0, bk1, bk2, bk3, bk4, bk5, bk6, bk7, bk8⟩ := box9 hY
  go_enter Tryz.func19, Tryz.ntmps19
  go_wp2_with fail
  refine (HC.out _).mono ?_
  rintro e w1 ⟨rfl, hcur⟩
  have hB1 := hB0.trans (hcur.mono hB0.size)
  have hX1 := (hcur.block _ alt).trans hX
  have hY1 := (hcur.block _ blt).trans hY
  have hZ1 := (hcur.block _ zlt).trans hZ
  clear HC hcur hX hY hZ hB0 alt blt zlt hW0 ak0 ak1 ak2 ak3 ak4 ak5 ak6 ak7 ak8 bk0 bk1 bk2 bk3 bk4 bk5 bk6 bk7 bk8
  obtain ⟨ak0, ak1, ak2, ak3, ak4, ak5, ak6, ak7, ak8⟩ := box9 hX1
  obtain ⟨bk0, bk1, bk2, bk3, bk4, bk5, bk6, bk7, bk8⟩ := box9 hY1
  cases cl with
  | true =>
    rw [if_pos rfl] at hq
    subst hq
    clear HT HS HW
    obtain ⟨W9, e9, hx9, hB9, hK9⟩ := store9 hZ1 hB1 (by omega) (.int .i64 0) (.int .i64 0) (.int .i64 0) (.int .i64 0) (.string ⟨#[]⟩) (.slice none 0 0) (.int .i64 0) (.int .i64 0) (.bool false)
    obtain ⟨d0, d1, d2, d3, d4, d5, d6, d7, d8⟩ := box9 hZ1
    obtain ⟨dz0, dz1, dz2, dz3, dz4, dz5, dz6, dz7, dz8⟩ := wr9 hZ1
    obtain ⟨r0, r1, r2, r3, r4, r5, r6, r7, r8⟩ := box9 hx9
    go_wp2_with fail
    try rw [e9]
    refine bodyPost_ret (v := .tuple #[.agg #[.int .i64 0, .int .i64 0, .int .i64 0, .int .i64 0, .string ⟨#[]⟩, .slice none 0 0, .int .i64 0, .int .i64 0, .bool false], .int .i64 50]) (by simp [results, Tryz.results19, go_sem, r0, r1, r2, r3, r4, r5, r6, r7, r8]) rfl ⟨none, 0, 0, rfl, src_nil _ _ _ _, hB9⟩
  | false =>
    rw [if_neg (by simp)] at hq
    by_cases h2 : k2 = 1
    · subst h2
      by_cases h4 : k = 4
      · subst h4
        rw [if_pos (.inr rfl)] at hq
        subst hq
        clear HT HS HW
        obtain ⟨W9, e9, hx9, hB9, hK9⟩ := store9 hZ1 hB1 (by omega) (.int .i64 c) (.int .i64 n) (.int .i64 4) (.int .i64 p) (.string s) (.slice a m cap) (.int .i64 tc) (.int .i64 tn) (.bool on)
        obtain ⟨d0, d1, d2, d3, d4, d5, d6, d7, d8⟩ := box9 hZ1
        obtain ⟨dz0, dz1, dz2, dz3, dz4, dz5, dz6, dz7, dz8⟩ := wr9 hZ1
        obtain ⟨r0, r1, r2, r3, r4, r5, r6, r7, r8⟩ := box9 hx9
        go_wp2_with fail
        try rw [e9]
        refine bodyPost_ret (v := .tuple #[.agg #[.int .i64 c, .int .i64 n, .int .i64 4, .int .i64 p, .string s, .slice a m cap, .int .i64 tc, .int .i64 tn, .bool on], .int .i64 0]) (by simp [results, Tryz.results19, go_sem, r0, r1, r2, r3, r4, r5, r6, r7, r8]) rfl ⟨a, m, cap, rfl, src_same _ _ _ _, hB9⟩
      · rw [if_neg (by omega)] at hq
        have t4 : (k == 4) = false := beq_eq_false_iff_ne.2 h4
        by_cases h1 : k = 1
        · subst h1
          rw [if_neg (by simp)] at hq
          have HS2 := HS.out rfl rfl
          clear HT HS h4
          by_cases hc : p2 < p ∨ (p2 = p ∧ ear = true)
          · rw [if_pos hc] at hq
            subst hq
            have halt : w.heap.size < w1.heap.size := (Array.getElem?_eq_some_iff.1 hX1).1
            have hblt : w.heap.size + 1 < w1.heap.size := (Array.getElem?_eq_some_iff.1 hY1).1
            have hzlt : w.heap.size + 2 < w1.heap.size := (Array.getElem?_eq_some_iff.1 hZ1).1
            generalize w1 = W0 at *
            have hX := hX1
            have hY := hY1
            have hZ := hZ1
            have hB0 := hB1
            have alt := halt
            have blt := hblt
            have zlt := hzlt
            clear hX1 hY1 hZ1 hB1 halt hblt hzlt
            rcases hc with hc | ⟨rfl, rfl⟩
            · go_wp2_with fail
              have hcur : Below W0.heap.size W0 W0 := Below.refl _ _
              go_region_held3 (fun W => W.cell? ⟨w.heap.size, 0, none⟩ = some (.int .i64 c) ∧ W.cell? ⟨w.heap.size, 1, none⟩ = some (.int .i64 n) ∧ W.cell? ⟨w.heap.size, 2, none⟩ = some (.int .i64 1) ∧ W.cell? ⟨w.heap.size, 3, none⟩ = some (.int .i64 p) ∧ W.cell? ⟨w.heap.size, 4, none⟩ = some (.string s) ∧ W.cell? ⟨w.heap.size, 5, none⟩ = some (.slice a m cap) ∧ W.cell? ⟨w.heap.size, 6, none⟩ = some (.int .i64 tc) ∧ W.cell? ⟨w.heap.size, 7, none⟩ = some (.int .i64 tn) ∧ W.cell? ⟨w.heap.size, 8, none⟩ = some (.bool on) ∧ W.cell? ⟨w.heap.size + 1, 0, none⟩ = some (.int .i64 c2) ∧ W.cell? ⟨w.heap.size + 1, 1, none⟩ = some (.int .i64 n2) ∧ W.cell? ⟨w.heap.size + 1, 2, none⟩ = some (.int .i64 1) ∧ W.cell? ⟨w.heap.size + 1, 3, none⟩ = some (.int .i64 p2) ∧ W.cell? ⟨w.heap.size + 1, 4, none⟩ = some (.string s2) ∧ W.cell? ⟨w.heap.size + 1, 5, none⟩ = some (.slice b m2 cap2) ∧ W.cell? ⟨w.heap.size + 1, 6, none⟩ = some (.int .i64 tc2) ∧ W.cell? ⟨w.heap.size + 1, 7, none⟩ = some (.int .i64 tn2) ∧ W.cell? ⟨w.heap.size + 1, 8, none⟩ = some (.bool on2)) (first | exact ⟨ak0, ak1, ak2, ak3, ak4, ak5, ak6, ak7, ak8, bk0, bk1, bk2, bk3, bk4, bk5, bk6, bk7, bk8⟩ | exact ⟨ae0, ae1, ae2, ae3, ae4, ae5, ae6, ae7, ae8, be0, be1, be2, be3, be4, be5, be6, be7, be8⟩ | exact ⟨ax0, ax1, ax2, ax3, ax4, ax5, ax6, ax7, ax8, bx0, bx1, bx2, bx3, bx4, bx5, bx6, bx7, bx8⟩)
                (first
                  | (go_at_call 44; refine (HW.out _ ?_).mono ?_; (first | exact hB0.trans (hcur.mono hB0.size) | exact hB0.trans (hcur.drew.mono hB0.size)); rintro e w1 ⟨rfl, hb1⟩; have hcur : Below W0.heap.size W0 w1 := (by first | exact hcur.trans (hb1.mono hcur.size) | exact hcur.drew.trans (hb1.mono hcur.size)); have ae0 := (hcur.cell (p := ⟨w.heap.size, 0, none⟩) alt).trans ak0; have ae1 := (hcur.cell (p := ⟨w.heap.size, 1, none⟩) alt).trans ak1; have ae2 := (hcur.cell (p := ⟨w.heap.size, 2, none⟩) alt).trans ak2; have ae3 := (hcur.cell (p := ⟨w.heap.size, 3, none⟩) alt).trans ak3; have ae4 := (hcur.cell (p := ⟨w.heap.size, 4, none⟩) alt).trans ak4; have ae5 := (hcur.cell (p := ⟨w.heap.size, 5, none⟩) alt).trans ak5; have ae6 := (hcur.cell (p := ⟨w.heap.size, 6, none⟩) alt).trans ak6; have ae7 := (hcur.cell (p := ⟨w.heap.size, 7, none⟩) alt).trans ak7; have ae8 := (hcur.cell (p := ⟨w.heap.size, 8, none⟩) alt).trans ak8; have be0 := (hcur.cell (p := ⟨w.heap.size + 1, 0, none⟩) blt).trans bk0; have be1 := (hcur.cell (p := ⟨w.heap.size + 1, 1, none⟩) blt).trans bk1; have be2 := (hcur.cell (p := ⟨w.heap.size + 1, 2, none⟩) blt).trans bk2; have be3 := (hcur.cell (p := ⟨w.heap.size + 1, 3, none⟩) blt).trans bk3; have be4 := (hcur.cell (p := ⟨w.heap.size + 1, 4, none⟩) blt).trans bk4; have be5 := (hcur.cell (p := ⟨w.heap.size + 1, 5, none⟩) blt).trans bk5; have be6 := (hcur.cell (p := ⟨w.heap.size + 1, 6, none⟩) blt).trans bk6; have be7 := (hcur.cell (p := ⟨w.heap.size + 1, 7, none⟩) blt).trans bk7; have be8 := (hcur.cell (p := ⟨w.heap.size + 1, 8, none⟩) blt).trans bk8)
                  | (go_at_call 43; refine (HS2 _ ?_).mono ?_; (first | exact hB0.trans (hcur.mono hB0.size) | exact hB0.trans (hcur.drew.mono hB0.size)); have hcur0 := hcur; rintro e w1 ⟨va, vm, vc, rfl, HO, hb1⟩; have hcur : Below W0.heap.size W0 w1 := (by first | exact hcur.trans (hb1.mono hcur.size) | exact hcur.drew.trans (hb1.mono hcur.size)); have hX1 := (hcur.block _ alt).trans hX; have hY1 := (hcur.block _ blt).trans hY; have hZ1 := (hcur.block _ zlt).trans hZ; obtain ⟨W9, e9, hx9, hB9, hK9⟩ := store9 hZ1 (hB0.trans (hcur.mono hB0.size)) (by omega) (.int .i64 c4) (.int .i64 n4) (.int .i64 k4) (.int .i64 p4) (.string s4) (.slice va vm vc) (.int .i64 tc4) (.int .i64 tn4) (.bool on4); obtain ⟨d0, d1, d2, d3, d4, d5, d6, d7, d8⟩ := box9 hZ1; obtain ⟨dz0, dz1, dz2, dz3, dz4, dz5, dz6, dz7, dz8⟩ := wr9 hZ1; obtain ⟨r0, r1, r2, r3, r4, r5, r6, r7, r8⟩ := box9 hx9; obtain ⟨ax0, ax1, ax2, ax3, ax4, ax5, ax6, ax7, ax8⟩ := box9 (hK9.block hX1 (by omega)); obtain ⟨bx0, bx1, bx2, bx3, bx4, bx5, bx6, bx7, bx8⟩ := box9 (hK9.block hY1 (by omega)); have HO2 : Hid (Src (.slice a m cap) l w W9 (.slice va vm vc) l4) := (by first | exact HO.step hK9 (by have := hcur0.size; omega) (by have := hcur0.size; omega) | exact HO.step hK9 (by have := hcur0.drew.size; omega) (by have := hcur0.drew.size; omega)); have ae0 := (hcur.cell (p := ⟨w.heap.size, 0, none⟩) alt).trans ak0; have ae1 := (hcur.cell (p := ⟨w.heap.size, 1, none⟩) alt).trans ak1; have ae2 := (hcur.cell (p := ⟨w.heap.size, 2, none⟩) alt).trans ak2; have ae3 := (hcur.cell (p := ⟨w.heap.size, 3, none⟩) alt).trans ak3; have ae4 := (hcur.cell (p := ⟨w.heap.size, 4, none⟩) alt).trans ak4; have ae5 := (hcur.cell (p := ⟨w.heap.size, 5, none⟩) alt).trans ak5; have ae6 := (hcur.cell (p := ⟨w.heap.size, 6, none⟩) alt).trans ak6; have ae7 := (hcur.cell (p := ⟨w.heap.size, 7, none⟩) alt).trans ak7; have ae8 := (hcur.cell (p := ⟨w.heap.size, 8, none⟩) alt).trans ak8; have be0 := (hcur.cell (p := ⟨w.heap.size + 1, 0, none⟩) blt).trans bk0; have be1 := (hcur.cell (p := ⟨w.heap.size + 1, 1, none⟩) blt).trans bk1; have be2 := (hcur.cell (p := ⟨w.heap.size + 1, 2, none⟩) blt).trans bk2; have be3 := (hcur.cell (p := ⟨w.heap.size + 1, 3, none⟩) blt).trans bk3; have be4 := (hcur.cell (p := ⟨w.heap.size + 1, 4, none⟩) blt).trans bk4; have be5 := (hcur.cell (p := ⟨w.heap.size + 1, 5, none⟩) blt).trans bk5; have be6 := (hcur.cell (p := ⟨w.heap.size + 1, 6, none⟩) blt).trans bk6; have be7 := (hcur.cell (p := ⟨w.heap.size + 1, 7, none⟩) blt).trans bk7; have be8 := (hcur.cell (p := ⟨w.heap.size + 1, 8, none⟩) blt).trans bk8))
              all_goals
                go_wp2_with fail
                try rw [e9]
                refine bodyPost_ret (v := .tuple #[.agg #[.int .i64 c4, .int .i64 n4, .int .i64 k4, .int .i64 p4, .string s4, .slice va vm vc, .int .i64 tc4, .int .i64 tn4, .bool on4], .int .i64 e4]) (by simp [results, Tryz.results19, go_sem, r0, r1, r2, r3, r4, r5, r6, r7, r8]) rfl ⟨va, vm, vc, rfl, HO2.out, hB9⟩
            · have tt : decide (p2 < p2) = false := decide_eq_false (by omega)
              go_wp2_with fail
              have hcur : Below W0.heap.size W0 W0 := Below.refl _ _
              go_region_held3 (fun W => W.cell? ⟨w.heap.size, 0, none⟩ = some (.int .i64 c) ∧ W.cell? ⟨w.heap.size, 1, none⟩ = some (.int .i64 n) ∧ W.cell? ⟨w.heap.size, 2, none⟩ = some (.int .i64 1) ∧ W.cell? ⟨w.heap.size, 3, none⟩ = some (.int .i64 p2) ∧ W.cell? ⟨w.heap.size, 4, none⟩ = some (.string s) ∧ W.cell? ⟨w.heap.size, 5, none⟩ = some (.slice a m cap) ∧ W.cell? ⟨w.heap.size, 6, none⟩ = some (.int .i64 tc) ∧ W.cell? ⟨w.heap.size, 7, none⟩ = some (.int .i64 tn) ∧ W.cell? ⟨w.heap.size, 8, none⟩ = some (.bool on) ∧ W.cell? ⟨w.heap.size + 1, 0, none⟩ = some (.int .i64 c2) ∧ W.cell? ⟨w.heap.size + 1, 1, none⟩ = some (.int .i64 n2) ∧ W.cell? ⟨w.heap.size + 1, 2, none⟩ = some (.int .i64 1) ∧ W.cell? ⟨w.heap.size + 1, 3, none⟩ = some (.int .i64 p2) ∧ W.cell? ⟨w.heap.size + 1, 4, none⟩ = some (.string s2) ∧ W.cell? ⟨w.heap.size + 1, 5, none⟩ = some (.slice b m2 cap2) ∧ W.cell? ⟨w.heap.size + 1, 6, none⟩ = some (.int .i64 tc2) ∧ W.cell? ⟨w.heap.size + 1, 7, none⟩ = some (.int .i64 tn2) ∧ W.cell? ⟨w.heap.size + 1, 8, none⟩ = some (.bool on2)) (first | exact ⟨ak0, ak1, ak2, ak3, ak4, ak5, ak6, ak7, ak8, bk0, bk1, bk2, bk3, bk4, bk5, bk6, bk7, bk8⟩ | exact ⟨ae0, ae1, ae2, ae3, ae4, ae5, ae6, ae7, ae8, be0, be1, be2, be3, be4, be5, be6, be7, be8⟩ | exact ⟨ax0, ax1, ax2, ax3, ax4, ax5, ax6, ax7, ax8, bx0, bx1, bx2, bx3, bx4, bx5, bx6, bx7, bx8⟩)
                (first
                  | (go_at_call 44; refine (HW.out _ ?_).mono ?_; (first | exact hB0.trans (hcur.mono hB0.size) | exact hB0.trans (hcur.drew.mono hB0.size)); rintro e w1 ⟨rfl, hb1⟩; have hcur : Below W0.heap.size W0 w1 := (by first | exact hcur.trans (hb1.mono hcur.size) | exact hcur.drew.trans (hb1.mono hcur.size)); have ae0 := (hcur.cell (p := ⟨w.heap.size, 0, none⟩) alt).trans ak0; have ae1 := (hcur.cell (p := ⟨w.heap.size, 1, none⟩) alt).trans ak1; have ae2 := (hcur.cell (p := ⟨w.heap.size, 2, none⟩) alt).trans ak2; have ae3 := (hcur.cell (p := ⟨w.heap.size, 3, none⟩) alt).trans ak3; have ae4 := (hcur.cell (p := ⟨w.heap.size, 4, none⟩) alt).trans ak4; have ae5 := (hcur.cell (p := ⟨w.heap.size, 5, none⟩) alt).trans ak5; have ae6 := (hcur.cell (p := ⟨w.heap.size, 6, none⟩) alt).trans ak6; have ae7 := (hcur.cell (p := ⟨w.heap.size, 7, none⟩) alt).trans ak7; have ae8 := (hcur.cell (p := ⟨w.heap.size, 8, none⟩) alt).trans ak8; have be0 := (hcur.cell (p := ⟨w.heap.size + 1, 0, none⟩) blt).trans bk0; have be1 := (hcur.cell (p := ⟨w.heap.size + 1, 1, none⟩) blt).trans bk1; have be2 := (hcur.cell (p := ⟨w.heap.size + 1, 2, none⟩) blt).trans bk2; have be3 := (hcur.cell (p := ⟨w.heap.size + 1, 3, none⟩) blt).trans bk3; have be4 := (hcur.cell (p := ⟨w.heap.size + 1, 4, none⟩) blt).trans bk4; have be5 := (hcur.cell (p := ⟨w.heap.size + 1, 5, none⟩) blt).trans bk5; have be6 := (hcur.cell (p := ⟨w.heap.size + 1, 6, none⟩) blt).trans bk6; have be7 := (hcur.cell (p := ⟨w.heap.size + 1, 7, none⟩) blt).trans bk7; have be8 := (hcur.cell (p := ⟨w.heap.size + 1, 8, none⟩) blt).trans bk8)
                  | (go_at_call 43; refine (HS2 _ ?_).mono ?_; (first | exact hB0.trans (hcur.mono hB0.size) | exact hB0.trans (hcur.drew.mono hB0.size)); have hcur0 := hcur; rintro e w1 ⟨va, vm, vc, rfl, HO, hb1⟩; have hcur : Below W0.heap.size W0 w1 := (by first | exact hcur.trans (hb1.mono hcur.size) | exact hcur.drew.trans (hb1.mono hcur.size)); have hX1 := (hcur.block _ alt).trans hX; have hY1 := (hcur.block _ blt).trans hY; have hZ1 := (hcur.block _ zlt).trans hZ; obtain ⟨W9, e9, hx9, hB9, hK9⟩ := store9 hZ1 (hB0.trans (hcur.mono hB0.size)) (by omega) (.int .i64 c4) (.int .i64 n4) (.int .i64 k4) (.int .i64 p4) (.string s4) (.slice va vm vc) (.int .i64 tc4) (.int .i64 tn4) (.bool on4); obtain ⟨d0, d1, d2, d3, d4, d5, d6, d7, d8⟩ := box9 hZ1; obtain ⟨dz0, dz1, dz2, dz3, dz4, dz5, dz6, dz7, dz8⟩ := wr9 hZ1; obtain ⟨r0, r1, r2, r3, r4, r5, r6, r7, r8⟩ := box9 hx9; obtain ⟨ax0, ax1, ax2, ax3, ax4, ax5, ax6, ax7, ax8⟩ := box9 (hK9.block hX1 (by omega)); obtain ⟨bx0, bx1, bx2, bx3, bx4, bx5, bx6, bx7, bx8⟩ := box9 (hK9.block hY1 (by omega)); have HO2 : Hid (Src (.slice a m cap) l w W9 (.slice va vm vc) l4) := (by first | exact HO.step hK9 (by have := hcur0.size; omega) (by have := hcur0.size; omega) | exact HO.step hK9 (by have := hcur0.drew.size; omega) (by have := hcur0.drew.size; omega)); have ae0 := (hcur.cell (p := ⟨w.heap.size, 0, none⟩) alt).trans ak0; have ae1 := (hcur.cell (p := ⟨w.heap.size, 1, none⟩) alt).trans ak1; have ae2 := (hcur.cell (p := ⟨w.heap.size, 2, none⟩) alt).trans ak2; have ae3 := (hcur.cell (p := ⟨w.heap.size, 3, none⟩) alt).trans ak3; have ae4 := (hcur.cell (p := ⟨w.heap.size, 4, none⟩) alt).trans ak4; have ae5 := (hcur.cell (p := ⟨w.heap.size, 5, none⟩) alt).trans ak5; have ae6 := (hcur.cell (p := ⟨w.heap.size, 6, none⟩) alt).trans ak6; have ae7 := (hcur.cell (p := ⟨w.heap.size, 7, none⟩) alt).trans ak7; have ae8 := (hcur.cell (p := ⟨w.heap.size, 8, none⟩) alt).trans ak8; have be0 := (hcur.cell (p := ⟨w.heap.size + 1, 0, none⟩) blt).trans bk0; have be1 := (hcur.cell (p := ⟨w.heap.size + 1, 1, none⟩) blt).trans bk1; have be2 := (hcur.cell (p := ⟨w.heap.size + 1, 2, none⟩) blt).trans bk2; have be3 := (hcur.cell (p := ⟨w.heap.size + 1, 3, none⟩) blt).trans bk3; have be4 := (hcur.cell (p := ⟨w.heap.size + 1, 4, none⟩) blt).trans bk4; have be5 := (hcur.cell (p := ⟨w.heap.size + 1, 5, none⟩) blt).trans bk5; have be6 := (hcur.cell (p := ⟨w.heap.size + 1, 6, none⟩) blt).trans bk6; have be7 := (hcur.cell (p := ⟨w.heap.size + 1, 7, none⟩) blt).trans bk7; have be8 := (hcur.cell (p := ⟨w.heap.size + 1, 8, none⟩) blt).trans bk8))
              all_goals
                go_wp2_with fail
                try rw [e9]
                refine bodyPost_ret (v := .tuple #[.agg #[.int .i64 c4, .int .i64 n4, .int .i64 k4, .int .i64 p4, .string s4, .slice va vm vc, .int .i64 tc4, .int .i64 tn4, .bool on4], .int .i64 e4]) (by simp [results, Tryz.results19, go_sem, r0, r1, r2, r3, r4, r5, r6, r7, r8]) rfl ⟨va, vm, vc, rfl, HO2.out, hB9⟩
          · rw [if_neg hc] at hq
            subst hq
            have t5 : decide (p2 < p) = false := decide_eq_false (by omega)
            clear HS2 HW
            by_cases h5 : p2 = p
            · subst h5
              have h6 : ear = false := by cases ear with | false => rfl | true => exact absurd (.inr ⟨rfl, rfl⟩) hc
              subst h6
              clear hc
              obtain ⟨W9, e9, hx9, hB9, hK9⟩ := store9 hZ1 hB1 (by omega) (.int .i64 c) (.int .i64 n) (.int .i64 1) (.int .i64 p2) (.string s) (.slice a m cap) (.int .i64 tc) (.int .i64 tn) (.bool on)
              obtain ⟨d0, d1, d2, d3, d4, d5, d6, d7, d8⟩ := box9 hZ1
              obtain ⟨dz0, dz1, dz2, dz3, dz4, dz5, dz6, dz7, dz8⟩ := wr9 hZ1
              obtain ⟨r0, r1, r2, r3, r4, r5, r6, r7, r8⟩ := box9 hx9
              go_wp2_with fail
              try rw [e9]
              refine bodyPost_ret (v := .tuple #[.agg #[.int .i64 c, .int .i64 n, .int .i64 1, .int .i64 p2, .string s, .slice a m cap, .int .i64 tc, .int .i64 tn, .bool on], .int .i64 0]) (by simp [results, Tryz.results19, go_sem, r0, r1, r2, r3, r4, r5, r6, r7, r8]) rfl ⟨a, m, cap, rfl, src_same _ _ _ _, hB9⟩
            · have t6 : (p2 == p) = false := beq_eq_false_iff_ne.2 h5
              clear hc h5
              obtain ⟨W9, e9, hx9, hB9, hK9⟩ := store9 hZ1 hB1 (by omega) (.int .i64 c) (.int .i64 n) (.int .i64 1) (.int .i64 p) (.string s) (.slice a m cap) (.int .i64 tc) (.int .i64 tn) (.bool on)
              obtain ⟨d0, d1, d2, d3, d4, d5, d6, d7, d8⟩ := box9 hZ1
              obtain ⟨dz0, dz1, dz2, dz3, dz4, dz5, dz6, dz7, dz8⟩ := wr9 hZ1
              obtain ⟨r0, r1, r2, r3, r4, r5, r6, r7, r8⟩ := box9 hx9
              go_wp2_with fail
              try rw [e9]
              refine bodyPost_ret (v := .tuple #[.agg #[.int .i64 c, .int .i64 n, .int .i64 1, .int .i64 p, .string s, .slice a m cap, .int .i64 tc, .int .i64 tn, .bool on], .int .i64 0]) (by simp [results, Tryz.results19, go_sem, r0, r1, r2, r3, r4, r5, r6, r7, r8]) rfl ⟨a, m, cap, rfl, src_same _ _ _ _, hB9⟩
        · rw [if_pos h1] at hq
          subst hq
          have HT2 := HT.out rfl h1 h4 w1 hB1
          have t1 : (k == 1) = false := beq_eq_false_iff_ne.2 h1
          clear HT HS HW h1 h4
          go_wp2_with fail
          refine HT2.mono ?_
          rintro e w2 ⟨va, vm, vc, rfl, hRd, hb2⟩
          have hB2 := hB1.trans (hb2.mono hB1.size)
          have hZ2 := (hb2.block _ (Array.getElem?_eq_some_iff.1 hZ1).1).trans hZ1
          have hlt : w.heap.size + 2 < w1.heap.size := (Array.getElem?_eq_some_iff.1 hZ1).1
          have HR2 : Hid (OwnF rangeV 2 91 w2 w1.heap.size (.slice va vm vc) l3) := hRd
          clear hRd hb2 hB1 hZ1 hX1 hY1 HT2 ak0 ak1 ak2 ak3 ak4 ak5 ak6 ak7 ak8 bk0 bk1 bk2 bk3 bk4 bk5 bk6 bk7 bk8
          obtain ⟨W9, e9, hx9, hB9, hK9⟩ := store9 hZ2 hB2 (by omega) (.int .i64 c3) (.int .i64 n3) (.int .i64 k3) (.int .i64 p3) (.string s3) (.slice va vm vc) (.int .i64 tc3) (.int .i64 tn3) (.bool on3)
          obtain ⟨d0, d1, d2, d3, d4, d5, d6, d7, d8⟩ := box9 hZ2
          obtain ⟨dz0, dz1, dz2, dz3, dz4, dz5, dz6, dz7, dz8⟩ := wr9 hZ2
          obtain ⟨r0, r1, r2, r3, r4, r5, r6, r7, r8⟩ := box9 hx9
          go_wp2_with fail
          try rw [e9]
          refine bodyPost_ret (v := .tuple #[.agg #[.int .i64 c3, .int .i64 n3, .int .i64 k3, .int .i64 p3, .string s3, .slice va vm vc, .int .i64 tc3, .int .i64 tn3, .bool on3], .int .i64 e3]) (by simp [results, Tryz.results19, go_sem, r0, r1, r2, r3, r4, r5, r6, r7, r8]) rfl ⟨va, vm, vc, rfl, .inr ((hK9.own HR2.out hlt).mono (by omega)), hB9⟩
    · rw [if_pos (.inl h2)] at hq
      subst hq
      have t2 : (k2 == 1) = false := beq_eq_false_iff_ne.2 h2
      clear HT HS HW h2
      obtain ⟨W9, e9, hx9, hB9, hK9⟩ := store9 hZ1 hB1 (by omega) (.int .i64 c) (.int .i64 n) (.int .i64 k) (.int .i64 p) (.string s) (.slice a m cap) (.int .i64 tc) (.int .i64 tn) (.bool on)
      obtain ⟨d0, d1, d2, d3, d4, d5, d6, d7, d8⟩ := box9 hZ1
      obtain ⟨dz0, dz1, dz2, dz3, dz4, dz5, dz6, dz7, dz8⟩ := wr9 hZ1
      obtain ⟨r0, r1, r2, r3, r4, r5, r6, r7, r8⟩ := box9 hx9
      go_wp2_with fail
      try rw [e9]
      refine bodyPost_ret (v := .tuple #[.agg #[.int .i64 c, .int .i64 n, .int .i64 k, .int .i64 p, .string s, .slice a m cap, .int .i64 tc, .int .i64 tn, .bool on], .int .i64 0]) (by simp [results, Tryz.results19, go_sem, r0, r1, r2, r3, r4, r5, r6, r7, r8]) rfl ⟨a, m, cap, rfl, src_same _ _ _ _, hB9⟩
end Go.Proofs.YtmdnmhdimfglaaaGreatDoor

namespace Go.Proofs.YtmdnmhdimfglaaaGreatDoor
open Go.RowKit Go.Lib
set_option maxRecDepth 100000
set_option maxHeartbeats 8000000 in
theorem excluded_any {o o2 : OpV} {a : Option Addr} {m cap : Nat} {b : Option Addr} {m2 cap2 : Nat} {w : World} (hR : Sp.Rng w a m cap o.l) (hs : o2.s.size ≤ 9223372036854775807) (hw : Bar w) (r1 : Right o) (r2 : Right o2) :
    Calls Tryz.prog 34 #[opVal o (.slice a m cap), opVal o2 (.slice b m2 cap2)] w fun e w' => ∃ va vm vc, e = .returned (.tuple #[opVal (exclP o o2).1 (.slice va vm vc), .int .i64 (exclP o o2).2]) ∧ Src (.slice a m cap) o.l w w' (.slice va vm vc) (exclP o o2).1.l ∧ Below w.heap.size w w' := by
  have HG : Tryz.prog.eqGuardType Tryz.prog.depth 28 = false := by kernel_rfl
  have HC : Hid (∀ (W : World), Calls Tryz.prog 41 #[opVal o (.slice a m cap), opVal o2 (.slice b m2 cap2)] W fun e w' => e = .returned (.bool (clashP o o2)) ∧ Below W.heap.size W w') := fun W => clash_any
  have HT : Hid (o2.k = 1 → o.k ≠ 1 → o.k ≠ 4 → ∀ (W : World), Below w.heap.size w W → Calls Tryz.prog 64 #[opVal o (.slice a m cap), opVal o2 (.slice b m2 cap2)] W fun e w' => ∃ va vm vc, e = .returned (.tuple #[opVal (backP o o2).1 (.slice va vm vc), .int .i64 (backP o o2).2]) ∧ OwnF rangeV 2 91 w' W.heap.size (.slice va vm vc) (backP o o2).1.l ∧ Below W.heap.size W w') := fun e1 e2 e3 W hb => backFromInsert_any (hR.below hb) (r1.lst e2 e3) hs (hw.below hb) ⟨(r2.pos e1).1, (r2.pos e1).2.1⟩ ⟨(r2.wd).1, by have := r2.wd; omega⟩ (r2.pos e1).2.2.2
  have HS : Hid (o2.k = 1 → o.k = 1 → ∀ (W : World), Below w.heap.size w W → Calls Tryz.prog 65 #[opVal o (.slice a m cap), opVal o2 (.slice b m2 cap2)] W fun e w' => ∃ va vm vc, e = .returned (.tuple #[opVal (outP o o2).1 (.slice va vm vc), .int .i64 (outP o o2).2]) ∧ Src (.slice a m cap) o.l W w' (.slice va vm vc) (outP o o2).1.l ∧ Below W.heap.size W w') := fun e1 e2 W hb =>
    outOfInsert_any hs (hw.below hb) ⟨(r1.pos e2).1, (r1.pos e2).2.1⟩ ⟨(r2.pos e1).1, (r2.pos e1).2.1⟩ ⟨(r2.wd).1, by have := r2.wd; omega⟩
  obtain ⟨q, hq⟩ : ∃ q, exclP o o2 = q := ⟨_, rfl⟩
  rw [hq]
  unfold exclP at hq
  generalize clashP o o2 = cl at *
  generalize backP o o2 = tq at *
  generalize outP o o2 = sq at *
  clear hR hs hw r1 r2
  obtain ⟨⟨c3, n3, k3, p3, s3, l3, tc3, tn3, on3⟩, e3⟩ := tq
  obtain ⟨⟨c4, n4, k4, p4, s4, l4, tc4, tn4, on4⟩, e4⟩ := sq
  obtain ⟨c, n, k, p, s, l, tc, tn, on⟩ := o
  obtain ⟨c2, n2, k2, p2, s2, l2, tc2, tn2, on2⟩ := o2
  simp only [opVal] at *
  have eq1 := fun W => run_eqID W tc tn c2 n2
  obtain ⟨W0, hW0⟩ : ∃ W0, ((w.alloc (Obj.cells #[.int .i64 c, .int .i64 n, .int .i64 k, .int .i64 p, .string s, .slice a m cap, .int .i64 tc, .int .i64 tn, .bool on] 34)).alloc (Obj.cells #[.int .i64 c2, .int .i64 n2, .int .i64 k2, .int .i64 p2, .string s2, .slice b m2 cap2, .int .i64 tc2, .int .i64 tn2, .bool on2] 34)).alloc (Obj.cells #[.int .i64 0, .int .i64 0, .int .i64 0, .int .i64 0, .string ⟨#[]⟩, .slice none 0 0, .int .i64 0, .int .i64 0, .bool false] 34) = W0 := ⟨_, rfl⟩
  have hX : W0.heap[w.heap.size]? = some (Obj.cells #[.int .i64 c, .int .i64 n, .int .i64 k, .int .i64 p, .string s, .slice a m cap, .int .i64 tc, .int .i64 tn, .bool on] 34) := by rw [← hW0]; exact (Below.heap_alloc _ _ _ (by simp; omega)).trans ((Below.heap_alloc _ _ _ (by simp)).trans (alloc_last _ _ _ rfl))
  have hY : W0.heap[w.heap.size + 1]? = some (Obj.cells #[.int .i64 c2, .int .i64 n2, .int .i64 k2, .int .i64 p2, .string s2, .slice b m2 cap2, .int .i64 tc2, .int .i64 tn2, .bool on2] 34) := by rw [← hW0]; exact (Below.heap_alloc _ _ _ (by simp)).trans (alloc_last _ _ _ (by simp))
  have hZ : W0.heap[w.heap.size + 2]? = some (Obj.cells #[.int .i64 0, .int .i64 0, .int .i64 0, .int .i64 0, .string ⟨#[]⟩, .slice none 0 0, .int .i64 0, .int .i64 0, .bool false] 34) := by rw [← hW0]; exact alloc_last _ _ _ (by simp)
  have hB0 : Below w.heap.size w W0 := by rw [← hW0]; exact (((Below.refl w.heap.size w).alloc (Nat.le_refl _) _).alloc (by simp) _).alloc (by simp; omega) _
  have alt : w.heap.size < W0.heap.size := (Array.getElem?_eq_some_iff.1 hX).1
  have blt : w.heap.size + 1 < W0.heap.size := (Array.getElem?_eq_some_iff.1 hY).1
  have zlt : w.heap.size + 2 < W0.heap.size := (Array.getElem?_eq_some_iff.1 hZ).1
  obtain ⟨ak0, ak1, ak2, ak3, ak4, ak5, ak6, ak7, ak8⟩ := box9 hX
  obtain ⟨bk0, bk1, bk2, bk3, bk4, bk5, bk6, bk7, bk8⟩ := box9 hY
  go_enter Tryz.func34, Tryz.ntmps34
  go_wp2_with fail
  refine (HC.out _).mono ?_
  rintro e w1 ⟨rfl, hcur⟩
  have hB1 := hB0.trans (hcur.mono hB0.size)
  have hX1 := (hcur.block _ alt).trans hX
  have hY1 := (hcur.block _ blt).trans hY
  have hZ1 := (hcur.block _ zlt).trans hZ
  clear HC hcur hX hY hZ hB0 alt blt zlt hW0 ak0 ak1 ak2 ak3 ak4 ak5 ak6 ak7 ak8 bk0 bk1 bk2 bk3 bk4 bk5 bk6 bk7 bk8
  obtain ⟨ak0, ak1, ak2, ak3, ak4, ak5, ak6, ak7, ak8⟩ := box9 hX1
  obtain ⟨bk0, bk1, bk2, bk3, bk4, bk5, bk6, bk7, bk8⟩ := box9 hY1
  cases cl with
  | true =>
    rw [if_pos rfl] at hq
    subst hq
    clear HT HS eq1
    obtain ⟨W9, e9, hx9, hB9, hK9⟩ := store9 hZ1 hB1 (by omega) (.int .i64 0) (.int .i64 0) (.int .i64 0) (.int .i64 0) (.string ⟨#[]⟩) (.slice none 0 0) (.int .i64 0) (.int .i64 0) (.bool false)
    obtain ⟨d0, d1, d2, d3, d4, d5, d6, d7, d8⟩ := box9 hZ1
    obtain ⟨dz0, dz1, dz2, dz3, dz4, dz5, dz6, dz7, dz8⟩ := wr9 hZ1
    obtain ⟨r0, r1, r2, r3, r4, r5, r6, r7, r8⟩ := box9 hx9
    go_wp2_with fail
    try rw [e9]
    refine bodyPost_ret (v := .tuple #[.agg #[.int .i64 0, .int .i64 0, .int .i64 0, .int .i64 0, .string ⟨#[]⟩, .slice none 0 0, .int .i64 0, .int .i64 0, .bool false], .int .i64 50]) (by simp [results, Tryz.results34, go_sem, r0, r1, r2, r3, r4, r5, r6, r7, r8]) rfl ⟨none, 0, 0, rfl, src_nil _ _ _ _, hB9⟩
  | false =>
    rw [if_neg (by simp)] at hq
    by_cases h4 : k = 4
    · subst h4
      clear HT HS
      obtain ⟨r1, hr1⟩ : ∃ r1, (tc == c2 && tn == n2) = r1 := ⟨_, rfl⟩
      simp only [hr1] at eq1
      cases r1 with
      | true =>
        rw [if_pos ⟨rfl, by simpa using hr1⟩] at hq
        subst hq
        clear hr1
        obtain ⟨W9, e9, hx9, hB9, hK9⟩ := store9 hZ1 hB1 (by omega) (.int .i64 0) (.int .i64 0) (.int .i64 0) (.int .i64 0) (.string ⟨#[]⟩) (.slice none 0 0) (.int .i64 0) (.int .i64 0) (.bool false)
        obtain ⟨d0, d1, d2, d3, d4, d5, d6, d7, d8⟩ := box9 hZ1
        obtain ⟨dz0, dz1, dz2, dz3, dz4, dz5, dz6, dz7, dz8⟩ := wr9 hZ1
        obtain ⟨r0, r1, r2, r3, r4, r5, r6, r7, r8⟩ := box9 hx9
        go_wp2_with fail
        try rw [e9]
        refine bodyPost_ret (v := .tuple #[.agg #[.int .i64 0, .int .i64 0, .int .i64 0, .int .i64 0, .string ⟨#[]⟩, .slice none 0 0, .int .i64 0, .int .i64 0, .bool false], .int .i64 23]) (by simp [results, Tryz.results34, go_sem, r0, r1, r2, r3, r4, r5, r6, r7, r8]) rfl ⟨none, 0, 0, rfl, src_nil _ _ _ _, hB9⟩
      | false =>
        rw [if_neg (fun h => by simp at hr1; exact hr1 h.2.1 h.2.2), if_pos (.inr rfl)] at hq
        subst hq
        clear hr1
        by_cases h2 : k2 = 1
        · subst h2
          obtain ⟨W9, e9, hx9, hB9, hK9⟩ := store9 hZ1 hB1 (by omega) (.int .i64 c) (.int .i64 n) (.int .i64 4) (.int .i64 p) (.string s) (.slice a m cap) (.int .i64 tc) (.int .i64 tn) (.bool on)
          obtain ⟨d0, d1, d2, d3, d4, d5, d6, d7, d8⟩ := box9 hZ1
          obtain ⟨dz0, dz1, dz2, dz3, dz4, dz5, dz6, dz7, dz8⟩ := wr9 hZ1
          obtain ⟨r0, r1, r2, r3, r4, r5, r6, r7, r8⟩ := box9 hx9
          go_wp2_with fail
          try rw [e9]
          refine bodyPost_ret (v := .tuple #[.agg #[.int .i64 c, .int .i64 n, .int .i64 4, .int .i64 p, .string s, .slice a m cap, .int .i64 tc, .int .i64 tn, .bool on], .int .i64 0]) (by simp [results, Tryz.results34, go_sem, r0, r1, r2, r3, r4, r5, r6, r7, r8]) rfl ⟨a, m, cap, rfl, src_same _ _ _ _, hB9⟩
        · have t2 : (k2 == 1) = false := beq_eq_false_iff_ne.2 h2
          have t3 : decide (k2 = 1) = false := decide_eq_false h2
          obtain ⟨W9, e9, hx9, hB9, hK9⟩ := store9 hZ1 hB1 (by omega) (.int .i64 c) (.int .i64 n) (.int .i64 4) (.int .i64 p) (.string s) (.slice a m cap) (.int .i64 tc) (.int .i64 tn) (.bool on)
          obtain ⟨d0, d1, d2, d3, d4, d5, d6, d7, d8⟩ := box9 hZ1
          obtain ⟨dz0, dz1, dz2, dz3, dz4, dz5, dz6, dz7, dz8⟩ := wr9 hZ1
          obtain ⟨r0, r1, r2, r3, r4, r5, r6, r7, r8⟩ := box9 hx9
          go_wp2_with fail
          try rw [e9]
          refine bodyPost_ret (v := .tuple #[.agg #[.int .i64 c, .int .i64 n, .int .i64 4, .int .i64 p, .string s, .slice a m cap, .int .i64 tc, .int .i64 tn, .bool on], .int .i64 0]) (by simp [results, Tryz.results34, go_sem, r0, r1, r2, r3, r4, r5, r6, r7, r8]) rfl ⟨a, m, cap, rfl, src_same _ _ _ _, hB9⟩
    · rw [if_neg (fun h => h4 h.1)] at hq
      have t4 : (k == 4) = false := beq_eq_false_iff_ne.2 h4
      clear eq1
      by_cases h2 : k2 = 1
      · subst h2
        rw [if_neg (by omega)] at hq
        by_cases h1 : k = 1
        · subst h1
          rw [if_neg (by simp)] at hq
          subst hq
          have HS2 := HS.out rfl rfl w1 hB1
          clear HT HS h4
          go_wp2_with fail
          refine HS2.mono ?_
          rintro e w2 ⟨va, vm, vc, rfl, hRd, hb2⟩
          have hB2 := hB1.trans (hb2.mono hB1.size)
          have hZ2 := (hb2.block _ (Array.getElem?_eq_some_iff.1 hZ1).1).trans hZ1
          have hlt : w.heap.size + 2 < w1.heap.size := (Array.getElem?_eq_some_iff.1 hZ1).1
          have HR2 : Hid (Src (.slice a m cap) l w1 w2 (.slice va vm vc) l4) := hRd
          clear hRd hb2 hB1 hZ1 hX1 hY1 HS2 ak0 ak1 ak2 ak3 ak4 ak5 ak6 ak7 ak8 bk0 bk1 bk2 bk3 bk4 bk5 bk6 bk7 bk8
          obtain ⟨W9, e9, hx9, hB9, hK9⟩ := store9 hZ2 hB2 (by omega) (.int .i64 c4) (.int .i64 n4) (.int .i64 k4) (.int .i64 p4) (.string s4) (.slice va vm vc) (.int .i64 tc4) (.int .i64 tn4) (.bool on4)
          obtain ⟨d0, d1, d2, d3, d4, d5, d6, d7, d8⟩ := box9 hZ2
          obtain ⟨dz0, dz1, dz2, dz3, dz4, dz5, dz6, dz7, dz8⟩ := wr9 hZ2
          obtain ⟨r0, r1, r2, r3, r4, r5, r6, r7, r8⟩ := box9 hx9
          go_wp2_with fail
          try rw [e9]
          refine bodyPost_ret (v := .tuple #[.agg #[.int .i64 c4, .int .i64 n4, .int .i64 k4, .int .i64 p4, .string s4, .slice va vm vc, .int .i64 tc4, .int .i64 tn4, .bool on4], .int .i64 e4]) (by simp [results, Tryz.results34, go_sem, r0, r1, r2, r3, r4, r5, r6, r7, r8]) rfl ⟨va, vm, vc, rfl, HR2.out.step hK9 hlt (by omega), hB9⟩
        · rw [if_pos h1] at hq
          subst hq
          have HT2 := HT.out rfl h1 h4 w1 hB1
          have t1 : (k == 1) = false := beq_eq_false_iff_ne.2 h1
          clear HT HS h1 h4
          go_wp2_with fail
          refine HT2.mono ?_
          rintro e w2 ⟨va, vm, vc, rfl, hRd, hb2⟩
          have hB2 := hB1.trans (hb2.mono hB1.size)
          have hZ2 := (hb2.block _ (Array.getElem?_eq_some_iff.1 hZ1).1).trans hZ1
          have hlt : w.heap.size + 2 < w1.heap.size := (Array.getElem?_eq_some_iff.1 hZ1).1
          have HR2 : Hid (OwnF rangeV 2 91 w2 w1.heap.size (.slice va vm vc) l3) := hRd
          clear hRd hb2 hB1 hZ1 hX1 hY1 HT2 ak0 ak1 ak2 ak3 ak4 ak5 ak6 ak7 ak8 bk0 bk1 bk2 bk3 bk4 bk5 bk6 bk7 bk8
          obtain ⟨W9, e9, hx9, hB9, hK9⟩ := store9 hZ2 hB2 (by omega) (.int .i64 c3) (.int .i64 n3) (.int .i64 k3) (.int .i64 p3) (.string s3) (.slice va vm vc) (.int .i64 tc3) (.int .i64 tn3) (.bool on3)
          obtain ⟨d0, d1, d2, d3, d4, d5, d6, d7, d8⟩ := box9 hZ2
          obtain ⟨dz0, dz1, dz2, dz3, dz4, dz5, dz6, dz7, dz8⟩ := wr9 hZ2
          obtain ⟨r0, r1, r2, r3, r4, r5, r6, r7, r8⟩ := box9 hx9
          go_wp2_with fail
          try rw [e9]
          refine bodyPost_ret (v := .tuple #[.agg #[.int .i64 c3, .int .i64 n3, .int .i64 k3, .int .i64 p3, .string s3, .slice va vm vc, .int .i64 tc3, .int .i64 tn3, .bool on3], .int .i64 e3]) (by simp [results, Tryz.results34, go_sem, r0, r1, r2, r3, r4, r5, r6, r7, r8]) rfl ⟨va, vm, vc, rfl, .inr ((hK9.own HR2.out hlt).mono (by omega)), hB9⟩
      · rw [if_pos (.inl h2)] at hq
        subst hq
        have t2 : (k2 == 1) = false := beq_eq_false_iff_ne.2 h2
        clear HT HS h2 h4
        obtain ⟨W9, e9, hx9, hB9, hK9⟩ := store9 hZ1 hB1 (by omega) (.int .i64 c) (.int .i64 n) (.int .i64 k) (.int .i64 p) (.string s) (.slice a m cap) (.int .i64 tc) (.int .i64 tn) (.bool on)
        obtain ⟨d0, d1, d2, d3, d4, d5, d6, d7, d8⟩ := box9 hZ1
        obtain ⟨dz0, dz1, dz2, dz3, dz4, dz5, dz6, dz7, dz8⟩ := wr9 hZ1
        obtain ⟨r0, r1, r2, r3, r4, r5, r6, r7, r8⟩ := box9 hx9
        go_wp2_with fail
        try rw [e9]
        refine bodyPost_ret (v := .tuple #[.agg #[.int .i64 c, .int .i64 n, .int .i64 k, .int .i64 p, .string s, .slice a m cap, .int .i64 tc, .int .i64 tn, .bool on], .int .i64 0]) (by simp [results, Tryz.results34, go_sem, r0, r1, r2, r3, r4, r5, r6, r7, r8]) rfl ⟨a, m, cap, rfl, src_same _ _ _ _, hB9⟩
set_option maxHeartbeats 4000000 in
theorem ordered_any {o o2 : OpV} {va vb : Value} {w : World} : Calls Tryz.prog 35 #[opVal o va, opVal o2 vb] w fun e w' => e = .returned (.bool (orderedP o o2)) ∧ Below w.heap.size w w' := by
  have HG : Tryz.prog.eqGuardType Tryz.prog.depth 28 = false := by kernel_rfl
  obtain ⟨q, hq⟩ : ∃ q, orderedP o o2 = q := ⟨_, rfl⟩
  rw [hq]
  unfold orderedP at hq
  obtain ⟨c, n, k, p, s, l, tc, tn, on⟩ := o
  obtain ⟨c2, n2, k2, p2, s2, l2, tc2, tn2, on2⟩ := o2
  simp only [opVal] at *
  have hw2 := ((Below.refl w.heap.size w).alloc (Nat.le_refl _) (Obj.cells #[.int .i64 c, .int .i64 n, .int .i64 k, .int .i64 p, .string s, va, .int .i64 tc, .int .i64 tn, .bool on] 34)).alloc (by simp) (Obj.cells #[.int .i64 c2, .int .i64 n2, .int .i64 k2, .int .i64 p2, .string s2, vb, .int .i64 tc2, .int .i64 tn2, .bool on2] 34)
  have e1 := fun W => run_eqID W tc tn c2 n2
  have e2 := fun W => run_eqID W tc tn tc2 tn2
  obtain ⟨r1, h1⟩ : ∃ r1, (tc == c2 && tn == n2) = r1 := ⟨_, rfl⟩
  obtain ⟨r2, h2⟩ : ∃ r2, (tc == tc2 && tn == tn2) = r2 := ⟨_, rfl⟩
  simp only [h1, h2] at hq e1 e2
  clear h1 h2
  by_cases h4 : k = 4
  · subst h4
    by_cases h5 : k2 = 4
    · subst h5
      rw [decide_eq_true (rfl : (4 : Int) = 4)] at hq
      subst hq
      cases r1 <;> cases r2 <;> cases on <;> cases on2
      all_goals
        go_enter Tryz.func35, Tryz.ntmps35
        go_wp2_with fail
        go_ret
        exact ⟨rfl, hw2⟩
    · rw [decide_eq_true rfl, decide_eq_false h5] at hq
      have t5 : (k2 == 4) = false := beq_eq_false_iff_ne.2 h5
      clear h5
      subst hq
      cases r1
      all_goals
        go_enter Tryz.func35, Tryz.ntmps35
        go_wp2_with fail
        go_ret
        exact ⟨rfl, hw2⟩
  · rw [decide_eq_false h4] at hq
    have t4 : (k == 4) = false := beq_eq_false_iff_ne.2 h4
    clear h4
    subst hq
    go_enter Tryz.func35, Tryz.ntmps35
    go_wp2_with fail
    go_ret
    exact ⟨rfl, hw2⟩
end Go.Proofs.YtmdnmhdimfglaaaGreatDoor
