import Derived.Test.YtmeciikfnbbllaaGreatDoorXgC
import Derived.Test.YtmeciikfnbbllaaGreatDoorGaI
import Derived.Test.YtmeciikfnbbllaaGreatDoorGaJ
namespace Go.Proofs.YtmeciikfnbbllaaGreatDoor
open Go.RowKit Go.Lib
set_option maxRecDepth 100000
set_option maxHeartbeats 16000000 in
theorem plays_7 {x : XOp} {w : World} (hx : XOk w x) (hk7 : x.k = 7) (hw : Bar w) :
    Calls Tryz.prog 17 #[.agg (xopF x).toArray] w fun e w' => e = .returned (.bool true) ∧ Below w.heap.size w w' := by
  obtain ⟨h1, -, -, -, -, -, -⟩ := hx
  obtain ⟨k7, o, a1, m1, c1, o2, a2, m2, cp2, ra, rm, rc, R, sa, sm, sc, S, e, N, M⟩ := x
  simp only at hk7
  subst hk7
  obtain ⟨hR, hm, hs⟩ := h1
  simp only at hR hm hs
  have HCP : Hid (∀ W, Below w.heap.size w W → Calls Tryz.prog 26 #[opVal o (.slice a1 m1 c1)] W fun e w' => ∃ a' cap', e = .returned (opVal o (.slice a' m1 cap')) ∧ OwnF rangeV 2 94 w' W.heap.size (.slice a' m1 cap') o.l ∧ Below W.heap.size W w') := fun W hb => copy_any (hR.below hb) (by omega)
  have HCA : Hid (∀ W a' cap', Below w.heap.size w W → Rw rangeV 2 W a' m1 cap' o.l → Calls Tryz.prog 9 #[.int .i64 N, opVal o (.slice a' m1 cap')] W fun e w' => e = .returned (.tuple #[.int .i64 (caretP N o).1, .int .i64 (caretP N o).2]) ∧ Below W.heap.size W w') := fun W a' cap' hb hr => Caret_any (rng_of_rw hr) (by omega) (hw.below hb)
  have HRE : Hid (∀ W, Below w.heap.size w W → Calls Tryz.prog 33 #[.int .i64 N, opVal o (.slice a1 m1 c1)] W fun e w' => e = .returned (.tuple #[.int .i64 (caretP N o).1, .int .i64 (caretP N o).2]) ∧ Below W.heap.size W w') := fun W hb => gCaret_any (hR.below hb) hs
  generalize hq : caretP N o = q at *
  obtain ⟨q1, q2⟩ := q
  simp only at HCA HRE
  have HN : Hid (∀ W, Calls Tryz.prog 11 #[.int .i64 q2] W fun r w' => r = .returned (.int .i64 q2) ∧ W = w') := fun W => (num_any q2 W).mono fun e w' h => ⟨h.1, h.2.symm⟩
  clear hq hR hm hs hw
  obtain ⟨c, n, k, p, s, l, tc, tn, on⟩ := o
  obtain ⟨c2, n2, k2, p2, s2, l2, tc2, tn2, on2⟩ := o2
  simp only [opVal, xopF] at *
  obtain ⟨W0, hW0⟩ : ∃ W0, w.alloc (Obj.cells #[.int .i64 7, .int .i64 c, .int .i64 n, .int .i64 k, .int .i64 p, .string s, .slice a1 m1 c1, .int .i64 tc, .int .i64 tn, .bool on, .int .i64 c2, .int .i64 n2, .int .i64 k2, .int .i64 p2, .string s2, .slice a2 m2 cp2, .int .i64 tc2, .int .i64 tn2, .bool on2, .slice ra rm rc, .slice sa sm sc, .bool e, .int .i64 N, .int .i64 M] 45) = W0 := ⟨_, rfl⟩
  have hX : W0.heap[w.heap.size]? = some (Obj.cells #[.int .i64 7, .int .i64 c, .int .i64 n, .int .i64 k, .int .i64 p, .string s, .slice a1 m1 c1, .int .i64 tc, .int .i64 tn, .bool on, .int .i64 c2, .int .i64 n2, .int .i64 k2, .int .i64 p2, .string s2, .slice a2 m2 cp2, .int .i64 tc2, .int .i64 tn2, .bool on2, .slice ra rm rc, .slice sa sm sc, .bool e, .int .i64 N, .int .i64 M] 45) := by rw [← hW0]; exact heap_alloc_new _ _
  have hB0 : Below w.heap.size w W0 := by rw [← hW0]; exact (Below.refl w.heap.size w).alloc (Nat.le_refl _) _
  have alt : w.heap.size < W0.heap.size := (Array.getElem?_eq_some_iff.1 hX).1
  obtain ⟨ax0, ax1, ax2, ax3, ax4, ax5, ax6, ax7, ax8, ax9, ax10, ax11, ax12, ax13, ax14, ax15, ax16, ax17, ax18, ax19, ax20, ax21, ax22, ax23⟩ := box24 hX
  go_enter Tryz.func17, Tryz.ntmps17
  go_wp2_with fail
  refine wp_region_held_drew (S := (fun W => W.cell? ⟨w.heap.size, 1, none⟩ = some (.int .i64 c) ∧ W.cell? ⟨w.heap.size, 2, none⟩ = some (.int .i64 n) ∧ W.cell? ⟨w.heap.size, 3, none⟩ = some (.int .i64 k) ∧ W.cell? ⟨w.heap.size, 4, none⟩ = some (.int .i64 p) ∧ W.cell? ⟨w.heap.size, 5, none⟩ = some (.string s) ∧ W.cell? ⟨w.heap.size, 6, none⟩ = some (.slice a1 m1 c1) ∧ W.cell? ⟨w.heap.size, 7, none⟩ = some (.int .i64 tc) ∧ W.cell? ⟨w.heap.size, 8, none⟩ = some (.int .i64 tn) ∧ W.cell? ⟨w.heap.size, 9, none⟩ = some (.bool on) ∧ W.cell? ⟨w.heap.size, 22, none⟩ = some (.int .i64 N))) (by kernel_rfl) ?hS1 (fun hHeld => ?rest1)
  case hS1 => (have q := box24 hX; exact ⟨q.2.1, q.2.2.1, q.2.2.2.1, q.2.2.2.2.1, q.2.2.2.2.2.1, q.2.2.2.2.2.2.1, q.2.2.2.2.2.2.2.1, q.2.2.2.2.2.2.2.2.1, q.2.2.2.2.2.2.2.2.2.1, q.2.2.2.2.2.2.2.2.2.2.2.2.2.2.2.2.2.2.2.2.2.2.1⟩)
  refine takeD (i := 0) (d := some 115) (v := ?vT2) rfl rfl (by kernel_rfl) (by kernel_rfl) (by kernel_rfl) (fun _ _ _ h => h) (Or.inl ⟨by rfl, ?hyT2⟩) (by assumption) ?rstT2
  case hyT2 => (intro w hSw; (try dsimp only at hSw); go_simp; (try with_reducible rfl))
  try simp only [Act.put, List.setIfInBounds_toArray, List.set_cons_zero, List.set_cons_succ]
  refine takeD (i := 1) (d := some 116) (v := ?vT3) rfl rfl (by kernel_rfl) (by kernel_rfl) (by kernel_rfl) (fun _ _ _ h => h) (Or.inl ⟨by rfl, ?hyT3⟩) (by assumption) ?rstT3
  case hyT3 => (intro w hSw; (try dsimp only at hSw); go_simp; (try with_reducible rfl))
  try simp only [Act.put, List.setIfInBounds_toArray, List.set_cons_zero, List.set_cons_succ]
  refine takeD (i := 2) (d := some 117) (v := ?vT4) rfl rfl (by kernel_rfl) (by kernel_rfl) (by kernel_rfl) (fun _ _ _ h => h) (Or.inl ⟨by rfl, ?hyT4⟩) (by assumption) ?rstT4
  case hyT4 => (intro w hSw; (try dsimp only at hSw); go_simp; (try with_reducible rfl))
  try simp only [Act.put, List.setIfInBounds_toArray, List.set_cons_zero, List.set_cons_succ]
  refine takeD (i := 3) (d := some 118) (v := ?vT5) rfl rfl (by kernel_rfl) (by kernel_rfl) (by kernel_rfl) (fun _ _ _ h => h) (Or.inl ⟨by rfl, ?hyT5⟩) (by assumption) ?rstT5
  case hyT5 => (intro w hSw; (try dsimp only at hSw); go_simp; (try with_reducible rfl))
  try simp only [Act.put, List.setIfInBounds_toArray, List.set_cons_zero, List.set_cons_succ]
  refine wpAnyH_ready (rs := [4]) (by kernel_rfl) (by simp) ?_
  refine AllReadyH.cons rfl (fun K hK => ?_) AllReadyH.nil
  go_simp
  refine (HCP.out _ (below_drewN hB0 1)).mono ?_
  rintro e2 w2 ⟨ca, cc, rfl, ho2, hb2⟩
  have hB2 : Below w.heap.size w w2 := hB0.trans (((below_drewN (Below.refl _ _) 1).trans hb2).mono hB0.size)
  have hX2 := (((below_drewN (Below.refl W0.heap.size W0) 1).trans hb2).block _ alt).trans hX
  clear hHeld
  refine hK.out _ _ ?hS6 (fun hHeld => ?rest6)
  case hS6 => (have q := box24 hX2; exact ⟨q.2.1, q.2.2.1, q.2.2.2.1, q.2.2.2.2.1, q.2.2.2.2.2.1, q.2.2.2.2.2.2.1, q.2.2.2.2.2.2.2.1, q.2.2.2.2.2.2.2.2.1, q.2.2.2.2.2.2.2.2.2.1, q.2.2.2.2.2.2.2.2.2.2.2.2.2.2.2.2.2.2.2.2.2.2.1⟩)
  clear hK K
  try simp only [Act.put, List.setIfInBounds_toArray, List.set_cons_zero, List.set_cons_succ]
  refine wpAnyH_ready (rs := [5]) (by kernel_rfl) (by simp) ?_
  refine AllReadyH.cons rfl (fun K hK => ?_) AllReadyH.nil
  go_simp
  refine (HCA.out _ _ _ hB2 (ho2.rw_ layG)).mono ?_
  rintro e2 w3 ⟨rfl, hb3⟩
  have hB3 := hB2.trans (hb3.mono hB2.size)
  have hX3 := (hb3.block _ (Array.getElem?_eq_some_iff.1 hX2).1).trans hX2
  clear hHeld
  refine hK.out _ _ ?hS7 (fun hHeld => ?rest7)
  case hS7 => (have q := box24 hX3; exact ⟨q.2.1, q.2.2.1, q.2.2.2.1, q.2.2.2.2.1, q.2.2.2.2.2.1, q.2.2.2.2.2.2.1, q.2.2.2.2.2.2.2.1, q.2.2.2.2.2.2.2.2.1, q.2.2.2.2.2.2.2.2.2.1, q.2.2.2.2.2.2.2.2.2.2.2.2.2.2.2.2.2.2.2.2.2.2.1⟩)
  clear hK K
  try simp only [Act.put, List.setIfInBounds_toArray, List.set_cons_zero, List.set_cons_succ]
  refine takeD (i := 6) (d := some 114) (v := ?vT8) rfl rfl (by kernel_rfl) (by kernel_rfl) (by kernel_rfl) (fun _ _ _ h => h) (Or.inl ⟨by rfl, ?hyT8⟩) (by assumption) ?rstT8
  case hyT8 => (intro w hSw; (try dsimp only at hSw); go_simp; (try with_reducible rfl))
  try simp only [Act.put, List.setIfInBounds_toArray, List.set_cons_zero, List.set_cons_succ]
  refine takeD (i := 7) (d := some 121) (v := ?vT9) rfl rfl (by kernel_rfl) (by kernel_rfl) (by kernel_rfl) (fun _ _ _ h => h) (Or.inl ⟨by rfl, ?hyT9⟩) (by assumption) ?rstT9
  case hyT9 => (intro w hSw; (try dsimp only at hSw); go_simp; (try with_reducible rfl))
  try simp only [Act.put, List.setIfInBounds_toArray, List.set_cons_zero, List.set_cons_succ]
  refine takeD (i := 8) (d := some 122) (v := ?vT10) rfl rfl (by kernel_rfl) (by kernel_rfl) (by kernel_rfl) (fun _ _ _ h => h) (Or.inl ⟨by rfl, ?hyT10⟩) (by assumption) ?rstT10
  case hyT10 => (intro w hSw; (try dsimp only at hSw); go_simp; (try with_reducible rfl))
  try simp only [Act.put, List.setIfInBounds_toArray, List.set_cons_zero, List.set_cons_succ]
  refine takeD (i := 9) (d := some 17) (v := ?vT11) rfl rfl (by kernel_rfl) (by kernel_rfl) (by kernel_rfl) (fun _ _ _ h => h) (Or.inl ⟨by rfl, ?hyT11⟩) (by assumption) ?rstT11
  case hyT11 => (intro w hSw; (try dsimp only at hSw); go_simp; (try with_reducible rfl))
  try simp only [Act.put, List.setIfInBounds_toArray, List.set_cons_zero, List.set_cons_succ]
  refine takeD (i := 10) (d := some 18) (v := ?vT12) rfl rfl (by kernel_rfl) (by kernel_rfl) (by kernel_rfl) (fun _ _ _ h => h) (Or.inl ⟨by rfl, ?hyT12⟩) (by assumption) ?rstT12
  case hyT12 => (intro w hSw; (try dsimp only at hSw); go_simp; (try with_reducible rfl))
  try simp only [Act.put, List.setIfInBounds_toArray, List.set_cons_zero, List.set_cons_succ]
  refine wpAnyH_done (by kernel_rfl) ?_ _
  clear hHeld hb2 hb3 ho2 ax0 ax1 ax2 ax3 ax4 ax5 ax6 ax7 ax8 ax9 ax10 ax11 ax12 ax13 ax14 ax15 ax16 ax17 ax18 ax19 ax20 ax21 ax22 ax23
  obtain ⟨bx0, bx1, bx2, bx3, bx4, bx5, bx6, bx7, bx8, bx9, bx10, bx11, bx12, bx13, bx14, bx15, bx16, bx17, bx18, bx19, bx20, bx21, bx22, bx23⟩ := box24 hX3
  go_wp2_with fail
  refine (HRE.out _ hB3).mono ?_
  rintro e2 w4 ⟨rfl, hb4⟩
  have hB4 := hB3.trans (hb4.mono hB3.size)
  clear hb4 bx0 bx1 bx2 bx3 bx4 bx5 bx6 bx7 bx8 bx9 bx10 bx11 bx12 bx13 bx14 bx15 bx16 bx17 bx18 bx19 bx20 bx21 bx22 bx23 HRE HCA HCP
  have tq : (q1 == q1) = true := beq_self_eq_true _
  have tq2 : (q2 == q2) = true := beq_self_eq_true _
  go_wp2_with fail
  refine (HN.out _).mono ?_
  rintro e2 w5 ⟨rfl, rfl⟩
  go_wp2_with fail
  go_ret
  exact ⟨rfl, hB4⟩
end Go.Proofs.YtmeciikfnbbllaaGreatDoor
