import Derived.Test.YtmdnmhdimfglaaaGreatDoorXmC
import Derived.Test.YtmdnmhdimfglaaaGreatDoorGr13
import Derived.Test.YtmdnmhdimfglaaaGreatDoorGaI
import Derived.Test.YtmdnmhdimfglaaaGreatDoorGr7
import Derived.Deep.Cut
import Derived.Test.YtmdnmhdimfglaaaGreatDoorGaT
import Derived.ProofKit
import Derived.OpenShut
import Derived.Deep.DeepHandedRow
import Derived.Lib.LaidTab
namespace Go.Proofs.YtmdnmhdimfglaaaGreatDoor
open Go.RowKit Go.Lib
set_option maxRecDepth 100000
set_option maxHeartbeats 16000000 in
theorem runs_6 {x : XOp} {w : World} (hx : XOk w x) (hk1 : x.k = 6) (hw : Bar w) :
    Calls Tryz.prog 30 #[.agg (xopF x).toArray] w fun e w' => e = .returned (.bool true) ∧ Below w.heap.size w w' := by
  obtain ⟨-, -, hrow, hops, -, -, hfew⟩ := hx
  obtain ⟨k1, ⟨c, n, k, p, s, l1, tc, tn, on⟩, a1, m1, c1, ⟨c2, n2, k2, p2, s2, l2, tc2, tn2, on2⟩, a2, m2, cp2, ra, rm, rc, R, sa, sm, sc, S, e, N, M⟩ := x
  simp only at hk1
  subst hk1
  simp only at hrow hops hfew
  have HC1 : Hid (∀ W, Below w.heap.size w W → Calls Tryz.prog 54 #[.slice ra rm rc] W fun e w' => ∃ va vc, e = .returned (.slice va rm vc) ∧ RunIn w' va rm vc (R.map (·.1)) ∧ Below W.heap.size W w') := fun W hb => run_copied (hrow.below hb) (fun x hx => (hops x hx).below hb) hfew.1
  have HG : Hid (∀ (W : World), Below w.heap.size w W → Calls Tryz.prog 58 #[.slice ra rm rc, .int .i64 N, .int .i64 M] W fun e w' => AnsB W (xBring (R.map (·.1)) N M) e w') := fun W hb => gBring_any (hrow.below hb) (fun x hx => (hops x hx).below hb) hfew.1 N M
  have HI : Hid (∀ (W : World) y1 z1, Below w.heap.size w W → RunIn W y1 rm z1 (R.map (·.1)) → Calls Tryz.prog 9 #[.slice y1 rm z1, .int .i64 N, .int .i64 M] W fun e w' => AnsB W (xBring (R.map (·.1)) N M) e w') := fun W y1 z1 hb r1 => Bring_any r1 hfew.1 (hw.below hb) N M
  generalize R.map (·.1) = RL at *
  obtain ⟨⟨Q1, z⟩, hq⟩ : ∃ q, xBring RL N M = q := ⟨_, rfl⟩
  rw [hq] at HI HG
  unfold AnsB at HI HG
  have HN : Hid (∀ W, Calls Tryz.prog 7 #[.int .i64 z] W fun r w' => r = .returned (.int .i64 z) ∧ W = w') := fun W => (num_any z W).mono fun e w' h => ⟨h.1, h.2.symm⟩
  clear hrow hops hfew hw hq
  simp only [xopF] at *
  obtain ⟨W0, hW0⟩ : ∃ W0, w.alloc (Obj.cells #[.int .i64 6, .int .i64 c, .int .i64 n, .int .i64 k, .int .i64 p, .string s, .slice a1 m1 c1, .int .i64 tc, .int .i64 tn, .bool on, .int .i64 c2, .int .i64 n2, .int .i64 k2, .int .i64 p2, .string s2, .slice a2 m2 cp2, .int .i64 tc2, .int .i64 tn2, .bool on2, .slice ra rm rc, .slice sa sm sc, .bool e, .int .i64 N, .int .i64 M] 46) = W0 := ⟨_, rfl⟩
  have hX0 : W0.heap[w.heap.size]? = some (Obj.cells #[.int .i64 6, .int .i64 c, .int .i64 n, .int .i64 k, .int .i64 p, .string s, .slice a1 m1 c1, .int .i64 tc, .int .i64 tn, .bool on, .int .i64 c2, .int .i64 n2, .int .i64 k2, .int .i64 p2, .string s2, .slice a2 m2 cp2, .int .i64 tc2, .int .i64 tn2, .bool on2, .slice ra rm rc, .slice sa sm sc, .bool e, .int .i64 N, .int .i64 M] 46) := by rw [← hW0]; exact heap_alloc_new _ _
  have hB0 : Below w.heap.size w W0 := by rw [← hW0]; exact (Below.refl w.heap.size w).alloc (Nat.le_refl _) _
  have alt0 : w.heap.size < W0.heap.size := (Array.getElem?_eq_some_iff.1 hX0).1
  obtain ⟨ax0, ax1, ax2, ax3, ax4, ax5, ax6, ax7, ax8, ax9, ax10, ax11, ax12, ax13, ax14, ax15, ax16, ax17, ax18, ax19, ax20, ax21, ax22, ax23⟩ := box24 hX0
  go_enter Tryz.func30, Tryz.ntmps30
  go_wp2_with fail
  refine wp_region_held_drew (S := (fun W => W.cell? ⟨w.heap.size, 19, none⟩ = some (.slice ra rm rc) ∧ W.cell? ⟨w.heap.size, 22, none⟩ = some (.int .i64 N) ∧ W.cell? ⟨w.heap.size, 23, none⟩ = some (.int .i64 M))) (by kernel_rfl) ?hS13 (fun hHeld => ?rest13)
  case hS13 => (have q := box24 hX0; exact ⟨q.2.2.2.2.2.2.2.2.2.2.2.2.2.2.2.2.2.2.2.1, q.2.2.2.2.2.2.2.2.2.2.2.2.2.2.2.2.2.2.2.2.2.2.1, q.2.2.2.2.2.2.2.2.2.2.2.2.2.2.2.2.2.2.2.2.2.2.2⟩)
  obtain ⟨u0, hu0⟩ : ∃ V, World.drew W0 = V := ⟨_, rfl⟩
  rw [hu0]
  have hX0 : u0.heap[w.heap.size]? = some (Obj.cells #[.int .i64 6, .int .i64 c, .int .i64 n, .int .i64 k, .int .i64 p, .string s, .slice a1 m1 c1, .int .i64 tc, .int .i64 tn, .bool on, .int .i64 c2, .int .i64 n2, .int .i64 k2, .int .i64 p2, .string s2, .slice a2 m2 cp2, .int .i64 tc2, .int .i64 tn2, .bool on2, .slice ra rm rc, .slice sa sm sc, .bool e, .int .i64 N, .int .i64 M] 46) := by rw [← hu0]; exact hX0
  have hB0 : Below w.heap.size w u0 := by rw [← hu0]; exact hB0.drew
  have alt0 : w.heap.size < u0.heap.size := by rw [← hu0]; exact alt0
  rw [hu0] at hHeld
  clear hu0
  refine takeDh (i := 0) (d := some 85) (v := ?vT14) rfl rfl (by kernel_rfl) (by kernel_rfl) (by kernel_rfl) (fun _ _ _ h => h) (Or.inl ⟨by rfl, ?hyT14⟩) (by assumption) ?rstT14
  case hyT14 => (intro w hSw; (try dsimp only at hSw); go_simp; (try with_reducible rfl))
  try simp only [Act.put, List.setIfInBounds_toArray, List.set_cons_zero, List.set_cons_succ]
  refine takeDh (i := 1) (d := some 86) (v := ?vT15) rfl rfl (by kernel_rfl) (by kernel_rfl) (by kernel_rfl) (fun _ _ _ h => h) (Or.inl ⟨by rfl, ?hyT15⟩) (by assumption) ?rstT15
  case hyT15 => (intro w hSw; (try dsimp only at hSw); go_simp; (try with_reducible rfl))
  try simp only [Act.put, List.setIfInBounds_toArray, List.set_cons_zero, List.set_cons_succ]
  refine takeDh (i := 3) (d := some 88) (v := ?vT16) rfl rfl (by kernel_rfl) (by kernel_rfl) (by kernel_rfl) (fun _ _ _ h => h) (Or.inl ⟨by rfl, ?hyT16⟩) (by assumption) ?rstT16
  case hyT16 => (intro w hSw; (try dsimp only at hSw); go_simp; (try with_reducible rfl))
  try simp only [Act.put, List.setIfInBounds_toArray, List.set_cons_zero, List.set_cons_succ]
  refine takeDh (i := 4) (d := some 89) (v := ?vT17) rfl rfl (by kernel_rfl) (by kernel_rfl) (by kernel_rfl) (fun _ _ _ h => h) (Or.inl ⟨by rfl, ?hyT17⟩) (by assumption) ?rstT17
  case hyT17 => (intro w hSw; (try dsimp only at hSw); go_simp; (try with_reducible rfl))
  try simp only [Act.put, List.setIfInBounds_toArray, List.set_cons_zero, List.set_cons_succ]
  refine takeDh (i := 5) (d := some 90) (v := ?vT18) rfl rfl (by kernel_rfl) (by kernel_rfl) (by kernel_rfl) (fun _ _ _ h => h) (Or.inl ⟨by rfl, ?hyT18⟩) (by assumption) ?rstT18
  case hyT18 => (intro w hSw; (try dsimp only at hSw); go_simp; (try with_reducible rfl))
  try simp only [Act.put, List.setIfInBounds_toArray, List.set_cons_zero, List.set_cons_succ]
  refine takeDh (i := 6) (d := some 91) (v := ?vT19) rfl rfl (by kernel_rfl) (by kernel_rfl) (by kernel_rfl) (fun _ _ _ h => h) (Or.inl ⟨by rfl, ?hyT19⟩) (by assumption) ?rstT19
  case hyT19 => (intro w hSw; (try dsimp only at hSw); go_simp; (try with_reducible rfl))
  try simp only [Act.put, List.setIfInBounds_toArray, List.set_cons_zero, List.set_cons_succ]
  refine wpAnyH_ready (rs := [2]) (by kernel_rfl) (by simp) ?_
  refine AllReadyH.cons rfl (fun K hK => ?_) AllReadyH.nil
  go_simp
  refine (HC1.out _ hB0).mono ?_
  rintro e2 u1 ⟨y1, z1, rfl, hrn, hb⟩
  have hX1 := (hb.block _ alt0).trans hX0
  have hB1 := hB0.trans (hb.mono hB0.size)
  have alt1 : w.heap.size < u1.heap.size := (Array.getElem?_eq_some_iff.1 hX1).1
  clear hb
  clear hHeld
  refine hK.out _ _ ?hS20 (fun hHeld => ?rest20)
  case' hS20 => (have q := box24 hX1; exact ⟨q.2.2.2.2.2.2.2.2.2.2.2.2.2.2.2.2.2.2.2.1, q.2.2.2.2.2.2.2.2.2.2.2.2.2.2.2.2.2.2.2.2.2.2.1, q.2.2.2.2.2.2.2.2.2.2.2.2.2.2.2.2.2.2.2.2.2.2.2⟩)
  clear hK K
  try simp only [Act.put, List.setIfInBounds_toArray, List.set_cons_zero, List.set_cons_succ]
  refine wpAnyH_ready (rs := [7]) (by kernel_rfl) (by simp) ?_
  refine AllReadyH.cons rfl (fun K hK => ?_) AllReadyH.nil
  go_simp
  refine (HI.out _ _ _ hB1 hrn).mono ?_
  rintro e2 u2 ⟨u1_, m1_, x1, rfl, hq1, hb⟩
  have hX2 := (hb.block _ alt1).trans hX1
  have hB2 := hB1.trans (hb.mono hB1.size)
  have alt2 : w.heap.size < u2.heap.size := (Array.getElem?_eq_some_iff.1 hX2).1
  have hrn := hrn.below hb
  clear hb
  clear hHeld
  refine hK.out _ _ ?hS21 (fun hHeld => ?rest21)
  case' hS21 => (have q := box24 hX2; exact ⟨q.2.2.2.2.2.2.2.2.2.2.2.2.2.2.2.2.2.2.2.1, q.2.2.2.2.2.2.2.2.2.2.2.2.2.2.2.2.2.2.2.2.2.2.1, q.2.2.2.2.2.2.2.2.2.2.2.2.2.2.2.2.2.2.2.2.2.2.2⟩)
  clear hK K
  try simp only [Act.put, List.setIfInBounds_toArray, List.set_cons_zero, List.set_cons_succ]
  refine takeDh (i := 8) (d := some 84) (v := ?vT22) rfl rfl (by kernel_rfl) (by kernel_rfl) (by kernel_rfl) (fun _ _ _ h => h) (Or.inl ⟨by rfl, ?hyT22⟩) (by assumption) ?rstT22
  case hyT22 => (intro w hSw; (try dsimp only at hSw); go_simp; (try with_reducible rfl))
  try simp only [Act.put, List.setIfInBounds_toArray, List.set_cons_zero, List.set_cons_succ]
  refine takeDh (i := 9) (d := some 93) (v := ?vT23) rfl rfl (by kernel_rfl) (by kernel_rfl) (by kernel_rfl) (fun _ _ _ h => h) (Or.inl ⟨by rfl, ?hyT23⟩) (by assumption) ?rstT23
  case hyT23 => (intro w hSw; (try dsimp only at hSw); go_simp; (try with_reducible rfl))
  try simp only [Act.put, List.setIfInBounds_toArray, List.set_cons_zero, List.set_cons_succ]
  refine takeDh (i := 10) (d := some 94) (v := ?vT24) rfl rfl (by kernel_rfl) (by kernel_rfl) (by kernel_rfl) (fun _ _ _ h => h) (Or.inl ⟨by rfl, ?hyT24⟩) (by assumption) ?rstT24
  case hyT24 => (intro w hSw; (try dsimp only at hSw); go_simp; (try with_reducible rfl))
  try simp only [Act.put, List.setIfInBounds_toArray, List.set_cons_zero, List.set_cons_succ]
  refine takeDh (i := 11) (d := some 13) (v := ?vT25) rfl rfl (by kernel_rfl) (by kernel_rfl) (by kernel_rfl) (fun _ _ _ h => h) (Or.inl ⟨by rfl, ?hyT25⟩) (by assumption) ?rstT25
  case hyT25 => (intro w hSw; (try dsimp only at hSw); go_simp; (try with_reducible rfl))
  try simp only [Act.put, List.setIfInBounds_toArray, List.set_cons_zero, List.set_cons_succ]
  refine takeDh (i := 12) (d := some 14) (v := ?vT26) rfl rfl (by kernel_rfl) (by kernel_rfl) (by kernel_rfl) (fun _ _ _ h => h) (Or.inl ⟨by rfl, ?hyT26⟩) (by assumption) ?rstT26
  case hyT26 => (intro w hSw; (try dsimp only at hSw); go_simp; (try with_reducible rfl))
  try simp only [Act.put, List.setIfInBounds_toArray, List.set_cons_zero, List.set_cons_succ]
  refine wpAnyH_done (by kernel_rfl) ?_ _
  have HQ : Hid (RunIn u2 u1_ m1_ x1 Q1) := hq1
  clear hHeld HC1 HI hrn hq1 ax0 ax1 ax2 ax3 ax4 ax5 ax6 ax7 ax8 ax9 ax10 ax11 ax12 ax13 ax14 ax15 ax16 ax17 ax18 ax19 ax20 ax21 ax22 ax23
  obtain ⟨bx0, bx1, bx2, bx3, bx4, bx5, bx6, bx7, bx8, bx9, bx10, bx11, bx12, bx13, bx14, bx15, bx16, bx17, bx18, bx19, bx20, bx21, bx22, bx23⟩ := box24 hX2
  go_wp2_with fail
  refine (HG.out _ hB2).mono ?_
  rintro e2 v4 ⟨y1, n1_, q1, rfl, ho1, hb4⟩
  have hB4 := hB2.trans (hb4.mono hB2.size)
  have HS1 : Hid (∀ W, Below v4.heap.size v4 W → Calls Tryz.prog 57 #[.slice u1_ m1_ x1, .slice y1 n1_ q1] W fun e w' => e = .returned (.bool true) ∧ Below W.heap.size W w') := fun W hb => sameRun_self ((HQ.out.below hb4).below hb) (ho1.below hb)
  clear HG HQ ho1 hb4 hX2 bx0 bx1 bx2 bx3 bx4 bx5 bx6 bx7 bx8 bx9 bx10 bx11 bx12 bx13 bx14 bx15 bx16 bx17 bx18 bx19 bx20 bx21 bx22 bx23
  go_wp2_with fail
  refine (HN.out _).mono ?_
  rintro e2 v5 ⟨rfl, rfl⟩
  go_wp2_with fail
  refine (HS1.out _ (Below.refl _ _)).mono ?_
  rintro e2 v6 ⟨rfl, hb6⟩
  have hB6 := hB4.trans (hb6.mono hB4.size)
  clear HS1 HN hb6
  go_wp2_with fail
  go_ret
  exact ⟨rfl, hB6⟩
end Go.Proofs.YtmdnmhdimfglaaaGreatDoor

namespace Go.Proofs.YtmdnmhdimfglaaaGreatDoor
open Go.RowKit Go.Lib
set_option maxRecDepth 100000
theorem rdy_nil {w : World} {o : OpV} (h : o.l = []) (hs : o.s.size ≤ 281474976710656) : Rdy w (o, (none, 0, 0)) := ⟨by simp only; rw [h]; exact rng_of_rw (rw_nil w), by simp only; rw [h]; decide, hs⟩
theorem runIn_two {W : World} {g : Nat} {x y : OpM} (h : W.heap[g]? = some (.cells (opF x ++ opF y).toArray 34)) (hx : Rdy W x) (hy : Rdy W y) : RunIn W (some ⟨g, 0, none⟩) 2 2 [x.1, y.1] :=
  ⟨[x, y], rfl, ⟨g, ⟨rfl, .inr ⟨g, 2, (opF x ++ opF y).toArray, rfl, Nat.le_refl _, h, Nat.le_refl _, by decide, rfl, by simp [flatF, opF]⟩⟩⟩, fun z hz => by simp at hz; rcases hz with rfl | rfl <;> assumption⟩
theorem RunIn.at_ {W : World} {a : Option Addr} {n cap : Nat} {L : List OpV} (h : RunIn W a n cap L) (hL : 0 < L.length) : ∃ g, a = some ⟨g, 0, none⟩ ∧ n = L.length ∧ ∀ (j : Nat) (o : OpV), L[j]? = some o → W.cell? ⟨g, j * 9 + 3, none⟩ = some (.int .i64 o.p) ∧ W.cell? ⟨g, j * 9 + 4, none⟩ = some (.string o.s) := by
  obtain ⟨FM, rfl, ⟨B, ho⟩, -⟩ := h
  have ln := (ho.rw_ layO).len
  rw [List.length_map] at hL ⊢
  obtain ⟨g, cc, e, -⟩ := ho.ptr hL
  simp only [Value.slice.injEq] at e
  obtain ⟨rfl, -, rfl⟩ := e
  refine ⟨g, rfl, ln.symm, fun j o hj => ?_⟩
  rw [List.getElem?_map] at hj
  cases hx : FM[j]? with
  | none => rw [hx] at hj; cases hj
  | some x =>
    rw [hx] at hj
    simp only [Option.map_some, Option.some.injEq] at hj
    subst hj
    obtain ⟨-, -, -, q3, q4, -⟩ := cells_of ho hx
    exact ⟨q3, q4⟩
end Go.Proofs.YtmdnmhdimfglaaaGreatDoor

namespace Go.Proofs.YtmdnmhdimfglaaaGreatDoor
open Go.RowKit Go.Lib
set_option maxRecDepth 100000
set_option maxHeartbeats 8000000 in
theorem plays_runs {x : XOp} {w : World} (hk : x.k = 4 ∨ x.k = 5 ∨ x.k = 6)
    (HR : ∀ W, Below w.heap.size w W → Calls Tryz.prog 30 #[.agg (xopF x).toArray] W fun e w' => e = .returned (.bool true) ∧ Below W.heap.size W w') :
    Calls Tryz.prog 14 #[.agg (xopF x).toArray] w fun e w' => e = .returned (.bool true) ∧ Below w.heap.size w w' := by
  obtain ⟨v1, v2, v3, v4, v5, v6, v7, v8, v9, v10, v11, v12, v13, v14, v15, v16, v17, v18, v19, v20, v21, v22, v23, hv⟩ := xopF_eq x
  generalize x.k = K at *
  have h1c : (Array.all ((xopF x).toArray) (fun v => v.oneCell')) = true := all_oneCell_toArray (layXo.one x)
  rw [hv] at HR h1c ⊢
  have HRR : Hid (∀ W, Below w.heap.size w W → Calls Tryz.prog 30 #[.agg #[.int .i64 K, v1, v2, v3, v4, v5, v6, v7, v8, v9, v10, v11, v12, v13, v14, v15, v16, v17, v18, v19, v20, v21, v22, v23]] W fun e w' => e = .returned (.bool true) ∧ Below W.heap.size W w') := HR
  have H1C : Hid ((Array.all (#[.int .i64 K, v1, v2, v3, v4, v5, v6, v7, v8, v9, v10, v11, v12, v13, v14, v15, v16, v17, v18, v19, v20, v21, v22, v23]) (fun v => v.oneCell')) = true) := h1c
  clear HR h1c hv
  obtain ⟨X1, hX1⟩ : ∃ V, w.alloc (Obj.cells #[.int .i64 K, v1, v2, v3, v4, v5, v6, v7, v8, v9, v10, v11, v12, v13, v14, v15, v16, v17, v18, v19, v20, v21, v22, v23] 46) = V := ⟨_, rfl⟩
  have hB1 : Below w.heap.size w X1 := hX1 ▸ (Below.refl w.heap.size w).alloc (Nat.le_refl _) _
  have hb1 : X1.heap[w.heap.size]? = some (.cells #[.int .i64 K, v1, v2, v3, v4, v5, v6, v7, v8, v9, v10, v11, v12, v13, v14, v15, v16, v17, v18, v19, v20, v21, v22, v23] 46) := hX1 ▸ heap_alloc_new _ _
  have HBX : Hid (X1.rangeAt w.heap.size 0 [.int .i64 K, v1, v2, v3, v4, v5, v6, v7, v8, v9, v10, v11, v12, v13, v14, v15, v16, v17, v18, v19, v20, v21, v22, v23]) := range_blockX hb1
  have x0 : X1.cell? ⟨w.heap.size, 0, none⟩ = some (.int .i64 K) := by rw [Lib.cell_of_heap hb1]; rfl
  clear hb1
  go_enter Tryz.func14, Tryz.ntmps14
  rcases hk with rfl | rfl | rfl
  all_goals
    go_wp2_with (first | refine wpList_load_mid rfl 46 _ rfl w.heap.size 0 rfl _ _ HBX.out Tryz.underlying46 rfl (by kernel_rfl) ?_ | fail)
    refine (HRR.out _ hB1).mono ?_
    rintro e w2 ⟨rfl, hb2⟩
    have hB2 := hB1.trans (hb2.mono hB1.size)
    clear hb2 HBX HRR x0 hB1 H1C
    go_wp2_with fail
    go_ret
    exact ⟨rfl, hB2⟩
end Go.Proofs.YtmdnmhdimfglaaaGreatDoor

namespace Go.Proofs.YtmdnmhdimfglaaaGreatDoor
open Go.RowKit Go.Lib
set_option maxRecDepth 100000
structure Scr (w : World) (a : Option Addr) (n cap : Nat) (L : List XOp) : Prop where
  row : Rw xopF 24 w a n cap L
  ok : ∀ x ∈ L, XOk w x
  bar : Bar w
theorem Scr.below {w W : World} {a : Option Addr} {n cap : Nat} {L : List XOp} (h : Scr w a n cap L) (hb : Below w.heap.size w W) : Scr W a n cap L :=
  ⟨h.row.below hb, fun x hx => (h.ok x hx).below hb, h.bar.below hb⟩
end Go.Proofs.YtmdnmhdimfglaaaGreatDoor

namespace Go.Proofs.YtmdnmhdimfglaaaGreatDoor
open Go.RowKit Go.Lib
set_option maxRecDepth 100000
set_option maxHeartbeats 4000000 in
theorem xformBrings_any {a : Option Addr} {n cap : Nat} {w : World} {L : List XOp} (h : Scr w a n cap L) :
    Calls Tryz.prog 4 #[.slice a n cap] w fun e w' => e = .returned (.bool true) ∧ Below w.heap.size w w' := by
  have HJ1 : Hid (∀ W, Calls Tryz.prog 6 #[.int .i64 1, .int .i64 1, .int .i64 0, .string ⟨#[97, 98, 99]⟩] W fun e w' => e = .returned (opVal (⟨1, 1, 1, 0, ⟨#[97, 98, 99]⟩, [], 0, 0, false⟩ : OpV) (.slice none 0 0)) ∧ Below W.heap.size W w') := fun W => ins_any 1 1 0 ⟨#[97, 98, 99]⟩ W
  have HJ2 : Hid (∀ W, Calls Tryz.prog 6 #[.int .i64 1, .int .i64 2, .int .i64 3, .string ⟨#[100]⟩] W fun e w' => e = .returned (opVal (⟨1, 2, 1, 3, ⟨#[100]⟩, [], 0, 0, false⟩ : OpV) (.slice none 0 0)) ∧ Below W.heap.size W w') := fun W => ins_any 1 2 3 ⟨#[100]⟩ W
  have HO : Hid (∀ (W : World) (g1 : Nat), Below w.heap.size w W → W.heap[g1]? = some (.cells (opF ((⟨1, 1, 1, 0, ⟨#[97, 98, 99]⟩, [], 0, 0, false⟩ : OpV), (none, 0, 0)) ++ opF ((⟨1, 2, 1, 3, ⟨#[100]⟩, [], 0, 0, false⟩ : OpV), (none, 0, 0))).toArray 34) → Calls Tryz.prog 9 #[.slice (some ⟨g1, 0, none⟩) 2 2, .int .i64 0, .int .i64 1] W fun e w' => ∃ x1 c1, e = .returned (.tuple #[.slice (some ⟨x1, 0, none⟩) 2 c1, .int .i64 0]) ∧ w'.cell? ⟨x1, 3, none⟩ = some (.int .i64 0) ∧ w'.cell? ⟨x1, 4, none⟩ = some (.string ⟨#[100]⟩) ∧ w'.cell? ⟨x1, 12, none⟩ = some (.int .i64 0) ∧ w'.cell? ⟨x1, 13, none⟩ = some (.string ⟨#[97, 98, 99]⟩) ∧ Below W.heap.size W w') := fun W g1 hb h1 => by
    refine (Bring_any (runIn_two h1 (rdy_nil rfl (by simp [ByteArray.size])) (rdy_nil rfl (by simp [ByteArray.size]))) (by decide) (h.bar.below hb) 0 1).mono ?_
    rintro e w1 ⟨a1, n1, c1, rfl, r1, hb1⟩
    rw [show xBring [(⟨1, 1, 1, 0, ⟨#[97, 98, 99]⟩, [], 0, 0, false⟩ : OpV), (⟨1, 2, 1, 3, ⟨#[100]⟩, [], 0, 0, false⟩ : OpV)] 0 1 = ([(⟨1, 2, 1, 0, ⟨#[100]⟩, [], 0, 0, false⟩ : OpV), (⟨1, 1, 1, 0, ⟨#[97, 98, 99]⟩, [], 0, 0, false⟩ : OpV)], 0) by kernel_rfl] at r1 ⊢
    obtain ⟨x1, rfl, rfl, q1⟩ := r1.at_ (by simp)
    exact ⟨x1, c1, rfl, (q1 0 _ rfl).1, (q1 0 _ rfl).2, (q1 1 _ rfl).1, (q1 1 _ rfl).2, hb1⟩
  have HN : Hid (∀ W, Calls Tryz.prog 7 #[.int .i64 0] W fun r w' => r = .returned (.int .i64 0) ∧ W = w') := fun W => (num_any 0 W).mono fun e w' h => ⟨h.1, h.2.symm⟩
  have HP : Hid (∀ W, Below w.heap.size w W → Calls Tryz.prog 8 #[.slice a n cap, .int .i64 6, .int .i64 6] W fun e w' => e = .returned (.bool true) ∧ Below W.heap.size W w') := fun W hb => by
    have h1 := h.below hb
    exact played_any h1.row 6 6 (fun W2 hb2 x hx q1 q2 => plays_runs (.inr (.inr (by omega))) (fun W3 hb3 => runs_6 (((h1.ok x hx).below hb2).below hb3) (by omega) ((h1.bar.below hb2).below hb3)))
  clear h
  simp only [opVal] at HJ1 HJ2
  simp only [opF, List.cons_append, List.nil_append] at HO
  go_enter Tryz.func4, Tryz.ntmps4
  go_wp2_with fail
  refine (HJ1.out _).mono ?_
  rintro e w1 ⟨rfl, h1⟩
  go_wp2_with fail
  refine (HJ2.out _).mono ?_
  rintro e w3 ⟨rfl, h3⟩
  have hb3 := h1.trans (h3.mono h1.size)
  clear h1 h3
  obtain ⟨W4, hW4⟩ : ∃ V, w3.alloc (Obj.cells #[.int .i64 1, .int .i64 1, .int .i64 1, .int .i64 0, .string ⟨#[97, 98, 99]⟩, .slice none 0 0, .int .i64 0, .int .i64 0, .bool false, .int .i64 1, .int .i64 2, .int .i64 1, .int .i64 3, .string ⟨#[100]⟩, .slice none 0 0, .int .i64 0, .int .i64 0, .bool false] 34) = V := ⟨_, rfl⟩
  have hT4 : W4.heap[w3.heap.size]? = some (Obj.cells #[.int .i64 1, .int .i64 1, .int .i64 1, .int .i64 0, .string ⟨#[97, 98, 99]⟩, .slice none 0 0, .int .i64 0, .int .i64 0, .bool false, .int .i64 1, .int .i64 2, .int .i64 1, .int .i64 3, .string ⟨#[100]⟩, .slice none 0 0, .int .i64 0, .int .i64 0, .bool false] 34) := by rw [← hW4]; exact heap_alloc_new _ _
  have hb4 : Below w.heap.size w W4 := by rw [← hW4]; exact hb3.alloc hb3.size _
  go_wp2_with fail
  refine (HO.out W4 _ hb4 hT4).mono ?_
  rintro e w5 ⟨x1, c1, rfl, k1, k2, k3, k4, h5⟩
  have HBX := hb4.trans (h5.mono hb4.size)
  clear h5 hT4 hW4 hb3 hb4 HO
  go_wp2_with fail
  refine (HN.out _).mono ?_
  rintro e w6 ⟨rfl, rfl⟩
  go_wp2_with fail
  refine (HP.out _ HBX).mono ?_
  rintro e w7 ⟨rfl, hb7⟩
  have hB7 := HBX.trans (hb7.mono HBX.size)
  clear k1 k2 k3 k4
  go_wp2_with fail
  go_ret
  exact ⟨rfl, hB7⟩
end Go.Proofs.YtmdnmhdimfglaaaGreatDoor

namespace Go.Proofs.YtmdnmhdimfglaaaGreatDoor
open Go.ChangeShapes Go.WideShapes Go.ChangeAt Go.RowKit
theorem own : ownKnob Tryz.prog.godebug = none := by kernel_rfl
theorem gBar : Tryz.prog.globalNamed "redraft/utext.barred" = some 0 := by kernel_rfl
theorem gBarType : (Tryz.prog.globals[0]?).map (·.type) = some 125 := by kernel_rfl
theorem cellsArr : Tryz.prog.cellsOf 125 = 10 := by kernel_rfl
theorem cellsStr : Tryz.prog.cellsOf 124 = 2 := by kernel_rfl
theorem cells32 : Tryz.prog.cellsOf 21 = 1 := by kernel_rfl
theorem pairCells {H : Type} {enc : TypeId × Value → H} {W : World} {base m : Nat} {sp : Nat → Bool} {held : Bool} {l : List Value} {lo hi : Int} {p : List MemPlace}
    (h : DataW.trod enc Tryz.prog W base sp held m 124 l = some (.agg [.lit (.int .i32 lo), .lit (.int .i32 hi)], p)) : l = [.int .i32 lo, .int .i32 hi] := by
  obtain ⟨y0, y1, n, hx, hl, h0, h1⟩ := trod_struct2 Tryz.underlying124 h
  rw [cellsStr] at hl
  simp only [cells32] at h0 h1
  obtain ⟨a, e0, f0, _⟩ := DataW.trod_int Tryz.underlying21 h0
  obtain ⟨b, e1, f1, _⟩ := DataW.trod_int Tryz.underlying21 h1
  subst f0 f1
  simp only [Prod.mk.injEq, DataW.agg.injEq, List.cons.injEq, DataW.lit.injEq, Lit.int.injEq] at hx
  obtain ⟨⟨⟨_, ra⟩, ⟨_, rb⟩, _⟩, _⟩ := hx
  subst ra rb
  match l, hl, e0, e1 with
  | [x, y], _, e0, e1 =>
    simp at e0 e1
    simp [e0, e1]
theorem table {W : World} {cs0 : Array Value} {f0 : Nat} {p0 : List MemPlace} (hv0 : World.var? Tryz.prog W "redraft/utext.barred" = some cs0)
    (hd0 : DataW.trod (fun _ => ()) Tryz.prog W 0 (fun _ => true) false f0 125 cs0.toList = some (.agg [.agg [.lit (.int .i32 0), .lit (.int .i32 8)], .agg [.lit (.int .i32 11), .lit (.int .i32 31)], .agg [.lit (.int .i32 127), .lit (.int .i32 159)], .agg [.lit (.int .i32 64976), .lit (.int .i32 65007)], .agg [.lit (.int .i32 65279), .lit (.int .i32 65279)]], p0)) :
    ∃ t fr, W.heap[0]? = some (.cells barCells t fr) := by
  obtain ⟨xs, m, _, hx, hlen, hn, hel⟩ := DataW.trod_array Tryz.underlying125 hd0
  rw [cellsArr] at hlen
  rw [cellsStr] at hel
  have hcs : cs0.toList = barCells.toList := by
    match xs, hn, hx with
    | [x0, x1, x2, x3, x4], _, hx =>
      simp only [Prod.mk.injEq, DataW.agg.injEq, List.map_cons, List.map_nil, List.cons.injEq] at hx
      obtain ⟨⟨r0, r1, r2, r3, r4, _⟩, _⟩ := hx
      have q0 := pairCells ((hel 0 (by decide)).trans (congrArg some (Prod.ext r0.symm rfl)))
      have q1 := pairCells ((hel 1 (by decide)).trans (congrArg some (Prod.ext r1.symm rfl)))
      have q2 := pairCells ((hel 2 (by decide)).trans (congrArg some (Prod.ext r2.symm rfl)))
      have q3 := pairCells ((hel 3 (by decide)).trans (congrArg some (Prod.ext r3.symm rfl)))
      have q4 := pairCells ((hel 4 (by decide)).trans (congrArg some (Prod.ext r4.symm rfl)))
      generalize cs0.toList = l at *
      match l, hlen, q0, q1, q2, q3, q4 with
      | [c0, c1, c2, c3, c4, c5, c6, c7, c8, c9], _, q0, q1, q2, q3, q4 =>
        simp at q0 q1 q2 q3 q4
        simp [barCells, q0, q1, q2, q3, q4]
  have hcs' : cs0 = barCells := Array.toList_inj.1 hcs
  subst hcs'
  unfold World.var? at hv0
  rw [gBar] at hv0
  simp only [Option.bind_some] at hv0
  split at hv0
  · rename_i c t fr he
    refine ⟨t, fr, ?_⟩
    rw [he]
    simp only [Option.some.injEq] at hv0
    rw [hv0]
  · cases hv0
end Go.Proofs.YtmdnmhdimfglaaaGreatDoor
