import Derived.Test.YtmdnmhdimfglaaaGreatDoorXlD
import Derived.Test.YtmdnmhdimfglaaaGreatDoorGaK
namespace Go.Proofs.YtmdnmhdimfglaaaGreatDoor
open Go.RowKit Go.Lib
set_option maxRecDepth 100000
set_option maxHeartbeats 8000000 in
theorem sameRun_self {w : World} {a : Option Addr} {n cap : Nat} {b : Option Addr} {m capb : Nat} {L : List OpV} (h1 : RunIn w a n cap L) (h2 : RunIn w b m capb L) :
    Calls Tryz.prog 57 #[.slice a n cap, .slice b m capb] w fun e w' => e = .returned (.bool true) ∧ Below w.heap.size w w' := by
  obtain ⟨FM, rfl, ⟨B1, o1⟩, r1⟩ := h1
  obtain ⟨LM, hl, ⟨B2, o2⟩, r2⟩ := h2
  have l1 := (o1.rw_ layO).len
  have l2 := (o2.rw_ layO).len
  have hlen : FM.length = LM.length := by have := congrArg List.length hl; simp at this; omega
  obtain rfl : m = n := by omega
  have hnb : m ≤ 9223372036854775807 := by have := (o1.rw_ layO).room; simp only [maxLen] at this; omega
  have HA : Hid (Rw opF 9 w a m cap FM) := o1.rw_ layO
  have HB : Hid (Rw opF 9 w b m capb LM) := o2.rw_ layO
  have HS : Hid (∀ (j : Nat) (x y : OpM), FM[j]? = some x → LM[j]? = some y → ∀ W, Below w.heap.size w W → Calls Tryz.prog 50 #[opVal x.1 (.slice x.2.1 x.2.2.1 x.2.2.2), opVal y.1 (.slice y.2.1 y.2.2.1 y.2.2.2)] W fun e w' => e = .returned (.bool true) ∧ Below W.heap.size W w') := fun j x y hx hy W hb => by
    have e1 : y.1 = x.1 := by
      have := congrArg (fun (l : List OpV) => l[j]?) hl
      simp only [List.getElem?_map, hx, hy, Option.map_some, Option.some.injEq] at this
      exact this
    have q1 := (r1 x (List.mem_of_getElem? hx)).rng.below hb
    have q2 := (r2 y (List.mem_of_getElem? hy)).rng.below hb
    rw [e1] at q2 ⊢
    exact sameOp_self q1 q2
  clear o1 o2 r1 r2 hl l1 l2 hlen
  go_enter Tryz.func57, Tryz.ntmps57
  go_wp2_with fail
  go_loopw [5] (fun vi W => ∃ i : Nat, vi = .int .i64 (i : Int) ∧ i ≤ m ∧ Below w.heap.size w W) (fun vi _ => m - (RowKit.intOf vi).toNat)
  case atStart => exact ⟨0, rfl, Nat.zero_le _, Below.refl _ _⟩
  case round =>
    obtain ⟨i, rfl, hin, hb⟩ := hrel
    by_cases hlt : i < m
    · obtain ⟨g1, off1, x, rfl, hg1, hx, p0, p1, p2, p3, p4, p5, p6, p7, p8⟩ := HA.out.at9 hb i hlt
      obtain ⟨g2, off2, y, rfl, hg2, hy, q0, q1, q2, q3, q4, q5, q6, q7, q8⟩ := HB.out.at9 hb i hlt
      have HS2 := HS.out i x y hx hy
      clear HS hx hy
      obtain ⟨⟨xc, xn, xk, xp, xs, xl, xtc, xtn, xon⟩, xa, xm, xcap⟩ := x
      obtain ⟨⟨yc, yn, yk, yp, ys, yl, ytc, ytn, yon⟩, ya, ym, ycap⟩ := y
      simp only [opVal] at *
      have HS3 : Hid _ := HS2
      have hb2 : Below wr.heap.size wr wr := Below.refl _ _
      clear HS2
      have d1 : (i : Int) < (m : Int) := by omega
      have d0 : (0 : Int) ≤ (i : Int) := by omega
      go_upto_region 6 with fail
      have hl1 : g1 < wr.heap.size := Nat.lt_of_lt_of_le hg1 hb.size
      have hl2 : g2 < wr.heap.size := Nat.lt_of_lt_of_le hg2 hb.size
      refine wp_region_held_drew (S := (fun W => W.cell? ⟨g1, off1 + i * 9, none⟩ = some (.int .i64 xc) ∧ W.cell? ⟨g1, off1 + i * 9 + 1, none⟩ = some (.int .i64 xn) ∧ W.cell? ⟨g1, off1 + i * 9 + 2, none⟩ = some (.int .i64 xk) ∧ W.cell? ⟨g1, off1 + i * 9 + 3, none⟩ = some (.int .i64 xp) ∧ W.cell? ⟨g1, off1 + i * 9 + 4, none⟩ = some (.string xs) ∧ W.cell? ⟨g1, off1 + i * 9 + 5, none⟩ = some (.slice xa xm xcap) ∧ W.cell? ⟨g1, off1 + i * 9 + 6, none⟩ = some (.int .i64 xtc) ∧ W.cell? ⟨g1, off1 + i * 9 + 7, none⟩ = some (.int .i64 xtn) ∧ W.cell? ⟨g1, off1 + i * 9 + 8, none⟩ = some (.bool xon) ∧ W.cell? ⟨g2, off2 + i * 9, none⟩ = some (.int .i64 yc) ∧ W.cell? ⟨g2, off2 + i * 9 + 1, none⟩ = some (.int .i64 yn) ∧ W.cell? ⟨g2, off2 + i * 9 + 2, none⟩ = some (.int .i64 yk) ∧ W.cell? ⟨g2, off2 + i * 9 + 3, none⟩ = some (.int .i64 yp) ∧ W.cell? ⟨g2, off2 + i * 9 + 4, none⟩ = some (.string ys) ∧ W.cell? ⟨g2, off2 + i * 9 + 5, none⟩ = some (.slice ya ym ycap) ∧ W.cell? ⟨g2, off2 + i * 9 + 6, none⟩ = some (.int .i64 ytc) ∧ W.cell? ⟨g2, off2 + i * 9 + 7, none⟩ = some (.int .i64 ytn) ∧ W.cell? ⟨g2, off2 + i * 9 + 8, none⟩ = some (.bool yon))) (by kernel_rfl) ?hS28 (fun hHeld => ?rest28)
      case hS28 => (exact ⟨p0, p1, p2, p3, p4, p5, p6, p7, p8, q0, q1, q2, q3, q4, q5, q6, q7, q8⟩)
      obtain ⟨u0, hu0⟩ : ∃ V, World.drew wr = V := ⟨_, rfl⟩
      rw [hu0] at hHeld
      rw [hu0]
      have hc : Below wr.heap.size wr u0 := by rw [← hu0]; exact (Below.refl _ _).drew
      clear hu0
      refine takeDh (i := 0) (d := some 18) (v := ?vT29) rfl rfl (by kernel_rfl) (by kernel_rfl) (by kernel_rfl) (fun _ _ _ h => h) (Or.inl ⟨by rfl, ?hyT29⟩) (by assumption) ?rstT29
      case hyT29 => (intro w hSw; (try dsimp only at hSw); go_simp; (try with_reducible rfl))
      try simp only [Act.put, List.setIfInBounds_toArray, List.set_cons_zero, List.set_cons_succ]
      refine takeDh (i := 1) (d := some 19) (v := ?vT30) rfl rfl (by kernel_rfl) (by kernel_rfl) (by kernel_rfl) (fun _ _ _ h => h) (Or.inl ⟨by rfl, ?hyT30⟩) (by assumption) ?rstT30
      case hyT30 => (intro w hSw; (try dsimp only at hSw); go_simp; (try with_reducible rfl))
      try simp only [Act.put, List.setIfInBounds_toArray, List.set_cons_zero, List.set_cons_succ]
      refine takeDh (i := 2) (d := some 20) (v := ?vT31) rfl rfl (by kernel_rfl) (by kernel_rfl) (by kernel_rfl) (fun _ _ _ h => h) (Or.inl ⟨by rfl, ?hyT31⟩) (by assumption) ?rstT31
      case hyT31 => (intro w hSw; (try dsimp only at hSw); go_simp; (try with_reducible rfl))
      try simp only [Act.put, List.setIfInBounds_toArray, List.set_cons_zero, List.set_cons_succ]
      refine takeDh (i := 3) (d := some 21) (v := ?vT32) rfl rfl (by kernel_rfl) (by kernel_rfl) (by kernel_rfl) (fun _ _ _ h => h) (Or.inl ⟨by rfl, ?hyT32⟩) (by assumption) ?rstT32
      case hyT32 => (intro w hSw; (try dsimp only at hSw); go_simp; (try with_reducible rfl))
      try simp only [Act.put, List.setIfInBounds_toArray, List.set_cons_zero, List.set_cons_succ]
      refine takeDh (i := 4) (d := some 22) (v := ?vT33) rfl rfl (by kernel_rfl) (by kernel_rfl) (by kernel_rfl) (fun _ _ _ h => h) (Or.inl ⟨by rfl, ?hyT33⟩) (by assumption) ?rstT33
      case hyT33 => (intro w hSw; (try dsimp only at hSw); go_simp; (try with_reducible rfl))
      try simp only [Act.put, List.setIfInBounds_toArray, List.set_cons_zero, List.set_cons_succ]
      refine takeDh (i := 5) (d := some 23) (v := ?vT34) rfl rfl (by kernel_rfl) (by kernel_rfl) (by kernel_rfl) (fun _ _ _ h => h) (Or.inl ⟨by rfl, ?hyT34⟩) (by assumption) ?rstT34
      case hyT34 => (intro w hSw; (try dsimp only at hSw); go_simp; (try with_reducible rfl))
      try simp only [Act.put, List.setIfInBounds_toArray, List.set_cons_zero, List.set_cons_succ]
      refine takeDh (i := 6) (d := some 24) (v := ?vT35) rfl rfl (by kernel_rfl) (by kernel_rfl) (by kernel_rfl) (fun _ _ _ h => h) (Or.inl ⟨by rfl, ?hyT35⟩) (by assumption) ?rstT35
      case hyT35 => (intro w hSw; (try dsimp only at hSw); go_simp; (try with_reducible rfl))
      try simp only [Act.put, List.setIfInBounds_toArray, List.set_cons_zero, List.set_cons_succ]
      refine takeDh (i := 7) (d := some 25) (v := ?vT36) rfl rfl (by kernel_rfl) (by kernel_rfl) (by kernel_rfl) (fun _ _ _ h => h) (Or.inl ⟨by rfl, ?hyT36⟩) (by assumption) ?rstT36
      case hyT36 => (intro w hSw; (try dsimp only at hSw); go_simp; (try with_reducible rfl))
      try simp only [Act.put, List.setIfInBounds_toArray, List.set_cons_zero, List.set_cons_succ]
      refine wpAnyH_ready (rs := [8]) (by kernel_rfl) (by simp) ?_
      refine AllReadyH.cons rfl (fun K hK => ?_) AllReadyH.nil
      go_simp
      refine (HS3.out _ (hb.trans (hc.mono hb.size))).mono ?_
      rintro e w2 ⟨rfl, hb3⟩
      have hc2 := hc.trans (hb3.mono hc.size)
      clear hHeld
      refine hK.out _ _ ?hS37 (fun hHeld => ?rest37)
      case hS37 => (exact ⟨(hc2.cell (p := ⟨g1, off1 + i * 9, none⟩) hl1).trans p0, (hc2.cell (p := ⟨g1, off1 + i * 9 + 1, none⟩) hl1).trans p1, (hc2.cell (p := ⟨g1, off1 + i * 9 + 2, none⟩) hl1).trans p2, (hc2.cell (p := ⟨g1, off1 + i * 9 + 3, none⟩) hl1).trans p3, (hc2.cell (p := ⟨g1, off1 + i * 9 + 4, none⟩) hl1).trans p4, (hc2.cell (p := ⟨g1, off1 + i * 9 + 5, none⟩) hl1).trans p5, (hc2.cell (p := ⟨g1, off1 + i * 9 + 6, none⟩) hl1).trans p6, (hc2.cell (p := ⟨g1, off1 + i * 9 + 7, none⟩) hl1).trans p7, (hc2.cell (p := ⟨g1, off1 + i * 9 + 8, none⟩) hl1).trans p8, (hc2.cell (p := ⟨g2, off2 + i * 9, none⟩) hl2).trans q0, (hc2.cell (p := ⟨g2, off2 + i * 9 + 1, none⟩) hl2).trans q1, (hc2.cell (p := ⟨g2, off2 + i * 9 + 2, none⟩) hl2).trans q2, (hc2.cell (p := ⟨g2, off2 + i * 9 + 3, none⟩) hl2).trans q3, (hc2.cell (p := ⟨g2, off2 + i * 9 + 4, none⟩) hl2).trans q4, (hc2.cell (p := ⟨g2, off2 + i * 9 + 5, none⟩) hl2).trans q5, (hc2.cell (p := ⟨g2, off2 + i * 9 + 6, none⟩) hl2).trans q6, (hc2.cell (p := ⟨g2, off2 + i * 9 + 7, none⟩) hl2).trans q7, (hc2.cell (p := ⟨g2, off2 + i * 9 + 8, none⟩) hl2).trans q8⟩)
      clear hK K
      try simp only [Act.put, List.setIfInBounds_toArray, List.set_cons_zero, List.set_cons_succ]
      refine takeDh (i := 9) (d := some 6) (v := ?vT38) rfl rfl (by kernel_rfl) (by kernel_rfl) (by kernel_rfl) (fun _ _ _ h => h) (Or.inl ⟨by rfl, ?hyT38⟩) (by assumption) ?rstT38
      case hyT38 => (intro w hSw; (try dsimp only at hSw); go_simp; (try with_reducible rfl))
      try simp only [Act.put, List.setIfInBounds_toArray, List.set_cons_zero, List.set_cons_succ]
      refine wpAnyH_done (by kernel_rfl) ?_ _
      have hB2 := hb.trans (hc2.mono hb.size)
      clear hHeld HS3 hc hb3 hc2 p0 p1 p2 p3 p4 p5 p6 p7 p8 q0 q1 q2 q3 q4 q5 q6 q7 q8 hb2
      go_wp2_with fail
      go_roundw
      case rel => first | exact ⟨i + 1, by go_num, by omega, hB2⟩ | ((repeat apply Exists.intro); exact ⟨⟨i + 1, by go_num, by omega, hB2⟩, rfl⟩)
      case measure => simp [RowKit.intOf]; omega
    · obtain rfl : i = m := by omega
      clear HA HB HS
      have d1 : decide ((i : Int) < (i : Int)) = false := decide_eq_false (by omega)
      go_wp2_with fail
      go_ret
      exact ⟨rfl, hb⟩
set_option maxHeartbeats 16000000 in
theorem runs_5 {x : XOp} {w : World} (hx : XOk w x) (hk1 : x.k = 5) (hw : Bar w) :
    Calls Tryz.prog 30 #[.agg (xopF x).toArray] w fun e w' => e = .returned (.bool true) ∧ Below w.heap.size w w' := by
  obtain ⟨-, -, hrow, hops, hoth, hoths, hfew⟩ := hx
  obtain ⟨k1, ⟨c, n, k, p, s, l1, tc, tn, on⟩, a1, m1, c1, ⟨c2, n2, k2, p2, s2, l2, tc2, tn2, on2⟩, a2, m2, cp2, ra, rm, rc, R, sa, sm, sc, S, e, N, M⟩ := x
  simp only at hk1
  subst hk1
  simp only at hrow hops hoth hoths hfew
  have HC1 : Hid (∀ W, Below w.heap.size w W → Calls Tryz.prog 54 #[.slice ra rm rc] W fun e w' => ∃ va vc, e = .returned (.slice va rm vc) ∧ RunIn w' va rm vc (R.map (·.1)) ∧ Below W.heap.size W w') := fun W hb => run_copied (hrow.below hb) (fun x hx => (hops x hx).below hb) hfew.1
  have HC2 : Hid (∀ W, Below w.heap.size w W → Calls Tryz.prog 54 #[.slice sa sm sc] W fun e w' => ∃ va vc, e = .returned (.slice va sm vc) ∧ RunIn w' va sm vc (S.map (·.1)) ∧ Below W.heap.size W w') := fun W hb => run_copied (hoth.below hb) (fun x hx => (hoths x hx).below hb) hfew.2
  have HG : Hid (∀ (W : World), Below w.heap.size w W → Calls Tryz.prog 56 #[.slice ra rm rc, .slice sa sm sc] W fun e w' => AnsC W (xCross (R.map (·.1)) (S.map (·.1))) e w') := fun W hb => gCross_any (hrow.below hb) (fun x hx => (hops x hx).below hb) (hoth.below hb) (fun x hx => (hoths x hx).below hb) hfew.1 hfew.2
  have HI : Hid (∀ (W : World) y1 z1 y2 z2, Below w.heap.size w W → RunIn W y1 rm z1 (R.map (·.1)) → RunIn W y2 sm z2 (S.map (·.1)) → Calls Tryz.prog 5 #[.slice y1 rm z1, .slice y2 sm z2] W fun e w' => AnsC W (xCross (R.map (·.1)) (S.map (·.1))) e w') := fun W y1 z1 y2 z2 hb r1 r2 => Cross_any r1 r2 hfew.1 hfew.2 (hw.below hb)
  generalize R.map (·.1) = RL at *
  generalize S.map (·.1) = SL at *
  obtain ⟨⟨⟨Q1, Q2⟩, z⟩, hq⟩ : ∃ q, xCross RL SL = q := ⟨_, rfl⟩
  rw [hq] at HI HG
  unfold AnsC at HI HG
  have HN : Hid (∀ W, Calls Tryz.prog 7 #[.int .i64 z] W fun r w' => r = .returned (.int .i64 z) ∧ W = w') := fun W => (num_any z W).mono fun e w' h => ⟨h.1, h.2.symm⟩
  clear hrow hops hoth hoths hfew hw hq
  simp only [xopF] at *
  obtain ⟨W0, hW0⟩ : ∃ W0, w.alloc (Obj.cells #[.int .i64 5, .int .i64 c, .int .i64 n, .int .i64 k, .int .i64 p, .string s, .slice a1 m1 c1, .int .i64 tc, .int .i64 tn, .bool on, .int .i64 c2, .int .i64 n2, .int .i64 k2, .int .i64 p2, .string s2, .slice a2 m2 cp2, .int .i64 tc2, .int .i64 tn2, .bool on2, .slice ra rm rc, .slice sa sm sc, .bool e, .int .i64 N, .int .i64 M] 46) = W0 := ⟨_, rfl⟩
  have hX0 : W0.heap[w.heap.size]? = some (Obj.cells #[.int .i64 5, .int .i64 c, .int .i64 n, .int .i64 k, .int .i64 p, .string s, .slice a1 m1 c1, .int .i64 tc, .int .i64 tn, .bool on, .int .i64 c2, .int .i64 n2, .int .i64 k2, .int .i64 p2, .string s2, .slice a2 m2 cp2, .int .i64 tc2, .int .i64 tn2, .bool on2, .slice ra rm rc, .slice sa sm sc, .bool e, .int .i64 N, .int .i64 M] 46) := by rw [← hW0]; exact heap_alloc_new _ _
  have hB0 : Below w.heap.size w W0 := by rw [← hW0]; exact (Below.refl w.heap.size w).alloc (Nat.le_refl _) _
  have alt0 : w.heap.size < W0.heap.size := (Array.getElem?_eq_some_iff.1 hX0).1
  obtain ⟨ax0, ax1, ax2, ax3, ax4, ax5, ax6, ax7, ax8, ax9, ax10, ax11, ax12, ax13, ax14, ax15, ax16, ax17, ax18, ax19, ax20, ax21, ax22, ax23⟩ := box24 hX0
  go_enter Tryz.func30, Tryz.ntmps30
  go_wp2_with fail
  refine wp_region_held_drew (S := (fun W => W.cell? ⟨w.heap.size, 19, none⟩ = some (.slice ra rm rc) ∧ W.cell? ⟨w.heap.size, 20, none⟩ = some (.slice sa sm sc))) (by kernel_rfl) ?hS13 (fun hHeld => ?rest13)
  case hS13 => (have q := box24 hX0; exact ⟨q.2.2.2.2.2.2.2.2.2.2.2.2.2.2.2.2.2.2.2.1, q.2.2.2.2.2.2.2.2.2.2.2.2.2.2.2.2.2.2.2.2.1⟩)
  obtain ⟨u0, hu0⟩ : ∃ V, World.drew W0 = V := ⟨_, rfl⟩
  rw [hu0]
  have hX0 : u0.heap[w.heap.size]? = some (Obj.cells #[.int .i64 5, .int .i64 c, .int .i64 n, .int .i64 k, .int .i64 p, .string s, .slice a1 m1 c1, .int .i64 tc, .int .i64 tn, .bool on, .int .i64 c2, .int .i64 n2, .int .i64 k2, .int .i64 p2, .string s2, .slice a2 m2 cp2, .int .i64 tc2, .int .i64 tn2, .bool on2, .slice ra rm rc, .slice sa sm sc, .bool e, .int .i64 N, .int .i64 M] 46) := by rw [← hu0]; exact hX0
  have hB0 : Below w.heap.size w u0 := by rw [← hu0]; exact hB0.drew
  have alt0 : w.heap.size < u0.heap.size := by rw [← hu0]; exact alt0
  rw [hu0] at hHeld
  clear hu0
  refine takeDh (i := 0) (d := some 51) (v := ?vT14) rfl rfl (by kernel_rfl) (by kernel_rfl) (by kernel_rfl) (fun _ _ _ h => h) (Or.inl ⟨by rfl, ?hyT14⟩) (by assumption) ?rstT14
  case hyT14 => (intro w hSw; (try dsimp only at hSw); go_simp; (try with_reducible rfl))
  try simp only [Act.put, List.setIfInBounds_toArray, List.set_cons_zero, List.set_cons_succ]
  refine takeDh (i := 1) (d := some 52) (v := ?vT15) rfl rfl (by kernel_rfl) (by kernel_rfl) (by kernel_rfl) (fun _ _ _ h => h) (Or.inl ⟨by rfl, ?hyT15⟩) (by assumption) ?rstT15
  case hyT15 => (intro w hSw; (try dsimp only at hSw); go_simp; (try with_reducible rfl))
  try simp only [Act.put, List.setIfInBounds_toArray, List.set_cons_zero, List.set_cons_succ]
  refine takeDh (i := 3) (d := some 54) (v := ?vT16) rfl rfl (by kernel_rfl) (by kernel_rfl) (by kernel_rfl) (fun _ _ _ h => h) (Or.inl ⟨by rfl, ?hyT16⟩) (by assumption) ?rstT16
  case hyT16 => (intro w hSw; (try dsimp only at hSw); go_simp; (try with_reducible rfl))
  try simp only [Act.put, List.setIfInBounds_toArray, List.set_cons_zero, List.set_cons_succ]
  refine takeDh (i := 4) (d := some 55) (v := ?vT17) rfl rfl (by kernel_rfl) (by kernel_rfl) (by kernel_rfl) (fun _ _ _ h => h) (Or.inl ⟨by rfl, ?hyT17⟩) (by assumption) ?rstT17
  case hyT17 => (intro w hSw; (try dsimp only at hSw); go_simp; (try with_reducible rfl))
  try simp only [Act.put, List.setIfInBounds_toArray, List.set_cons_zero, List.set_cons_succ]
  refine wpAnyH_ready (rs := [2]) (by kernel_rfl) (by simp) ?_
  refine AllReadyH.cons rfl (fun K hK => ?_) AllReadyH.nil
  go_simp
  refine (HC1.out _ hB0).mono ?_
  rintro e2 u1 ⟨y1, z1, rfl, hrn, hb⟩
  have hX1 := (hb.block _ alt0).trans hX0
  have hB1 := hB0.trans (hb.mono hB0.size)
  have alt1 : w.heap.size < u1.heap.size := (Array.getElem?_eq_some_iff.1 hX1).1
  clear hb
  clear hHeld
  refine hK.out _ _ ?hS18 (fun hHeld => ?rest18)
  case' hS18 => (have q := box24 hX1; exact ⟨q.2.2.2.2.2.2.2.2.2.2.2.2.2.2.2.2.2.2.2.1, q.2.2.2.2.2.2.2.2.2.2.2.2.2.2.2.2.2.2.2.2.1⟩)
  clear hK K
  try simp only [Act.put, List.setIfInBounds_toArray, List.set_cons_zero, List.set_cons_succ]
  refine wpAnyH_ready (rs := [5]) (by kernel_rfl) (by simp) ?_
  refine AllReadyH.cons rfl (fun K hK => ?_) AllReadyH.nil
  go_simp
  refine (HC2.out _ hB1).mono ?_
  rintro e2 u2 ⟨y2, z2, rfl, hro, hb⟩
  have hX2 := (hb.block _ alt1).trans hX1
  have hB2 := hB1.trans (hb.mono hB1.size)
  have alt2 : w.heap.size < u2.heap.size := (Array.getElem?_eq_some_iff.1 hX2).1
  have hrn := hrn.below hb
  clear hb
  clear hHeld
  refine hK.out _ _ ?hS19 (fun hHeld => ?rest19)
  case' hS19 => (have q := box24 hX2; exact ⟨q.2.2.2.2.2.2.2.2.2.2.2.2.2.2.2.2.2.2.2.1, q.2.2.2.2.2.2.2.2.2.2.2.2.2.2.2.2.2.2.2.2.1⟩)
  clear hK K
  try simp only [Act.put, List.setIfInBounds_toArray, List.set_cons_zero, List.set_cons_succ]
  refine wpAnyH_ready (rs := [6]) (by kernel_rfl) (by simp) ?_
  refine AllReadyH.cons rfl (fun K hK => ?_) AllReadyH.nil
  go_simp
  refine (HI.out _ _ _ _ _ hB2 hrn hro).mono ?_
  rintro e2 u3 ⟨u1, m1_, x1, u2, m2_, x2, rfl, hq1, hq2, hb⟩
  have hX3 := (hb.block _ alt2).trans hX2
  have hB3 := hB2.trans (hb.mono hB2.size)
  have alt3 : w.heap.size < u3.heap.size := (Array.getElem?_eq_some_iff.1 hX3).1
  have hrn := hrn.below hb
  have hro := hro.below hb
  clear hb
  clear hHeld
  refine hK.out _ _ ?hS20 (fun hHeld => ?rest20)
  case' hS20 => (have q := box24 hX3; exact ⟨q.2.2.2.2.2.2.2.2.2.2.2.2.2.2.2.2.2.2.2.1, q.2.2.2.2.2.2.2.2.2.2.2.2.2.2.2.2.2.2.2.2.1⟩)
  clear hK K
  try simp only [Act.put, List.setIfInBounds_toArray, List.set_cons_zero, List.set_cons_succ]
  refine takeDh (i := 7) (d := some 50) (v := ?vT21) rfl rfl (by kernel_rfl) (by kernel_rfl) (by kernel_rfl) (fun _ _ _ h => h) (Or.inl ⟨by rfl, ?hyT21⟩) (by assumption) ?rstT21
  case hyT21 => (intro w hSw; (try dsimp only at hSw); go_simp; (try with_reducible rfl))
  try simp only [Act.put, List.setIfInBounds_toArray, List.set_cons_zero, List.set_cons_succ]
  refine takeDh (i := 8) (d := some 58) (v := ?vT22) rfl rfl (by kernel_rfl) (by kernel_rfl) (by kernel_rfl) (fun _ _ _ h => h) (Or.inl ⟨by rfl, ?hyT22⟩) (by assumption) ?rstT22
  case hyT22 => (intro w hSw; (try dsimp only at hSw); go_simp; (try with_reducible rfl))
  try simp only [Act.put, List.setIfInBounds_toArray, List.set_cons_zero, List.set_cons_succ]
  refine takeDh (i := 9) (d := some 59) (v := ?vT23) rfl rfl (by kernel_rfl) (by kernel_rfl) (by kernel_rfl) (fun _ _ _ h => h) (Or.inl ⟨by rfl, ?hyT23⟩) (by assumption) ?rstT23
  case hyT23 => (intro w hSw; (try dsimp only at hSw); go_simp; (try with_reducible rfl))
  try simp only [Act.put, List.setIfInBounds_toArray, List.set_cons_zero, List.set_cons_succ]
  refine takeDh (i := 10) (d := some 60) (v := ?vT24) rfl rfl (by kernel_rfl) (by kernel_rfl) (by kernel_rfl) (fun _ _ _ h => h) (Or.inl ⟨by rfl, ?hyT24⟩) (by assumption) ?rstT24
  case hyT24 => (intro w hSw; (try dsimp only at hSw); go_simp; (try with_reducible rfl))
  try simp only [Act.put, List.setIfInBounds_toArray, List.set_cons_zero, List.set_cons_succ]
  refine takeDh (i := 11) (d := some 7) (v := ?vT25) rfl rfl (by kernel_rfl) (by kernel_rfl) (by kernel_rfl) (fun _ _ _ h => h) (Or.inl ⟨by rfl, ?hyT25⟩) (by assumption) ?rstT25
  case hyT25 => (intro w hSw; (try dsimp only at hSw); go_simp; (try with_reducible rfl))
  try simp only [Act.put, List.setIfInBounds_toArray, List.set_cons_zero, List.set_cons_succ]
  refine takeDh (i := 12) (d := some 8) (v := ?vT26) rfl rfl (by kernel_rfl) (by kernel_rfl) (by kernel_rfl) (fun _ _ _ h => h) (Or.inl ⟨by rfl, ?hyT26⟩) (by assumption) ?rstT26
  case hyT26 => (intro w hSw; (try dsimp only at hSw); go_simp; (try with_reducible rfl))
  try simp only [Act.put, List.setIfInBounds_toArray, List.set_cons_zero, List.set_cons_succ]
  refine takeDh (i := 13) (d := some 9) (v := ?vT27) rfl rfl (by kernel_rfl) (by kernel_rfl) (by kernel_rfl) (fun _ _ _ h => h) (Or.inl ⟨by rfl, ?hyT27⟩) (by assumption) ?rstT27
  case hyT27 => (intro w hSw; (try dsimp only at hSw); go_simp; (try with_reducible rfl))
  try simp only [Act.put, List.setIfInBounds_toArray, List.set_cons_zero, List.set_cons_succ]
  refine wpAnyH_done (by kernel_rfl) ?_ _
  have HQ : Hid (RunIn u3 u1 m1_ x1 Q1 ∧ RunIn u3 u2 m2_ x2 Q2) := ⟨hq1, hq2⟩
  clear hHeld HC1 HC2 HI hrn hro hq1 hq2 ax0 ax1 ax2 ax3 ax4 ax5 ax6 ax7 ax8 ax9 ax10 ax11 ax12 ax13 ax14 ax15 ax16 ax17 ax18 ax19 ax20 ax21 ax22 ax23
  obtain ⟨bx0, bx1, bx2, bx3, bx4, bx5, bx6, bx7, bx8, bx9, bx10, bx11, bx12, bx13, bx14, bx15, bx16, bx17, bx18, bx19, bx20, bx21, bx22, bx23⟩ := box24 hX3
  go_wp2_with fail
  refine (HG.out _ hB3).mono ?_
  rintro e2 v4 ⟨y1, n1_, q1, y2, n2_, q2, rfl, ho1, ho2, hb4⟩
  have hB4 := hB3.trans (hb4.mono hB3.size)
  have HS1 : Hid (∀ W, Below v4.heap.size v4 W → Calls Tryz.prog 57 #[.slice u1 m1_ x1, .slice y1 n1_ q1] W fun e w' => e = .returned (.bool true) ∧ Below W.heap.size W w') := fun W hb => sameRun_self ((HQ.out.1.below hb4).below hb) (ho1.below hb)
  have HS2 : Hid (∀ W, Below v4.heap.size v4 W → Calls Tryz.prog 57 #[.slice u2 m2_ x2, .slice y2 n2_ q2] W fun e w' => e = .returned (.bool true) ∧ Below W.heap.size W w') := fun W hb => sameRun_self ((HQ.out.2.below hb4).below hb) (ho2.below hb)
  clear HG HQ ho1 ho2 hb4 hX3 bx0 bx1 bx2 bx3 bx4 bx5 bx6 bx7 bx8 bx9 bx10 bx11 bx12 bx13 bx14 bx15 bx16 bx17 bx18 bx19 bx20 bx21 bx22 bx23
  go_wp2_with fail
  refine (HN.out _).mono ?_
  rintro e2 v5 ⟨rfl, rfl⟩
  go_wp2_with fail
  refine (HS1.out _ (Below.refl _ _)).mono ?_
  rintro e2 v6 ⟨rfl, hb6⟩
  go_wp2_with fail
  refine (HS2.out _ hb6).mono ?_
  rintro e2 v7 ⟨rfl, hb7⟩
  have hB7 := hB4.trans ((hb6.trans (hb7.mono hb6.size)).mono hB4.size)
  clear HS1 HS2 HN hb6 hb7
  go_wp2_with fail
  go_ret
  exact ⟨rfl, hB7⟩
end Go.Proofs.YtmdnmhdimfglaaaGreatDoor
