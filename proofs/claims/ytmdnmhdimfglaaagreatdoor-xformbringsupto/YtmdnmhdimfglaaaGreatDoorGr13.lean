import Derived.Test.YtmdnmhdimfglaaaGreatDoorXlD
import Derived.Test.YtmdnmhdimfglaaaGreatDoorGr7
namespace Go.Proofs.YtmdnmhdimfglaaaGreatDoor
open Go.RowKit Go.Lib
set_option maxRecDepth 100000
set_option maxHeartbeats 8000000 in
theorem sameRun_self {w : World} {a : Option Addr} {n cap : Nat} {b : Option Addr} {m capb : Nat} {L : List OpV} (h1 : RunIn w a n cap L) (h2 : RunIn w b m capb L) :
    Calls Tryz.prog 57 #[.slice a n cap, .slice b m capb] w fun e w' => e = .returned (.bool true) ∧ Below w.heap.size w w' := by
  obtain ⟨FM, rfl, ⟨B1, o1⟩, r1⟩ := h1
  obtain ⟨LM, hl, ⟨B2, o2⟩, r2⟩ := h2
  have l1 := (o1.rw_ layO).len
  have l2 := (o2.rw_ layO).len
  have hlen : FM.length = LM.length := by have := congrArg List.length hl; simp at this; omega
  obtain rfl : m = n := by omega
  have hnb : m ≤ 9223372036854775807 := by have := (o1.rw_ layO).room; simp only [maxLen] at this; omega
  have HA : Hid (Rw opF 9 w a m cap FM) := o1.rw_ layO
  have HB : Hid (Rw opF 9 w b m capb LM) := o2.rw_ layO
  have HS : Hid (∀ (j : Nat) (x y : OpM), FM[j]? = some x → LM[j]? = some y → ∀ W, Below w.heap.size w W → Calls Tryz.prog 50 #[opVal x.1 (.slice x.2.1 x.2.2.1 x.2.2.2), opVal y.1 (.slice y.2.1 y.2.2.1 y.2.2.2)] W fun e w' => e = .returned (.bool true) ∧ Below W.heap.size W w') := fun j x y hx hy W hb => by
    have e1 : y.1 = x.1 := by
      have := congrArg (fun (l : List OpV) => l[j]?) hl
      simp only [List.getElem?_map, hx, hy, Option.map_some, Option.some.injEq] at this
      exact this
    have q1 := (r1 x (List.mem_of_getElem? hx)).rng.below hb
    have q2 := (r2 y (List.mem_of_getElem? hy)).rng.below hb
    rw [e1] at q2 ⊢
    exact sameOp_self q1 q2
  clear o1 o2 r1 r2 hl l1 l2 hlen
  go_enter Tryz.func57, Tryz.ntmps57
  go_wp2_with fail
  go_loopw [5] (fun vi W => ∃ i : Nat, vi = .int .i64 (i : Int) ∧ i ≤ m ∧ Below w.heap.size w W) (fun vi _ => m - (RowKit.intOf vi).toNat)
  case atStart => exact ⟨0, rfl, Nat.zero_le _, Below.refl _ _⟩
  case round =>
    obtain ⟨i, rfl, hin, hb⟩ := hrel
    by_cases hlt : i < m
    · obtain ⟨g1, off1, x, rfl, hg1, hx, p0, p1, p2, p3, p4, p5, p6, p7, p8⟩ := HA.out.at9 hb i hlt
      obtain ⟨g2, off2, y, rfl, hg2, hy, q0, q1, q2, q3, q4, q5, q6, q7, q8⟩ := HB.out.at9 hb i hlt
      have HS2 := HS.out i x y hx hy
      clear HS hx hy
      obtain ⟨⟨xc, xn, xk, xp, xs, xl, xtc, xtn, xon⟩, xa, xm, xcap⟩ := x
      obtain ⟨⟨yc, yn, yk, yp, ys, yl, ytc, ytn, yon⟩, ya, ym, ycap⟩ := y
      simp only [opVal] at *
      have HS3 : Hid _ := HS2
      have hb2 : Below wr.heap.size wr wr := Below.refl _ _
      clear HS2
      have d1 : (i : Int) < (m : Int) := by omega
      have d0 : (0 : Int) ≤ (i : Int) := by omega
      go_upto_region 6 with fail
      have hl1 : g1 < wr.heap.size := Nat.lt_of_lt_of_le hg1 hb.size
      have hl2 : g2 < wr.heap.size := Nat.lt_of_lt_of_le hg2 hb.size
      refine wp_region_held_drew (S := (fun W => W.cell? ⟨g1, off1 + i * 9, none⟩ = some (.int .i64 xc) ∧ W.cell? ⟨g1, off1 + i * 9 + 1, none⟩ = some (.int .i64 xn) ∧ W.cell? ⟨g1, off1 + i * 9 + 2, none⟩ = some (.int .i64 xk) ∧ W.cell? ⟨g1, off1 + i * 9 + 3, none⟩ = some (.int .i64 xp) ∧ W.cell? ⟨g1, off1 + i * 9 + 4, none⟩ = some (.string xs) ∧ W.cell? ⟨g1, off1 + i * 9 + 5, none⟩ = some (.slice xa xm xcap) ∧ W.cell? ⟨g1, off1 + i * 9 + 6, none⟩ = some (.int .i64 xtc) ∧ W.cell? ⟨g1, off1 + i * 9 + 7, none⟩ = some (.int .i64 xtn) ∧ W.cell? ⟨g1, off1 + i * 9 + 8, none⟩ = some (.bool xon) ∧ W.cell? ⟨g2, off2 + i * 9, none⟩ = some (.int .i64 yc) ∧ W.cell? ⟨g2, off2 + i * 9 + 1, none⟩ = some (.int .i64 yn) ∧ W.cell? ⟨g2, off2 + i * 9 + 2, none⟩ = some (.int .i64 yk) ∧ W.cell? ⟨g2, off2 + i * 9 + 3, none⟩ = some (.int .i64 yp) ∧ W.cell? ⟨g2, off2 + i * 9 + 4, none⟩ = some (.string ys) ∧ W.cell? ⟨g2, off2 + i * 9 + 5, none⟩ = some (.slice ya ym ycap) ∧ W.cell? ⟨g2, off2 + i * 9 + 6, none⟩ = some (.int .i64 ytc) ∧ W.cell? ⟨g2, off2 + i * 9 + 7, none⟩ = some (.int .i64 ytn) ∧ W.cell? ⟨g2, off2 + i * 9 + 8, none⟩ = some (.bool yon))) (by kernel_rfl) ?hS28 (fun hHeld => ?rest28)
      case hS28 => (exact ⟨p0, p1, p2, p3, p4, p5, p6, p7, p8, q0, q1, q2, q3, q4, q5, q6, q7, q8⟩)
      obtain ⟨u0, hu0⟩ : ∃ V, World.drew wr = V := ⟨_, rfl⟩
      rw [hu0] at hHeld
      rw [hu0]
      have hc : Below wr.heap.size wr u0 := by rw [← hu0]; exact (Below.refl _ _).drew
      clear hu0
      refine takeDh (i := 0) (d := some 18) (v := ?vT29) rfl rfl (by kernel_rfl) (by kernel_rfl) (by kernel_rfl) (fun _ _ _ h => h) (Or.inl ⟨by rfl, ?hyT29⟩) (by assumption) ?rstT29
      case hyT29 => (intro w hSw; (try dsimp only at hSw); go_simp; (try with_reducible rfl))
      try simp only [Act.put, List.setIfInBounds_toArray, List.set_cons_zero, List.set_cons_succ]
      refine takeDh (i := 1) (d := some 19) (v := ?vT30) rfl rfl (by kernel_rfl) (by kernel_rfl) (by kernel_rfl) (fun _ _ _ h => h) (Or.inl ⟨by rfl, ?hyT30⟩) (by assumption) ?rstT30
      case hyT30 => (intro w hSw; (try dsimp only at hSw); go_simp; (try with_reducible rfl))
      try simp only [Act.put, List.setIfInBounds_toArray, List.set_cons_zero, List.set_cons_succ]
      refine takeDh (i := 2) (d := some 20) (v := ?vT31) rfl rfl (by kernel_rfl) (by kernel_rfl) (by kernel_rfl) (fun _ _ _ h => h) (Or.inl ⟨by rfl, ?hyT31⟩) (by assumption) ?rstT31
      case hyT31 => (intro w hSw; (try dsimp only at hSw); go_simp; (try with_reducible rfl))
      try simp only [Act.put, List.setIfInBounds_toArray, List.set_cons_zero, List.set_cons_succ]
      refine takeDh (i := 3) (d := some 21) (v := ?vT32) rfl rfl (by kernel_rfl) (by kernel_rfl) (by kernel_rfl) (fun _ _ _ h => h) (Or.inl ⟨by rfl, ?hyT32⟩) (by assumption) ?rstT32
      case hyT32 => (intro w hSw; (try dsimp only at hSw); go_simp; (try with_reducible rfl))
      try simp only [Act.put, List.setIfInBounds_toArray, List.set_cons_zero, List.set_cons_succ]
      refine takeDh (i := 4) (d := some 22) (v := ?vT33) rfl rfl (by kernel_rfl) (by kernel_rfl) (by kernel_rfl) (fun _ _ _ h => h) (Or.inl ⟨by rfl, ?hyT33⟩) (by assumption) ?rstT33
      case hyT33 => (intro w hSw; (try dsimp only at hSw); go_simp; (try with_reducible rfl))
      try simp only [Act.put, List.setIfInBounds_toArray, List.set_cons_zero, List.set_cons_succ]
      refine takeDh (i := 5) (d := some 23) (v := ?vT34) rfl rfl (by kernel_rfl) (by kernel_rfl) (by kernel_rfl) (fun _ _ _ h => h) (Or.inl ⟨by rfl, ?hyT34⟩) (by assumption) ?rstT34
      case hyT34 => (intro w hSw; (try dsimp only at hSw); go_simp; (try with_reducible rfl))
      try simp only [Act.put, List.setIfInBounds_toArray, List.set_cons_zero, List.set_cons_succ]
      refine takeDh (i := 6) (d := some 24) (v := ?vT35) rfl rfl (by kernel_rfl) (by kernel_rfl) (by kernel_rfl) (fun _ _ _ h => h) (Or.inl ⟨by rfl, ?hyT35⟩) (by assumption) ?rstT35
      case hyT35 => (intro w hSw; (try dsimp only at hSw); go_simp; (try with_reducible rfl))
      try simp only [Act.put, List.setIfInBounds_toArray, List.set_cons_zero, List.set_cons_succ]
      refine takeDh (i := 7) (d := some 25) (v := ?vT36) rfl rfl (by kernel_rfl) (by kernel_rfl) (by kernel_rfl) (fun _ _ _ h => h) (Or.inl ⟨by rfl, ?hyT36⟩) (by assumption) ?rstT36
      case hyT36 => (intro w hSw; (try dsimp only at hSw); go_simp; (try with_reducible rfl))
      try simp only [Act.put, List.setIfInBounds_toArray, List.set_cons_zero, List.set_cons_succ]
      refine wpAnyH_ready (rs := [8]) (by kernel_rfl) (by simp) ?_
      refine AllReadyH.cons rfl (fun K hK => ?_) AllReadyH.nil
      go_simp
      refine (HS3.out _ (hb.trans (hc.mono hb.size))).mono ?_
      rintro e w2 ⟨rfl, hb3⟩
      have hc2 := hc.trans (hb3.mono hc.size)
      clear hHeld
      refine hK.out _ _ ?hS37 (fun hHeld => ?rest37)
      case hS37 => (exact ⟨(hc2.cell (p := ⟨g1, off1 + i * 9, none⟩) hl1).trans p0, (hc2.cell (p := ⟨g1, off1 + i * 9 + 1, none⟩) hl1).trans p1, (hc2.cell (p := ⟨g1, off1 + i * 9 + 2, none⟩) hl1).trans p2, (hc2.cell (p := ⟨g1, off1 + i * 9 + 3, none⟩) hl1).trans p3, (hc2.cell (p := ⟨g1, off1 + i * 9 + 4, none⟩) hl1).trans p4, (hc2.cell (p := ⟨g1, off1 + i * 9 + 5, none⟩) hl1).trans p5, (hc2.cell (p := ⟨g1, off1 + i * 9 + 6, none⟩) hl1).trans p6, (hc2.cell (p := ⟨g1, off1 + i * 9 + 7, none⟩) hl1).trans p7, (hc2.cell (p := ⟨g1, off1 + i * 9 + 8, none⟩) hl1).trans p8, (hc2.cell (p := ⟨g2, off2 + i * 9, none⟩) hl2).trans q0, (hc2.cell (p := ⟨g2, off2 + i * 9 + 1, none⟩) hl2).trans q1, (hc2.cell (p := ⟨g2, off2 + i * 9 + 2, none⟩) hl2).trans q2, (hc2.cell (p := ⟨g2, off2 + i * 9 + 3, none⟩) hl2).trans q3, (hc2.cell (p := ⟨g2, off2 + i * 9 + 4, none⟩) hl2).trans q4, (hc2.cell (p := ⟨g2, off2 + i * 9 + 5, none⟩) hl2).trans q5, (hc2.cell (p := ⟨g2, off2 + i * 9 + 6, none⟩) hl2).trans q6, (hc2.cell (p := ⟨g2, off2 + i * 9 + 7, none⟩) hl2).trans q7, (hc2.cell (p := ⟨g2, off2 + i * 9 + 8, none⟩) hl2).trans q8⟩)
      clear hK K
      try simp only [Act.put, List.setIfInBounds_toArray, List.set_cons_zero, List.set_cons_succ]
      refine takeDh (i := 9) (d := some 6) (v := ?vT38) rfl rfl (by kernel_rfl) (by kernel_rfl) (by kernel_rfl) (fun _ _ _ h => h) (Or.inl ⟨by rfl, ?hyT38⟩) (by assumption) ?rstT38
      case hyT38 => (intro w hSw; (try dsimp only at hSw); go_simp; (try with_reducible rfl))
      try simp only [Act.put, List.setIfInBounds_toArray, List.set_cons_zero, List.set_cons_succ]
      refine wpAnyH_done (by kernel_rfl) ?_ _
      have hB2 := hb.trans (hc2.mono hb.size)
      clear hHeld HS3 hc hb3 hc2 p0 p1 p2 p3 p4 p5 p6 p7 p8 q0 q1 q2 q3 q4 q5 q6 q7 q8 hb2
      go_wp2_with fail
      go_roundw
      case rel => first | exact ⟨i + 1, by go_num, by omega, hB2⟩ | ((repeat apply Exists.intro); exact ⟨⟨i + 1, by go_num, by omega, hB2⟩, rfl⟩)
      case measure => simp [RowKit.intOf]; omega
    · obtain rfl : i = m := by omega
      clear HA HB HS
      have d1 : decide ((i : Int) < (i : Int)) = false := decide_eq_false (by omega)
      go_wp2_with fail
      go_ret
      exact ⟨rfl, hb⟩
end Go.Proofs.YtmdnmhdimfglaaaGreatDoor

namespace Go.Proofs.YtmdnmhdimfglaaaGreatDoor
open Go.RowKit Go.Lib
set_option maxRecDepth 100000
def cmpV (x y : Int) : Int := if x < y then -1 else if y < x then 1 else 0
set_option maxHeartbeats 1000000 in
theorem isNaN_any (x : Int) (w : World) : Calls Tryz.prog 33 #[.int .i64 x] w fun e w' => e = .returned (.bool false) ∧ w' = w := by
  have h1 : (x != x) = false := by simp
  go_enter Tryz.func33, Tryz.ntmps33
  go_wp2_with fail
  go_ret
  exact ⟨rfl, rfl⟩
set_option maxHeartbeats 1000000 in
theorem compare_any (x y : Int) (w : World) : Calls Tryz.prog 15 #[.int .i64 x, .int .i64 y] w fun e w' => e = .returned (.int .i64 (cmpV x y)) ∧ w' = w := by
  have HN : Hid (∀ x w, Calls Tryz.prog 33 #[.int .i64 x] w fun e w' => e = .returned (.bool false) ∧ w' = w) := isNaN_any
  obtain ⟨r, hr⟩ : ∃ r, r = cmpV x y := ⟨_, rfl⟩
  rw [← hr]
  have hr' : Hid (r = cmpV x y) := hr
  clear hr
  by_cases h1 : x < y
  · go_enter Tryz.func15, Tryz.ntmps15
    go_wp2_with fail
    refine (HN.out _ _).mono ?_
    rintro e w1 ⟨rfl, rfl⟩
    go_wp2_with fail
    refine (HN.out _ _).mono ?_
    rintro e w1 ⟨rfl, rfl⟩
    go_wp2_with fail
    go_ret
    refine ⟨?_, rfl⟩
    rw [hr'.out]; simp [cmpV, h1]
  · by_cases h2 : y < x
    · go_enter Tryz.func15, Tryz.ntmps15
      go_wp2_with fail
      refine (HN.out _ _).mono ?_
      rintro e w1 ⟨rfl, rfl⟩
      go_wp2_with fail
      refine (HN.out _ _).mono ?_
      rintro e w1 ⟨rfl, rfl⟩
      go_wp2_with fail
      go_ret
      refine ⟨?_, rfl⟩
      rw [hr'.out]; simp [cmpV, h1, h2]
    · go_enter Tryz.func15, Tryz.ntmps15
      go_wp2_with fail
      refine (HN.out _ _).mono ?_
      rintro e w1 ⟨rfl, rfl⟩
      go_wp2_with fail
      refine (HN.out _ _).mono ?_
      rintro e w1 ⟨rfl, rfl⟩
      go_wp2_with fail
      go_ret
      refine ⟨?_, rfl⟩
      rw [hr'.out]; unfold cmpV; rw [if_neg (by omega), if_neg (by omega)]; rfl
def brI (f t : Nat) : Nat := if t < f then f - 1 else f
def brF (f t : Nat) : Nat := if t < f then f - 1 else f + 1
def brD (f t : Nat) : Nat := (f - t) + (t - f)
def bringR (t : Nat) : Nat → List OpV → Nat → List OpV × Int
  | 0, L, _ => (L, 0)
  | k + 1, L, f => if (transP (L.getD (brI f t) op0) (L.getD (brI f t + 1) op0)).2 ≠ 0 then ([], (transP (L.getD (brI f t) op0) (L.getD (brI f t + 1) op0)).2)
    else bringR t k ((L.set (brI f t) (transP (L.getD (brI f t) op0) (L.getD (brI f t + 1) op0)).1.1).set (brI f t + 1) (transP (L.getD (brI f t) op0) (L.getD (brI f t + 1) op0)).1.2) (brF f t)
def xBring (L : List OpV) (a b : Int) : List OpV × Int :=
  if firstErr L ≠ 0 then ([], firstErr L) else if a < 0 ∨ (L.length : Int) ≤ a ∨ b < 0 ∨ (L.length : Int) ≤ b then ([], 12) else bringR b.toNat (brD a.toNat b.toNat) L a.toNat
structure BrS (fin : List OpV × Int) (n t : Nat) (f : Nat) (L : List OpV) : Prop where
  len : L.length = n
  lt : f < n
  tt : t < n
  rt : ∀ x ∈ L, Right x
  eq : fin = bringR t (brD f t) L f
theorem brs_end {fin : List OpV × Int} {n t : Nat} {L : List OpV} (h : BrS fin n t t L) : fin = (L, 0) := by
  have := h.eq
  rw [show brD t t = 0 by unfold brD; omega] at this
  exact this
theorem brs_at {fin : List OpV × Int} {n t f : Nat} {L : List OpV} (h : BrS fin n t f L) (hne : f ≠ t) : brI f t + 1 < n := by
  have := h.lt
  have := h.tt
  unfold brI
  split <;> omega
theorem brs_next {fin : List OpV × Int} {n t f : Nat} {L : List OpV} (h : BrS fin n t f L) (hne : f ≠ t) {x y : OpV} (hx : L[brI f t]? = some x) (hy : L[brI f t + 1]? = some y) :
    ((transP x y).2 ≠ 0 → fin = ([], (transP x y).2)) ∧ ((transP x y).2 = 0 → BrS fin n t (brF f t) ((L.set (brI f t) (transP x y).1.1).set (brI f t + 1) (transP x y).1.2)) := by
  have ex : L.getD (brI f t) op0 = x := by rw [List.getD_eq_getElem?_getD, hx]; rfl
  have ey : L.getD (brI f t + 1) op0 = y := by rw [List.getD_eq_getElem?_getD, hy]; rfl
  have he := h.eq
  have hd : brD f t = brD (brF f t) t + 1 := by unfold brD brF; split <;> omega
  rw [hd, bringR, ex, ey] at he
  have hl := h.lt
  have ht := h.tt
  refine ⟨fun e => ?_, fun e => ?_⟩
  · rw [if_pos e] at he
    exact he
  · rw [if_neg (fun q => q e)] at he
    have hr := transP_right (h.rt x (List.mem_of_getElem? hx)) (h.rt y (List.mem_of_getElem? hy)) e
    refine ⟨by rw [List.length_set, List.length_set]; exact h.len, ?_, ht, fun z hz => ?_, he⟩
    · unfold brF; split <;> omega
    · rcases List.mem_or_eq_of_mem_set hz with hz | rfl
      · rcases List.mem_or_eq_of_mem_set hz with hz | rfl
        · exact h.rt z hz
        · exact hr.1
      · exact hr.2
end Go.Proofs.YtmdnmhdimfglaaaGreatDoor
