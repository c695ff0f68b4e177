import Derived.Test.YtelcjhflopgojaaDoorMgB
/-! Follow of an insert. -/
namespace Go.Proofs.YtelcjhflopgojaaDoor
open Go.RowKit Go.Lib Sp
set_option maxRecDepth 100000

set_option maxHeartbeats 16000000 in
theorem follow_ins {w : World} {p b t ck m cap q wd : Nat} {xs : List X} {a : Option Addr} {o : OpV} (h : BookAt w p b t xs ck) (hr : Rng w a m cap o.l) (hs : o.s.size ≤ 9223372036854775807) (hw : Bar w) (he : eqP o zeroOp = false) (hck : opCheck o t = 0) (hk : o.k = 1) (hq : o.p = (q : Int)) (hwd : widthP o = (wd : Int)) (ht : t + wd ≤ 4611686018427387904) (hx : ∀ x ∈ xs, x.lo + wd ≤ 4611686018427387904 ∧ x.hi + wd ≤ 4611686018427387904) :
    Calls Tryd.prog 7 #[.pointer (some ⟨p, 0, none⟩), opVal o (.slice a m cap)] w fun e w' => e = .returned (.int .i64 0) ∧ BookAt w' p b (t + wd) (xs.map (mvX q wd)) ck ∧ Chg (fun g => Blk p b xs g) w w' := by
  obtain ⟨c, n, k, q', s, l, tc, tn, on⟩ := o
  simp only at *
  subst hk hq
  have hB0 : Below w.heap.size w (w.alloc (.cells #[.int .i64 c, .int .i64 n, .int .i64 1, .int .i64 (q : Int), .string s, .slice a m cap, .int .i64 tc, .int .i64 tn, .bool on] 37)) := below_alloc0 _ _
  have hx00 : (w.alloc (.cells #[.int .i64 c, .int .i64 n, .int .i64 1, .int .i64 (q : Int), .string s, .slice a m cap, .int .i64 tc, .int .i64 tn, .bool on] 37)).heap[w.heap.size]? = some (.cells #[.int .i64 c, .int .i64 n, .int .i64 1, .int .i64 (q : Int), .string s, .slice a m cap, .int .i64 tc, .int .i64 tn, .bool on] 37) := heap_alloc_new _ _
  have HEq : Hid (Calls Tryd.prog 12 #[.agg #[.int .i64 c, .int .i64 n, .int .i64 1, .int .i64 (q : Int), .string s, .slice a m cap, .int .i64 tc, .int .i64 tn, .bool on], .agg #[.int .i64 0, .int .i64 0, .int .i64 0, .int .i64 0, .string ⟨#[]⟩, .slice none 0 0, .int .i64 0, .int .i64 0, .bool false]] (w.alloc (.cells #[.int .i64 c, .int .i64 n, .int .i64 1, .int .i64 (q : Int), .string s, .slice a m cap, .int .i64 tc, .int .i64 tn, .bool on] 37)) fun e w' => e = .returned (.bool false) ∧ Below (w.alloc (.cells #[.int .i64 c, .int .i64 n, .int .i64 1, .int .i64 (q : Int), .string s, .slice a m cap, .int .i64 tc, .int .i64 tn, .bool on] 37)).heap.size (w.alloc (.cells #[.int .i64 c, .int .i64 n, .int .i64 1, .int .i64 (q : Int), .string s, .slice a m cap, .int .i64 tc, .int .i64 tn, .bool on] 37)) w') := by
    have hc := opEqual_any (o := ⟨c, n, 1, (q : Int), s, l, tc, tn, on⟩) (x := zeroOp) (hr.below hB0) (rng_nil (w.alloc (.cells #[.int .i64 c, .int .i64 n, .int .i64 1, .int .i64 (q : Int), .string s, .slice a m cap, .int .i64 tc, .int .i64 tn, .bool on] 37)))
    rw [he] at hc
    exact hc
  have HCk : Hid (∀ V, ∀ V0, Below w.heap.size w V0 → Below V0.heap.size V0 V → Calls Tryd.prog 13 #[.agg #[.int .i64 c, .int .i64 n, .int .i64 1, .int .i64 (q : Int), .string s, .slice a m cap, .int .i64 tc, .int .i64 tn, .bool on], .int .i64 (t : Int)] V fun e w' => e = .returned (.int .i64 0) ∧ Below V.heap.size V w') := fun V V0 h0 h1 => by
    have hbV := h0.trans (h1.mono h0.size)
    have hc := opCheck_any (o := ⟨c, n, 1, (q : Int), s, l, tc, tn, on⟩) (total := (t : Int)) (hr.below hbV) hs (hw.below hbV)
    rw [hck] at hc
    exact hc
  have HWd0 : Hid (∀ V, Below w.heap.size w V → Calls Tryd.prog 15 #[.agg #[.int .i64 c, .int .i64 n, .int .i64 1, .int .i64 (q : Int), .string s, .slice a m cap, .int .i64 tc, .int .i64 tn, .bool on]] V fun e w' => e = .returned (.int .i64 (wd : Int)) ∧ Below V.heap.size V w') := fun V hV => by
    have hc := width_any (o := ⟨c, n, 1, (q : Int), s, l, tc, tn, on⟩) (v := .slice a m cap) hs (hw.below hV)
    rw [hwd] at hc
    exact hc
  have HTX : Hid (t + wd ≤ 4611686018427387904 ∧ ∀ x ∈ xs, x.lo + wd ≤ 4611686018427387904 ∧ x.hi + wd ≤ 4611686018427387904) := ⟨ht, hx⟩
  clear ht hx hwd
  have hp0 := (box2 h.box).1
  have hpl0 := h.lt (.inl rfl)
  obtain ⟨bx, hbx⟩ : ∃ bx, bx = w.heap.size := ⟨_, rfl⟩
  have hx0 : (w.alloc (.cells #[.int .i64 c, .int .i64 n, .int .i64 1, .int .i64 (q : Int), .string s, .slice a m cap, .int .i64 tc, .int .i64 tn, .bool on] 37)).heap[bx]? = some (.cells #[.int .i64 c, .int .i64 n, .int .i64 1, .int .i64 (q : Int), .string s, .slice a m cap, .int .i64 tc, .int .i64 tn, .bool on] 37) := by rw [hbx]; exact hx00
  have HH : Hid (Below w.heap.size w (w.alloc (.cells #[.int .i64 c, .int .i64 n, .int .i64 1, .int .i64 (q : Int), .string s, .slice a m cap, .int .i64 tc, .int .i64 tn, .bool on] 37)) ∧ BookAt w p b t xs ck) := ⟨hB0, h⟩
  simp only [opVal]
  clear hr he hck hx00 hs hw h
  go_enter Tryd.func7, Tryd.ntmps7
  go_wp2_with fail
  refine HEq.out.mono ?_
  rintro e w1 ⟨rfl, hb1⟩
  have hbx1 : w1.heap[bx]? = some (.cells #[.int .i64 c, .int .i64 n, .int .i64 1, .int .i64 (q : Int), .string s, .slice a m cap, .int .i64 tc, .int .i64 tn, .bool on] 37) := (hb1.block bx (by rw [hbx, World.size_alloc]; exact Nat.lt_succ_self _)).trans hx0
  obtain ⟨c0, c1, c2, c3, c4, c5, c6, c7, c8⟩ := box9 hbx1
  have hbw1 : Below w.heap.size w w1 := hB0.trans (hb1.mono hB0.size)
  have p0 : w1.cell? ⟨p, 0, none⟩ = some (.int .i64 (t : Int)) := (hbw1.cell (p := ⟨p, 0, none⟩) hpl0).trans hp0
  have hbl : bx < w1.drew.heap.size := (Array.getElem?_eq_some_iff.1 hbx1).1
  have hpl : p < w1.drew.heap.size := Nat.lt_of_lt_of_le hpl0 hbw1.size
  have HW1 : Hid (Below w.heap.size w w1) := hbw1
  have HCk1 : Hid (∀ V, Below w1.heap.size w1 V → Calls Tryd.prog 13 #[.agg #[.int .i64 c, .int .i64 n, .int .i64 1, .int .i64 (q : Int), .string s, .slice a m cap, .int .i64 tc, .int .i64 tn, .bool on], .int .i64 (t : Int)] V fun e w' => e = .returned (.int .i64 0) ∧ Below V.heap.size V w') := fun V hV => HCk.out V w1 HW1.out hV
  rw [← hbx]
  have HBX : Hid (bx = w.heap.size) := hbx
  clear hbx hb1 hx0 hB0 hbx1 hbw1 hp0 HCk
  rename Hid (∀ V, Below w1.heap.size w1 V → _) => HCk
  go_upto_region 3 with fail
  refine wp_region_held_drew (S := (fun V => V.cell? ⟨bx, 0, none⟩ = some (.int .i64 c) ∧ V.cell? ⟨bx, 1, none⟩ = some (.int .i64 n) ∧ V.cell? ⟨bx, 2, none⟩ = some (.int .i64 1) ∧ V.cell? ⟨bx, 3, none⟩ = some (.int .i64 (q : Int)) ∧ V.cell? ⟨bx, 4, none⟩ = some (.string s) ∧ V.cell? ⟨bx, 5, none⟩ = some (.slice a m cap) ∧ V.cell? ⟨bx, 6, none⟩ = some (.int .i64 tc) ∧ V.cell? ⟨bx, 7, none⟩ = some (.int .i64 tn) ∧ V.cell? ⟨bx, 8, none⟩ = some (.bool on) ∧ V.cell? ⟨p, 0, none⟩ = some (.int .i64 (t : Int)))) (by kernel_rfl) ?hS1 (fun hHeld => ?rest1)
  case hS1 => exact ⟨c0, c1, c2, c3, c4, c5, c6, c7, c8, p0⟩
  refine takeD (i := 0) (d := some 9) (v := ?vT2) rfl rfl (by kernel_rfl) (by kernel_rfl) (by kernel_rfl) (fun _ _ _ h => h) (Or.inl ⟨by rfl, ?hyT2⟩) (by assumption) ?rstT2
  case hyT2 => (intro w hSw; (try dsimp only at hSw); obtain ⟨k0, k1, k2, k3, k4, k5, k6, k7, k8, k9⟩ := hSw; go_simp; (try with_reducible rfl))
  try simp only [Act.put, List.setIfInBounds_toArray, List.set_cons_zero, List.set_cons_succ]
  refine takeD (i := 1) (d := some 10) (v := ?vT3) rfl rfl (by kernel_rfl) (by kernel_rfl) (by kernel_rfl) (fun _ _ _ h => h) (Or.inl ⟨by rfl, ?hyT3⟩) (by assumption) ?rstT3
  case hyT3 => (intro w hSw; (try dsimp only at hSw); obtain ⟨k0, k1, k2, k3, k4, k5, k6, k7, k8, k9⟩ := hSw; go_simp; (try with_reducible rfl))
  try simp only [Act.put, List.setIfInBounds_toArray, List.set_cons_zero, List.set_cons_succ]
  refine takeD (i := 2) (d := some 11) (v := ?vT4) rfl rfl (by kernel_rfl) (by kernel_rfl) (by kernel_rfl) (fun _ _ _ h => h) (Or.inl ⟨by rfl, ?hyT4⟩) (by assumption) ?rstT4
  case hyT4 => (intro w hSw; (try dsimp only at hSw); obtain ⟨k0, k1, k2, k3, k4, k5, k6, k7, k8, k9⟩ := hSw; go_simp; (try with_reducible rfl))
  try simp only [Act.put, List.setIfInBounds_toArray, List.set_cons_zero, List.set_cons_succ]
  refine takeD (i := 3) (d := some 12) (v := ?vT5) rfl rfl (by kernel_rfl) (by kernel_rfl) (by kernel_rfl) (fun _ _ _ h => h) (Or.inl ⟨by rfl, ?hyT5⟩) (by assumption) ?rstT5
  case hyT5 => (intro w hSw; (try dsimp only at hSw); obtain ⟨k0, k1, k2, k3, k4, k5, k6, k7, k8, k9⟩ := hSw; go_simp; (try with_reducible rfl))
  try simp only [Act.put, List.setIfInBounds_toArray, List.set_cons_zero, List.set_cons_succ]
  refine takeD (i := 4) (d := some 13) (v := ?vT6) rfl rfl (by kernel_rfl) (by kernel_rfl) (by kernel_rfl) (fun _ _ _ h => h) (Or.inl ⟨by rfl, ?hyT6⟩) (by assumption) ?rstT6
  case hyT6 => (intro w hSw; (try dsimp only at hSw); obtain ⟨k0, k1, k2, k3, k4, k5, k6, k7, k8, k9⟩ := hSw; go_simp; (try with_reducible rfl))
  try simp only [Act.put, List.setIfInBounds_toArray, List.set_cons_zero, List.set_cons_succ]
  refine wpAnyH_ready (rs := [5]) (by kernel_rfl) (by simp) ?_
  refine AllReadyH.cons rfl (fun K hK => ?_) AllReadyH.nil
  go_simp
  refine (HCk.out _ ?_).mono ?_
  case refine_1 => exact below_drewN (Below.refl _ _) 1
  rintro e w2 ⟨rfl, hb2⟩
  have hK0 := hHeld; clear hHeld
  refine hK.out _ _ ?hS7 (fun hHeld => ?rest7)
  case hS7 => (exact ⟨(hb2.cell (p := ⟨bx, 0, none⟩) hbl).trans hK0.1, (hb2.cell (p := ⟨bx, 1, none⟩) hbl).trans hK0.2.1, (hb2.cell (p := ⟨bx, 2, none⟩) hbl).trans hK0.2.2.1, (hb2.cell (p := ⟨bx, 3, none⟩) hbl).trans hK0.2.2.2.1, (hb2.cell (p := ⟨bx, 4, none⟩) hbl).trans hK0.2.2.2.2.1, (hb2.cell (p := ⟨bx, 5, none⟩) hbl).trans hK0.2.2.2.2.2.1, (hb2.cell (p := ⟨bx, 6, none⟩) hbl).trans hK0.2.2.2.2.2.2.1, (hb2.cell (p := ⟨bx, 7, none⟩) hbl).trans hK0.2.2.2.2.2.2.2.1, (hb2.cell (p := ⟨bx, 8, none⟩) hbl).trans hK0.2.2.2.2.2.2.2.2.1, (hb2.cell (p := ⟨p, 0, none⟩) hpl).trans hK0.2.2.2.2.2.2.2.2.2⟩)
  clear hK K
  try simp only [Act.put, List.setIfInBounds_toArray, List.set_cons_zero, List.set_cons_succ]
  refine takeD (i := 6) (d := some 5) (v := ?vT8) rfl rfl (by kernel_rfl) (by kernel_rfl) (by kernel_rfl) (fun _ _ _ h => h) (Or.inl ⟨by rfl, ?hyT8⟩) (by assumption) ?rstT8
  case hyT8 => (intro w hSw; (try dsimp only at hSw); go_simp; (try with_reducible rfl))
  try simp only [Act.put, List.setIfInBounds_toArray, List.set_cons_zero, List.set_cons_succ]
  refine wpAnyH_done (by kernel_rfl) ?_ _
  have HB2 : Hid (Below w.heap.size w w2) := HW1.out.trans (((Below.refl _ w1).drew.trans hb2).mono HW1.out.size)
  have HLB : Hid (bx < w2.heap.size ∧ bx = w.heap.size) := ⟨Nat.lt_of_lt_of_le hbl hb2.size, HBX.out⟩
  obtain ⟨j0, j1, j2, j3, j4, j5, j6, j7, j8, jp⟩ := hHeld
  clear c0 c1 c2 c3 c4 c5 c6 c7 c8 p0
  clear jp HCk hb2 hK0
  go_upto_region 10 with fail
  have HWd : Hid (∀ V, Below w2.heap.size w2 V → Calls Tryd.prog 15 #[.agg #[.int .i64 c, .int .i64 n, .int .i64 1, .int .i64 (q : Int), .string s, .slice a m cap, .int .i64 tc, .int .i64 tn, .bool on]] V fun e w' => e = .returned (.int .i64 (wd : Int)) ∧ Below V.heap.size V w') := fun V hV => HWd0.out V (HB2.out.trans (hV.mono HB2.out.size))
  have HB3 : Hid (∀ w3, Below w2.drew.heap.size w2.drew w3 → BookAt w3 p b t xs ck ∧ Below w.heap.size w w3) := fun w3 hb3 => by
    have h1 : Below w.heap.size w w3 := HB2.out.trans (((Below.refl _ w2).drew.trans hb3).mono HB2.out.size)
    exact ⟨HH.out.2.below h1, h1⟩
  have HMr : Hid (∀ w3, (BookAt w3 p b t xs ck ∧ Below w.heap.size w w3) → Calls Tryd.prog 14 #[.pointer (some ⟨p, 0, none⟩), .int .i64 (q : Int), .int .i64 (wd : Int)] w3 fun e w' => e = .returned (.tuple #[]) ∧ BookAt w' p b (t + wd) (xs.map (mvX q wd)) ck ∧ Chg (fun g => Blk p b xs g) w3 w') := fun w3 h3 => makeRoom_any h3.1 HTX.out.1 HTX.out.2
  have HP3 : Hid (∀ w3, Below w2.drew.heap.size w2.drew w3 → ∀ i : Nat, w3.cell? ⟨bx, i, none⟩ = w2.drew.cell? ⟨bx, i, none⟩) := fun w3 hb3 i => hb3.cell (p := ⟨bx, i, none⟩) HLB.out.1
  have HP4 : Hid (∀ w3 w4, Below w2.drew.heap.size w2.drew w3 → Chg (fun g => Blk p b xs g) w3 w4 → ∀ i : Nat, w4.cell? ⟨bx, i, none⟩ = w3.cell? ⟨bx, i, none⟩) := fun w3 w4 hb3 hC i => hC.cell (p := ⟨bx, i, none⟩) (Nat.lt_of_lt_of_le HLB.out.1 hb3.size) (fun e => by
    have h1 : bx < w.heap.size := HH.out.2.lt e
    have := HLB.out.2
    omega)
  refine wp_region_held_drew (S := (fun V => V.cell? ⟨bx, 0, none⟩ = some (.int .i64 c) ∧ V.cell? ⟨bx, 1, none⟩ = some (.int .i64 n) ∧ V.cell? ⟨bx, 2, none⟩ = some (.int .i64 1) ∧ V.cell? ⟨bx, 3, none⟩ = some (.int .i64 (q : Int)) ∧ V.cell? ⟨bx, 4, none⟩ = some (.string s) ∧ V.cell? ⟨bx, 5, none⟩ = some (.slice a m cap) ∧ V.cell? ⟨bx, 6, none⟩ = some (.int .i64 tc) ∧ V.cell? ⟨bx, 7, none⟩ = some (.int .i64 tn) ∧ V.cell? ⟨bx, 8, none⟩ = some (.bool on))) (by kernel_rfl) ?hS9 (fun hHeld => ?rest9)
  case hS9 => exact ⟨j0, j1, j2, j3, j4, j5, j6, j7, j8⟩
  refine takeD (i := 0) (d := some 25) (v := ?vT10) rfl rfl (by kernel_rfl) (by kernel_rfl) (by kernel_rfl) (fun _ _ _ h => h) (Or.inl ⟨by rfl, ?hyT10⟩) (by assumption) ?rstT10
  case hyT10 => (intro w hSw; (try dsimp only at hSw); obtain ⟨k0, k1, k2, k3, k4, k5, k6, k7, k8⟩ := hSw; go_simp; (try with_reducible rfl))
  try simp only [Act.put, List.setIfInBounds_toArray, List.set_cons_zero, List.set_cons_succ]
  refine takeD (i := 1) (d := some 26) (v := ?vT11) rfl rfl (by kernel_rfl) (by kernel_rfl) (by kernel_rfl) (fun _ _ _ h => h) (Or.inl ⟨by rfl, ?hyT11⟩) (by assumption) ?rstT11
  case hyT11 => (intro w hSw; (try dsimp only at hSw); obtain ⟨k0, k1, k2, k3, k4, k5, k6, k7, k8⟩ := hSw; go_simp; (try with_reducible rfl))
  try simp only [Act.put, List.setIfInBounds_toArray, List.set_cons_zero, List.set_cons_succ]
  refine takeD (i := 2) (d := some 27) (v := ?vT12) rfl rfl (by kernel_rfl) (by kernel_rfl) (by kernel_rfl) (fun _ _ _ h => h) (Or.inl ⟨by rfl, ?hyT12⟩) (by assumption) ?rstT12
  case hyT12 => (intro w hSw; (try dsimp only at hSw); obtain ⟨k0, k1, k2, k3, k4, k5, k6, k7, k8⟩ := hSw; go_simp; (try with_reducible rfl))
  try simp only [Act.put, List.setIfInBounds_toArray, List.set_cons_zero, List.set_cons_succ]
  refine takeD (i := 3) (d := some 28) (v := ?vT13) rfl rfl (by kernel_rfl) (by kernel_rfl) (by kernel_rfl) (fun _ _ _ h => h) (Or.inl ⟨by rfl, ?hyT13⟩) (by assumption) ?rstT13
  case hyT13 => (intro w hSw; (try dsimp only at hSw); obtain ⟨k0, k1, k2, k3, k4, k5, k6, k7, k8⟩ := hSw; go_simp; (try with_reducible rfl))
  try simp only [Act.put, List.setIfInBounds_toArray, List.set_cons_zero, List.set_cons_succ]
  refine wpAnyH_ready (rs := [4]) (by kernel_rfl) (by simp) ?_
  refine AllReadyH.cons rfl (fun K hK => ?_) AllReadyH.nil
  go_simp
  refine (HWd.out _ ?_).mono ?_
  case refine_1 => exact below_drewN (Below.refl _ _) 1
  rintro e w3 ⟨rfl, hb3⟩
  have hK0 := hHeld; clear hHeld
  refine hK.out _ _ ?hS14 (fun hHeld => ?rest14)
  case hS14 => (exact ⟨(HP3.out w3 hb3 0).trans hK0.1, (HP3.out w3 hb3 1).trans hK0.2.1, (HP3.out w3 hb3 2).trans hK0.2.2.1, (HP3.out w3 hb3 3).trans hK0.2.2.2.1, (HP3.out w3 hb3 4).trans hK0.2.2.2.2.1, (HP3.out w3 hb3 5).trans hK0.2.2.2.2.2.1, (HP3.out w3 hb3 6).trans hK0.2.2.2.2.2.2.1, (HP3.out w3 hb3 7).trans hK0.2.2.2.2.2.2.2.1, (HP3.out w3 hb3 8).trans hK0.2.2.2.2.2.2.2.2⟩)
  clear hK K
  try simp only [Act.put, List.setIfInBounds_toArray, List.set_cons_zero, List.set_cons_succ]
  refine wpAnyH_ready (rs := [5]) (by kernel_rfl) (by simp) ?_
  refine AllReadyH.cons rfl (fun K hK => ?_) AllReadyH.nil
  go_simp
  refine (HMr.out _ (HB3.out w3 hb3)).mono ?_
  rintro e w4 ⟨rfl, hbk4, hC4⟩
  have hK0 := hHeld; clear hHeld
  refine hK.out _ _ ?hS15 (fun hHeld => ?rest15)
  case hS15 => (exact ⟨(HP4.out w3 w4 hb3 hC4 0).trans hK0.1, (HP4.out w3 w4 hb3 hC4 1).trans hK0.2.1, (HP4.out w3 w4 hb3 hC4 2).trans hK0.2.2.1, (HP4.out w3 w4 hb3 hC4 3).trans hK0.2.2.2.1, (HP4.out w3 w4 hb3 hC4 4).trans hK0.2.2.2.2.1, (HP4.out w3 w4 hb3 hC4 5).trans hK0.2.2.2.2.2.1, (HP4.out w3 w4 hb3 hC4 6).trans hK0.2.2.2.2.2.2.1, (HP4.out w3 w4 hb3 hC4 7).trans hK0.2.2.2.2.2.2.2.1, (HP4.out w3 w4 hb3 hC4 8).trans hK0.2.2.2.2.2.2.2.2⟩)
  clear hK K
  try simp only [Act.put, List.setIfInBounds_toArray, List.set_cons_zero, List.set_cons_succ]
  refine wpAnyH_done (by kernel_rfl) ?_ _
  have HE : Hid (BookAt w4 p b (t + wd) (xs.map (mvX q wd)) ck ∧ Chg (fun g => Blk p b xs g) w w4) := ⟨hbk4, (Chg.of_below (HB3.out w3 hb3).2).trans hC4⟩
  clear hbk4 hC4 hb3 hK0
  go_wp2_with fail
  go_ret
  exact ⟨rfl, HE.out⟩
end Go.Proofs.YtelcjhflopgojaaDoor
