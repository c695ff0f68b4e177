import Derived.Test.YtokkodkhkpgebaaDoorKcH
import Derived.Test.YtokkodkhkpgebaaDoorKcI
import Derived.Test.YtokkodkhkpgebaaDoorKcJ
import Derived.Test.YtokkodkhkpgebaaDoorKcK
/-! StacksDid at ids that are not taken; StacksDid. -/
namespace Go.Proofs.YtokkodkhkpgebaaDoor
open Go.RowKit Go.Lib
set_option maxRecDepth 100000

set_option maxHeartbeats 16000000 in
theorem did_bad {a b : Int} (hc : ¬ (1 ≤ a ∧ a ≤ 8 ∧ 1 ≤ b ∧ b ≤ 1024)) {w : World} (hw : Bar w) :
    Calls Tryd.prog 3 #[.agg #[.int .i64 a, .int .i64 b]] w fun e w' => e = .returned (.bool true) ∧ Below w.heap.size w w' := by
  have HG : Tryd.prog.eqGuardType Tryd.prog.depth 23 = false := by kernel_rfl
  obtain ⟨w1, hw1⟩ : ∃ w1, w.alloc (.cells #[.int .i64 a, .int .i64 b] 23) = w1 := ⟨_, rfl⟩
  have k1 : Below w.heap.size w w1 := by rw [← hw1]; exact (Below.refl _ _).alloc (Nat.le_refl _) _
  have hq1 : w1.heap[w.heap.size]? = some (.cells #[.int .i64 a, .int .i64 b] 23) := by rw [← hw1]; exact heap_alloc_new _ _
  have lq1 : w.heap.size < w1.heap.size := (Array.getElem?_eq_some_iff.1 hq1).1
  have HA := arrivedX (hw.below k1)
  clear hw
  go_enter Tryd.func3, Tryd.ntmps3
  go_wp2_with fail
  refine HA.mono ?_
  rintro e X ⟨u, s, h, r, oa, oc, na, nc, pa, pc, P, rfl, hU0, hgs, hgP, hbX⟩
  clear HA hw1
  have hU := hU0.monoK (K' := (fun g => g = w.heap.size)) (fun g hg => by rw [hg]; exact lq1)
  have hq := (hbX.block w.heap.size lq1).trans hq1
  have hk1 : Below w.heap.size w X := k1.trans (hbX.mono k1.size)
  obtain ⟨⟨lu1, lu2⟩, -⟩ := hU.lo
  have lP := hU.le
  have lqX : w.heap.size < X.heap.size := (Array.getElem?_eq_some_iff.1 hq).1
  have hC : Chg (fun g => g = s ∨ P ≤ g) X X := Chg.refl _ _
  clear hU0 hq1 hbX
  have hnm : namedP (a, b) = false := decide_eq_false hc
  have HD1 : Hid (∀ W, Usr W u s h r oa oc na nc pa pc P [(1, 1)] [] (fun g => g = w.heap.size) → Calls Tryd.prog 7 #[.pointer (some ⟨s, 0, none⟩), (.agg #[.int .i64 a, .int .i64 b])] W fun e W' => e = .returned (.int .i64 41) ∧ UsrP W u s h r oa oc na nc pa pc P [(1, 1)] [] (fun g => g = w.heap.size) W') := fun W hW => by
    have hh := hW.did (by simp) (a, b)
    rw [show didP [(1, 1)] [] (a, b) = (41, [(1, 1)], []) from by unfold didP; rw [if_neg (by rw [hnm]; simp)]] at hh
    exact hh
  have HD2 : Hid (∀ W, Usr W u s h r oa oc na nc pa pc P [(1, 1)] [] (fun g => g = w.heap.size) → Calls Tryd.prog 7 #[.pointer (some ⟨s, 0, none⟩), (.agg #[.int .i64 a, .int .i64 b])] W fun e W' => e = .returned (.int .i64 41) ∧ UsrP W u s h r oa oc na nc pa pc P [(1, 1)] [] (fun g => g = w.heap.size) W') := fun W hW => by
    have hh := hW.did (by simp) (a, b)
    rw [show didP [(1, 1)] [] (a, b) = (41, [(1, 1)], []) from by unfold didP; rw [if_neg (by rw [hnm]; simp)]] at hh
    exact hh
  have HU : Hid (∀ W K, Usr W u s h r oa oc na nc pa pc P [(1, 1)] [] K → Calls Tryd.prog 8 #[.pointer (some ⟨s, 0, none⟩), .pointer (some ⟨h, 0, none⟩)] W fun e W' => e = .returned (.tuple #[idA (1, 1), .int .i64 0]) ∧ UsrP W u s h r oa oc na nc pa pc P ([] : List (Int × Int)) [(1, 1)] K W') := fun W K hW => hW.undo (by simp) (by decide)
  have HD3 : Hid (∀ W k, Usr W u s h r oa oc na nc pa pc P ([] : List (Int × Int)) [(1, 1)] (fun g => g = w.heap.size ∨ g = k) → Calls Tryd.prog 7 #[.pointer (some ⟨s, 0, none⟩), (.agg #[.int .i64 1, .int .i64 1])] W fun e W' => e = .returned (.int .i64 61) ∧ UsrP W u s h r oa oc na nc pa pc P ([] : List (Int × Int)) [(1, 1)] (fun g => g = w.heap.size ∨ g = k) W') := fun W k hW => by
    have hh := hW.did (by simp) (1, 1)
    rw [show didP ([] : List (Int × Int)) [(1, 1)] (1, 1) = (61, ([] : List (Int × Int)), [(1, 1)]) from by decide] at hh
    exact hh
  have HD4 : Hid (∀ W k, Usr W u s h r oa oc na nc pa pc P ([] : List (Int × Int)) [(1, 1)] (fun g => g = w.heap.size ∨ g = k) → Calls Tryd.prog 7 #[.pointer (some ⟨s, 0, none⟩), (.agg #[.int .i64 5, .int .i64 5])] W fun e W' => e = .returned (.int .i64 0) ∧ UsrP W u s h r oa oc na nc pa pc P [(5, 5)] [] (fun g => g = w.heap.size ∨ g = k) W') := fun W k hW => by
    have hh := hW.did (by simp) (5, 5)
    rw [show didP ([] : List (Int × Int)) [(1, 1)] (5, 5) = (0, [(5, 5)], []) from by decide] at hh
    exact hh
  have HD5 : Hid (∀ W k, Usr W u s h r oa oc na nc pa pc P [(5, 5)] [] (fun g => g = w.heap.size ∨ g = k) → Calls Tryd.prog 7 #[.pointer (some ⟨s, 0, none⟩), (.agg #[.int .i64 1, .int .i64 1])] W fun e W' => e = .returned (.int .i64 0) ∧ UsrP W u s h r oa oc na nc pa pc P [(5, 5), (1, 1)] [] (fun g => g = w.heap.size ∨ g = k) W') := fun W k hW => by
    have hh := hW.did (by simp) (1, 1)
    rw [show didP [(5, 5)] [] (1, 1) = (0, [(5, 5), (1, 1)], []) from by decide] at hh
    exact hh
  have heq1 : ∀ W : World, (Op.equalIn 10000 23 (.agg #[.int .i64 a, .int .i64 b]) (.agg #[.int .i64 1, .int .i64 1])).run Tryd.prog W = .ok false W := fun W => by rw [run_eqI]; rw [show (a == 1 && b == 1) = false from by simp; omega]
  have heq5 : ∀ W : World, (Op.equalIn 10000 23 (.agg #[.int .i64 a, .int .i64 b]) (.agg #[.int .i64 5, .int .i64 5])).run Tryd.prog W = .ok false W := fun W => by rw [run_eqI]; rw [show (a == 5 && b == 5) = false from by simp; omega]
  have heq11 : ∀ W : World, (Op.equalIn 10000 23 (.agg #[.int .i64 1, .int .i64 1]) (.agg #[.int .i64 1, .int .i64 1])).run Tryd.prog W = .ok true W := fun W => by rw [run_eqI]; rfl
  obtain ⟨X0, hX0⟩ : ∃ x, x = X := ⟨_, rfl⟩
  have hk1 : Below w.heap.size w X0 := by rw [hX0]; exact hk1
  have hC : Chg (fun g => g = s ∨ P ≤ g) X0 X := by rw [hX0]; exact hC
  have hsz0 : w.heap.size ≤ X0.heap.size := hk1.size
  clear hX0
  obtain ⟨ve, sq, ot, hub⟩ := hU.box
  obtain ⟨c0, c1, c2, c3, c4⟩ := box5 hub
  obtain ⟨q0, q1⟩ := box2 hq
  go_upto_region 4 with fail
  go_cut [5] (fun v5 wx => v5 = .bool false ∧ wx = X)
  case first =>
    by_cases h1 : 1 ≤ a
    · have g1 : decide (1 ≤ a) = true := decide_eq_true h1
      by_cases h2 : a ≤ 8
      · have g2 : decide (a ≤ 8) = true := decide_eq_true h2
        by_cases h3 : 1 ≤ b
        · have g3 : decide (1 ≤ b) = true := decide_eq_true h3
          have g4 : decide (b ≤ 1024) = false := decide_eq_false (fun h4 => hc ⟨h1, h2, h3, h4⟩)
          go_wp2_with fail
          go_meet
          case rel => exact ⟨rfl, rfl⟩
        · have g3 : decide (1 ≤ b) = false := decide_eq_false h3
          go_wp2_with fail
          go_meet
          case rel => exact ⟨rfl, rfl⟩
      · have g2 : decide (a ≤ 8) = false := decide_eq_false h2
        go_wp2_with fail
        go_meet
        case rel => exact ⟨rfl, rfl⟩
    · have g1 : decide (1 ≤ a) = false := decide_eq_false h1
      go_wp2_with fail
      go_meet
      case rel => exact ⟨rfl, rfl⟩
  case rest =>
    obtain ⟨rfl, hwc⟩ := hcut
    obtain rfl : X = wc := hwc.symm
    go_wp2_with fail
    have HD1u := HD1.out X.drew (hU.below (Below.refl _ _).drew)
    have HD1v : Hid (Calls Tryd.prog 7 #[.pointer (some ⟨s, 0, none⟩), (.agg #[.int .i64 a, .int .i64 b])] X.drew fun e W' => e = .returned (.int .i64 41) ∧ Usr W' u s h r oa oc na nc pa pc P [(1, 1)] [] (fun g => g = w.heap.size) ∧ (∀ g, (fun g => g = w.heap.size) g → W'.heap[g]? = X.heap[g]?) ∧ Chg (fun g => g = s ∨ P ≤ g) X W') := HD1u.mono fun e W' ⟨h1, h2, h3, h4⟩ => ⟨h1, h2, h3, (Chg.of_below (Below.refl _ _).drew).trans h4⟩
    clear HD1u
    refine wp_region_held_drew (S := (fun W => ∀ p : Addr, (p.block = u ∨ p.block = w.heap.size) → W.cell? p = X.cell? p)) (by kernel_rfl) ?hS271 (fun hHeld => ?rest271)
    case hS271 => (intro p hp; rfl)
    refine takeD (i := 0) (d := some 48) (v := ?vT272) rfl rfl (by kernel_rfl) (by kernel_rfl) (by kernel_rfl) (fun _ _ _ h => h) (Or.inl ⟨by rfl, ?hyT272⟩) (by assumption) ?rstT272
    case hyT272 => (intro w hSw; (try dsimp only at hSw); go_simp; (try with_reducible rfl))
    try simp only [Act.put, List.setIfInBounds_toArray, List.set_cons_zero, List.set_cons_succ]
    refine takeD (i := 1) (d := some 49) (v := ?vT273) rfl rfl (by kernel_rfl) (by kernel_rfl) (by kernel_rfl) (fun _ _ _ h => h) (Or.inl ⟨by rfl, ?hyT273⟩) (by assumption) ?rstT273
    case hyT273 => (intro w hSw; (try dsimp only at hSw); go_simp; (try with_reducible rfl))
    try simp only [Act.put, List.setIfInBounds_toArray, List.set_cons_zero, List.set_cons_succ]
    refine takeD (i := 2) (d := some 50) (v := ?vT274) rfl rfl (by kernel_rfl) (by kernel_rfl) (by kernel_rfl) (fun _ _ _ h => h) (Or.inl ⟨by rfl, ?hyT274⟩) (by assumption) ?rstT274
    case hyT274 => (intro w hSw; (try dsimp only at hSw); go_simp; (try with_reducible rfl))
    try simp only [Act.put, List.setIfInBounds_toArray, List.set_cons_zero, List.set_cons_succ]
    refine takeD (i := 3) (d := some 51) (v := ?vT275) rfl rfl (by kernel_rfl) (by kernel_rfl) (by kernel_rfl) (fun _ _ _ h => h) (Or.inl ⟨by rfl, ?hyT275⟩) (by assumption) ?rstT275
    case hyT275 => (intro w hSw; (try dsimp only at hSw); go_simp; (try with_reducible rfl))
    try simp only [Act.put, List.setIfInBounds_toArray, List.set_cons_zero, List.set_cons_succ]
    refine takeD (i := 4) (d := some 52) (v := ?vT276) rfl rfl (by kernel_rfl) (by kernel_rfl) (by kernel_rfl) (fun _ _ _ h => h) (Or.inl ⟨by rfl, ?hyT276⟩) (by assumption) ?rstT276
    case hyT276 => (intro w hSw; (try dsimp only at hSw); go_simp; (try with_reducible rfl))
    try simp only [Act.put, List.setIfInBounds_toArray, List.set_cons_zero, List.set_cons_succ]
    refine wpAnyH_ready (rs := [5]) (by kernel_rfl) (by simp) ?_
    refine AllReadyH.cons rfl (fun K hK => ?_) AllReadyH.nil
    go_simp
    refine HD1v.out.mono ?_
    rintro e2 wd ⟨rfl, hUd, hKd, hCd⟩
    clear hHeld
    refine hK.out _ _ ?hS277 (fun hHeld => ?rest277)
    case hS277 => (intro p hp; exact hp.elim (fun e => Chg.cell hCd (show p.block < X.heap.size by omega) (fun hx => by omega)) (fun e => Chg.cell hCd (show p.block < X.heap.size by omega) (fun hx => by omega)))
    clear hK K
    try simp only [Act.put, List.setIfInBounds_toArray, List.set_cons_zero, List.set_cons_succ]
    refine takeD (i := 6) (d := some 7) (v := ?vT278) rfl rfl (by kernel_rfl) (by kernel_rfl) (by kernel_rfl) (fun _ _ _ h => h) (Or.inl ⟨by rfl, ?hyT278⟩) (by assumption) ?rstT278
    case hyT278 => (intro w hSw; (try dsimp only at hSw); go_simp; (try with_reducible rfl))
    try simp only [Act.put, List.setIfInBounds_toArray, List.set_cons_zero, List.set_cons_succ]
    refine wpAnyH_done (by kernel_rfl) ?_ _
    clear HD1v
    clear c0 c1 c2 c3 c4 q0 q1 hub
    have hqn := (hKd _ (by first | exact rfl | exact .inl rfl)).trans hq
    have hCn := hC.trans hCd
    have hszn := hCd.size
    clear hq hU hKd hCd hC
    try clear hHeld
    obtain ⟨X, rfl⟩ : ∃ x, x = wd := ⟨_, rfl⟩
    have hq := hqn
    have hU := hUd
    have hC := hCn
    have lP := hU.le
    have lqX := (Array.getElem?_eq_some_iff.1 hq).1
    clear hqn hUd hCn
    obtain ⟨ve, sq, ot, hub⟩ := hU.box
    obtain ⟨c0, c1, c2, c3, c4⟩ := box5 hub
    obtain ⟨q0, q1⟩ := box2 hq
    go_wp2_with fail
    have HD2u := HD2.out X.drew (hU.below (Below.refl _ _).drew)
    have HD2v : Hid (Calls Tryd.prog 7 #[.pointer (some ⟨s, 0, none⟩), (.agg #[.int .i64 a, .int .i64 b])] X.drew fun e W' => e = .returned (.int .i64 41) ∧ Usr W' u s h r oa oc na nc pa pc P [(1, 1)] [] (fun g => g = w.heap.size) ∧ (∀ g, (fun g => g = w.heap.size) g → W'.heap[g]? = X.heap[g]?) ∧ Chg (fun g => g = s ∨ P ≤ g) X W') := HD2u.mono fun e W' ⟨h1, h2, h3, h4⟩ => ⟨h1, h2, h3, (Chg.of_below (Below.refl _ _).drew).trans h4⟩
    clear HD2u
    refine wp_region_held_drew (S := (fun W => ∀ p : Addr, (p.block = u ∨ p.block = w.heap.size) → W.cell? p = X.cell? p)) (by kernel_rfl) ?hS279 (fun hHeld => ?rest279)
    case hS279 => (intro p hp; rfl)
    refine takeD (i := 0) (d := some 54) (v := ?vT280) rfl rfl (by kernel_rfl) (by kernel_rfl) (by kernel_rfl) (fun _ _ _ h => h) (Or.inl ⟨by rfl, ?hyT280⟩) (by assumption) ?rstT280
    case hyT280 => (intro w hSw; (try dsimp only at hSw); go_simp; (try with_reducible rfl))
    try simp only [Act.put, List.setIfInBounds_toArray, List.set_cons_zero, List.set_cons_succ]
    refine takeD (i := 1) (d := some 55) (v := ?vT281) rfl rfl (by kernel_rfl) (by kernel_rfl) (by kernel_rfl) (fun _ _ _ h => h) (Or.inl ⟨by rfl, ?hyT281⟩) (by assumption) ?rstT281
    case hyT281 => (intro w hSw; (try dsimp only at hSw); go_simp; (try with_reducible rfl))
    try simp only [Act.put, List.setIfInBounds_toArray, List.set_cons_zero, List.set_cons_succ]
    refine takeD (i := 2) (d := some 56) (v := ?vT282) rfl rfl (by kernel_rfl) (by kernel_rfl) (by kernel_rfl) (fun _ _ _ h => h) (Or.inl ⟨by rfl, ?hyT282⟩) (by assumption) ?rstT282
    case hyT282 => (intro w hSw; (try dsimp only at hSw); go_simp; (try with_reducible rfl))
    try simp only [Act.put, List.setIfInBounds_toArray, List.set_cons_zero, List.set_cons_succ]
    refine takeD (i := 3) (d := some 57) (v := ?vT283) rfl rfl (by kernel_rfl) (by kernel_rfl) (by kernel_rfl) (fun _ _ _ h => h) (Or.inl ⟨by rfl, ?hyT283⟩) (by assumption) ?rstT283
    case hyT283 => (intro w hSw; (try dsimp only at hSw); go_simp; (try with_reducible rfl))
    try simp only [Act.put, List.setIfInBounds_toArray, List.set_cons_zero, List.set_cons_succ]
    refine takeD (i := 4) (d := some 58) (v := ?vT284) rfl rfl (by kernel_rfl) (by kernel_rfl) (by kernel_rfl) (fun _ _ _ h => h) (Or.inl ⟨by rfl, ?hyT284⟩) (by assumption) ?rstT284
    case hyT284 => (intro w hSw; (try dsimp only at hSw); go_simp; (try with_reducible rfl))
    try simp only [Act.put, List.setIfInBounds_toArray, List.set_cons_zero, List.set_cons_succ]
    refine wpAnyH_ready (rs := [5]) (by kernel_rfl) (by simp) ?_
    refine AllReadyH.cons rfl (fun K hK => ?_) AllReadyH.nil
    go_simp
    refine HD2v.out.mono ?_
    rintro e2 wd ⟨rfl, hUd, hKd, hCd⟩
    clear hHeld
    refine hK.out _ _ ?hS285 (fun hHeld => ?rest285)
    case hS285 => (intro p hp; exact hp.elim (fun e => Chg.cell hCd (show p.block < X.heap.size by omega) (fun hx => by omega)) (fun e => Chg.cell hCd (show p.block < X.heap.size by omega) (fun hx => by omega)))
    clear hK K
    try simp only [Act.put, List.setIfInBounds_toArray, List.set_cons_zero, List.set_cons_succ]
    refine takeD (i := 6) (d := some 8) (v := ?vT286) rfl rfl (by kernel_rfl) (by kernel_rfl) (by kernel_rfl) (fun _ _ _ h => h) (Or.inl ⟨by rfl, ?hyT286⟩) (by assumption) ?rstT286
    case hyT286 => (intro w hSw; (try dsimp only at hSw); go_simp; (try with_reducible rfl))
    try simp only [Act.put, List.setIfInBounds_toArray, List.set_cons_zero, List.set_cons_succ]
    refine wpAnyH_done (by kernel_rfl) ?_ _
    clear HD2v
    clear c0 c1 c2 c3 c4 q0 q1 hub
    have hqn := (hKd _ (by first | exact rfl | exact .inl rfl)).trans hq
    have hCn := hC.trans hCd
    have hszn := hCd.size
    clear hq hU hKd hCd hC
    try clear hHeld
    obtain ⟨X, rfl⟩ : ∃ x, x = wd := ⟨_, rfl⟩
    have hq := hqn
    have hU := hUd
    have hC := hCn
    have lP := hU.le
    have lqX := (Array.getElem?_eq_some_iff.1 hq).1
    clear hqn hUd hCn
    obtain ⟨ve, sq, ot, hub⟩ := hU.box
    obtain ⟨c0, c1, c2, c3, c4⟩ := box5 hub
    obtain ⟨q0, q1⟩ := box2 hq
    go_wp2_with fail
    have hcur : Below X.heap.size X X := Below.refl _ _
    go_cut [9, 10] (fun v9 v10 wx => ∃ k : Nat, v9 = .pointer (some ⟨k, 0, none⟩) ∧ v10 = .int .i64 0 ∧ wx.heap[k]? = some (.cells #[.int .i64 1, .int .i64 1] 23) ∧ X.heap.size ≤ k ∧ Usr wx u s h r oa oc na nc pa pc P ([] : List (Int × Int)) [(1, 1)] (fun g => g = w.heap.size ∨ g = k) ∧ Chg (fun g => g = s ∨ P ≤ g) X wx)
    case first =>
      refine wp_region_held_drew (S := (fun W => ∀ p : Addr, p.block = u → W.cell? p = X.cell? p)) (by kernel_rfl) ?hS287 (fun hHeld => ?rest287)
      case hS287 => (intro p hp; refine Below.cell (B := X.heap.size) ?_ (by omega); (repeat (first | with_reducible exact hcur | (with_reducible refine Below.drew ?_))))
      refine takeD (i := 0) (d := some 83) (v := ?vT288) rfl rfl (by kernel_rfl) (by kernel_rfl) (by kernel_rfl) (fun _ _ _ h => h) (Or.inl ⟨by rfl, ?hyT288⟩) (by assumption) ?rstT288
      case hyT288 => (intro w hSw; (try dsimp only at hSw); go_simp; (try with_reducible rfl))
      try simp only [Act.put, List.setIfInBounds_toArray, List.set_cons_zero, List.set_cons_succ]
      refine takeD (i := 1) (d := some 84) (v := ?vT289) rfl rfl (by kernel_rfl) (by kernel_rfl) (by kernel_rfl) (fun _ _ _ h => h) (Or.inl ⟨by rfl, ?hyT289⟩) (by assumption) ?rstT289
      case hyT289 => (intro w hSw; (try dsimp only at hSw); go_simp; (try with_reducible rfl))
      try simp only [Act.put, List.setIfInBounds_toArray, List.set_cons_zero, List.set_cons_succ]
      refine takeD (i := 2) (d := some 85) (v := ?vT290) rfl rfl (by kernel_rfl) (by kernel_rfl) (by kernel_rfl) (fun _ _ _ h => h) (Or.inl ⟨by rfl, ?hyT290⟩) (by assumption) ?rstT290
      case hyT290 => (intro w hSw; (try dsimp only at hSw); go_simp; (try with_reducible rfl))
      try simp only [Act.put, List.setIfInBounds_toArray, List.set_cons_zero, List.set_cons_succ]
      refine takeD (i := 3) (d := some 86) (v := ?vT291) rfl rfl (by kernel_rfl) (by kernel_rfl) (by kernel_rfl) (fun _ _ _ h => h) (Or.inl ⟨by rfl, ?hyT291⟩) (by assumption) ?rstT291
      case hyT291 => (intro w hSw; (try dsimp only at hSw); go_simp; (try with_reducible rfl))
      try simp only [Act.put, List.setIfInBounds_toArray, List.set_cons_zero, List.set_cons_succ]
      refine takeD (i := 4) (d := some 87) (v := ?vT292) rfl rfl (by kernel_rfl) (by kernel_rfl) (by kernel_rfl) (fun _ _ _ h => h) (Or.inl ⟨by rfl, ?hyT292⟩) (by assumption) ?rstT292
      case hyT292 => (intro w hSw; (try dsimp only at hSw); go_simp; (try with_reducible rfl))
      try simp only [Act.put, List.setIfInBounds_toArray, List.set_cons_zero, List.set_cons_succ]
      refine takeD (i := 5) (d := some 88) (v := ?vT293) rfl rfl (by kernel_rfl) (by kernel_rfl) (by kernel_rfl) (fun _ _ _ h => h) (Or.inl ⟨by rfl, ?hyT293⟩) (by assumption) ?rstT293
      case hyT293 => (intro w hSw; (try dsimp only at hSw); go_simp; (try with_reducible rfl))
      try simp only [Act.put, List.setIfInBounds_toArray, List.set_cons_zero, List.set_cons_succ]
      refine takeD (i := 6) (d := some 89) (v := ?vT294) rfl rfl (by kernel_rfl) (by kernel_rfl) (by kernel_rfl) (fun _ _ _ h => h) (Or.inl ⟨by rfl, ?hyT294⟩) (by assumption) ?rstT294
      case hyT294 => (intro w hSw; (try dsimp only at hSw); go_simp; (try with_reducible rfl))
      try simp only [Act.put, List.setIfInBounds_toArray, List.set_cons_zero, List.set_cons_succ]
      refine takeD (i := 7) (d := some 90) (v := ?vT295) rfl rfl (by kernel_rfl) (by kernel_rfl) (by kernel_rfl) (fun _ _ _ h => h) (Or.inl ⟨by rfl, ?hyT295⟩) (by assumption) ?rstT295
      case hyT295 => (intro w hSw; (try dsimp only at hSw); go_simp; (try with_reducible rfl))
      try simp only [Act.put, List.setIfInBounds_toArray, List.set_cons_zero, List.set_cons_succ]
      refine wpAnyH_ready (rs := [8, 12]) (by kernel_rfl) (by simp) (AllReadyH.cons rfl (fun K hK => ?b312) (AllReadyH.cons rfl (fun K hK => ?b313) AllReadyH.nil))
      case b312 =>
        go_simp
        refine (HU.out _ _ (hU.below (Below.refl _ _).drew)).mono ?_
        rintro e2 wu ⟨rfl, hUd, hKd, hCd⟩
        simp only [idA]
        clear hHeld
        refine hK.out _ _ ?hS314 (fun hHeld => ?rest314)
        case hS314 => (intro p hp; exact Chg.cell hCd (show p.block < X.heap.size by omega) (by omega))
        clear hK K
        try simp only [Act.put, List.setIfInBounds_toArray, List.set_cons_zero, List.set_cons_succ]
        refine takeD (i := 9) (d := some 82) (v := ?vT296) rfl rfl (by kernel_rfl) (by kernel_rfl) (by kernel_rfl) (fun _ _ _ h => h) (Or.inl ⟨by rfl, ?hyT296⟩) (by assumption) ?rstT296
        case hyT296 => (intro w hSw; (try dsimp only at hSw); go_simp; (try with_reducible rfl))
        try simp only [Act.put, List.setIfInBounds_toArray, List.set_cons_zero, List.set_cons_succ]
        refine takeD (i := 10) (d := some 92) (v := ?vT297) rfl rfl (by kernel_rfl) (by kernel_rfl) (by kernel_rfl) (fun _ _ _ h => h) (Or.inl ⟨by rfl, ?hyT297⟩) (by assumption) ?rstT297
        case hyT297 => (intro w hSw; (try dsimp only at hSw); go_simp; (try with_reducible rfl))
        try simp only [Act.put, List.setIfInBounds_toArray, List.set_cons_zero, List.set_cons_succ]
        refine takeD (i := 11) (d := some 93) (v := ?vT298) rfl rfl (by kernel_rfl) (by kernel_rfl) (by kernel_rfl) (fun _ _ _ h => h) (Or.inl ⟨by rfl, ?hyT298⟩) (by assumption) ?rstT298
        case hyT298 => (intro w hSw; (try dsimp only at hSw); go_simp; (try with_reducible rfl))
        try simp only [Act.put, List.setIfInBounds_toArray, List.set_cons_zero, List.set_cons_succ]
        refine wpAnyH_ready (rs := [12]) (by kernel_rfl) (by simp) (AllReadyH.cons rfl (fun K hK => ?b302) AllReadyH.nil)
        case b302 =>
          go_simp
          obtain ⟨wz, hwz⟩ : ∃ wz, wu.alloc (.cells #[.int .i64 0, .int .i64 0] 23) = wz := ⟨_, rfl⟩
          rw [hwz]
          have hb2 : Below wu.heap.size wu wz := by rw [← hwz]; exact (Below.refl _ _).alloc (Nat.le_refl _) _
          have hz : wz.heap[wu.heap.size]? = some (.cells #[.int .i64 0, .int .i64 0] 23) := by rw [← hwz]; exact heap_alloc_new wu _
          have hsz1 : wu.heap.size < wz.heap.size := (Array.getElem?_eq_some_iff.1 hz).1
          have hUz := hUd.news hb2 hsz1
          have hszu : X.heap.size ≤ wu.heap.size := hCd.size
          have hcl : ∀ p : Addr, p.block = u → wz.cell? p = X.cell? p := fun p hp => (hb2.cell (by omega)).trans (Chg.cell hCd (show p.block < X.heap.size by omega) (by omega))
          clear hwz
          clear hHeld
          refine hK.out _ _ ?hS303 (fun hHeld => ?rest303)
          case hS303 => (intro p hp; exact hcl p hp)
          clear hK K
          try simp only [Act.put, List.setIfInBounds_toArray, List.set_cons_zero, List.set_cons_succ]
          refine wpAnyH_ready (rs := [13]) (by kernel_rfl) (by simp) (AllReadyH.cons rfl (fun K hK => ?b300) AllReadyH.nil)
          case b300 =>
            obtain ⟨cz0, cz1⟩ := box2 hz
            have fz0 := Lib.frozen_of_heap hz 0
            have fz1 := Lib.frozen_of_heap hz 1
            obtain ⟨W9, e9, hx9, hC9⟩ := set2k (v0 := .int .i64 1) (v1 := .int .i64 1) hz
            go_simp
            try rw [e9]
            clear hHeld
            refine hK.out _ _ ?hS301 (fun hHeld => ?rest301)
            case hS301 => (intro p hp; exact (Chg.cell hC9 (by omega) (by omega)).trans (hcl p hp))
            clear hK K
            try simp only [Act.put, List.setIfInBounds_toArray, List.set_cons_zero, List.set_cons_succ]
            refine takeD (i := 14) (d := some 10) (v := ?vT299) rfl rfl (by kernel_rfl) (by kernel_rfl) (by kernel_rfl) (fun _ _ _ h => h) (Or.inl ⟨by rfl, ?hyT299⟩) (by assumption) ?rstT299
            case hyT299 => (intro w hSw; (try dsimp only at hSw); go_simp; (try with_reducible rfl))
            try simp only [Act.put, List.setIfInBounds_toArray, List.set_cons_zero, List.set_cons_succ]
            refine wpAnyH_done (by kernel_rfl) ?_ _
            go_wp2_with fail
            go_meet
            case rel => exact ⟨wu.heap.size, rfl, rfl, hx9, by omega, hUz.setK (.inr rfl) (by have := hU.le; omega) hC9, (((Chg.of_below (Below.refl _ _).drew).trans hCd).trans (Chg.of_below hb2)).trans (hC9.mono (fun g _ hg => .inr (by have := hU.le; omega)))⟩
      case b313 =>
        go_simp
        obtain ⟨wz, hwz⟩ : ∃ wz, (X.alloc (.cells #[.int .i64 0, .int .i64 0] 23)).drew = wz := ⟨_, rfl⟩
        rw [hwz]
        have hb2 : Below X.heap.size X wz := by rw [← hwz]; exact ((Below.refl _ _).alloc (Nat.le_refl _) _).drew
        have hz : wz.heap[X.heap.size]? = some (.cells #[.int .i64 0, .int .i64 0] 23) := by rw [← hwz]; exact heap_alloc_new X _
        have hsz1 : X.heap.size < wz.heap.size := (Array.getElem?_eq_some_iff.1 hz).1
        have hUz := hU.news hb2 hsz1
        clear hwz hcur
        have hcur := hb2
        clear hHeld
        refine hK.out _ _ ?hS315 (fun hHeld => ?rest315)
        case hS315 => (intro p hp; refine Below.cell (B := X.heap.size) ?_ (by omega); (repeat (first | with_reducible exact hcur | (with_reducible refine Below.drew ?_))))
        clear hK K
        try simp only [Act.put, List.setIfInBounds_toArray, List.set_cons_zero, List.set_cons_succ]
        refine wpAnyH_ready (rs := [8]) (by kernel_rfl) (by simp) (AllReadyH.cons rfl (fun K hK => ?b310) AllReadyH.nil)
        case b310 =>
          go_simp
          refine (HU.out _ _ hUz).mono ?_
          rintro e2 wu ⟨rfl, hUd, hKd, hCd⟩
          simp only [idA]
          have hz3 := (hKd _ (.inr rfl)).trans hz
          have hcl : ∀ p : Addr, p.block = u → wu.cell? p = X.cell? p := fun p hp => (Chg.cell hCd (by have := hcur.size; omega) (by omega)).trans (hcur.cell (by omega))
          have hszz : wz.heap.size ≤ wu.heap.size := hCd.size
          clear hHeld
          refine hK.out _ _ ?hS311 (fun hHeld => ?rest311)
          case hS311 => (intro p hp; exact hcl p hp)
          clear hK K
          try simp only [Act.put, List.setIfInBounds_toArray, List.set_cons_zero, List.set_cons_succ]
          refine takeD (i := 9) (d := some 82) (v := ?vT304) rfl rfl (by kernel_rfl) (by kernel_rfl) (by kernel_rfl) (fun _ _ _ h => h) (Or.inl ⟨by rfl, ?hyT304⟩) (by assumption) ?rstT304
          case hyT304 => (intro w hSw; (try dsimp only at hSw); go_simp; (try with_reducible rfl))
          try simp only [Act.put, List.setIfInBounds_toArray, List.set_cons_zero, List.set_cons_succ]
          refine takeD (i := 10) (d := some 92) (v := ?vT305) rfl rfl (by kernel_rfl) (by kernel_rfl) (by kernel_rfl) (fun _ _ _ h => h) (Or.inl ⟨by rfl, ?hyT305⟩) (by assumption) ?rstT305
          case hyT305 => (intro w hSw; (try dsimp only at hSw); go_simp; (try with_reducible rfl))
          try simp only [Act.put, List.setIfInBounds_toArray, List.set_cons_zero, List.set_cons_succ]
          refine takeD (i := 11) (d := some 93) (v := ?vT306) rfl rfl (by kernel_rfl) (by kernel_rfl) (by kernel_rfl) (fun _ _ _ h => h) (Or.inl ⟨by rfl, ?hyT306⟩) (by assumption) ?rstT306
          case hyT306 => (intro w hSw; (try dsimp only at hSw); go_simp; (try with_reducible rfl))
          try simp only [Act.put, List.setIfInBounds_toArray, List.set_cons_zero, List.set_cons_succ]
          refine wpAnyH_ready (rs := [13]) (by kernel_rfl) (by simp) (AllReadyH.cons rfl (fun K hK => ?b308) AllReadyH.nil)
          case b308 =>
            obtain ⟨cz0, cz1⟩ := box2 hz3
            have fz0 := Lib.frozen_of_heap hz3 0
            have fz1 := Lib.frozen_of_heap hz3 1
            obtain ⟨W9, e9, hx9, hC9⟩ := set2k (v0 := .int .i64 1) (v1 := .int .i64 1) hz3
            go_simp
            try rw [e9]
            clear hHeld
            refine hK.out _ _ ?hS309 (fun hHeld => ?rest309)
            case hS309 => (intro p hp; exact (Chg.cell hC9 (by omega) (by omega)).trans (hcl p hp))
            clear hK K
            try simp only [Act.put, List.setIfInBounds_toArray, List.set_cons_zero, List.set_cons_succ]
            refine takeD (i := 14) (d := some 10) (v := ?vT307) rfl rfl (by kernel_rfl) (by kernel_rfl) (by kernel_rfl) (fun _ _ _ h => h) (Or.inl ⟨by rfl, ?hyT307⟩) (by assumption) ?rstT307
            case hyT307 => (intro w hSw; (try dsimp only at hSw); go_simp; (try with_reducible rfl))
            try simp only [Act.put, List.setIfInBounds_toArray, List.set_cons_zero, List.set_cons_succ]
            refine wpAnyH_done (by kernel_rfl) ?_ _
            go_wp2_with fail
            go_meet
            case rel => exact ⟨X.heap.size, rfl, rfl, hx9, by omega, hUd.setK (.inr rfl) hU.le hC9, ((Chg.of_below hb2).trans hCd).trans (hC9.mono (fun g _ hg => .inr (by have := hU.le; omega)))⟩
    case rest =>
      obtain ⟨Y, rfl⟩ : ∃ x, x = wc := ⟨_, rfl⟩
      obtain ⟨k, rfl, rfl, hk, hgk, hUY, hCY⟩ := hcut
      have hqY := hCY.block hq (by omega)
      have hCC := hC.trans hCY
      have hszY := hCY.size
      clear hU hq hC hCY hub c0 c1 c2 c3 c4 q0 q1 hcur HU
      obtain ⟨X, rfl⟩ : ∃ x, x = Y := ⟨_, rfl⟩
      have hU := hUY
      have hq := hqY
      have hC := hCC
      have lP := hU.le
      have lqX := (Array.getElem?_eq_some_iff.1 hq).1
      clear hUY hqY hCC
      obtain ⟨ve, sq, ot, hub⟩ := hU.box
      obtain ⟨c0, c1, c2, c3, c4⟩ := box5 hub
      obtain ⟨q0, q1⟩ := box2 hq
      obtain ⟨k0, k1⟩ := box2 hk
      go_wp2_with fail
      refine (HD3.out _ _ hU).mono ?_
      rintro e wd ⟨rfl, hUd, hKd, hCd⟩
      have hkn := (hKd _ (.inr rfl)).trans hk
      clear hk k0 k1
      clear c0 c1 c2 c3 c4 q0 q1 hub
      have hqn := (hKd _ (by first | exact rfl | exact .inl rfl)).trans hq
      have hCn := hC.trans hCd
      have hszn := hCd.size
      clear hq hU hKd hCd hC
      try clear hHeld
      obtain ⟨X, rfl⟩ : ∃ x, x = wd := ⟨_, rfl⟩
      have hq := hqn
      have hU := hUd
      have hC := hCn
      have lP := hU.le
      have lqX := (Array.getElem?_eq_some_iff.1 hq).1
      clear hqn hUd hCn
      have hk := hkn
      clear hkn
      obtain ⟨ve, sq, ot, hub⟩ := hU.box
      obtain ⟨c0, c1, c2, c3, c4⟩ := box5 hub
      obtain ⟨q0, q1⟩ := box2 hq
      obtain ⟨k0, k1⟩ := box2 hk
      go_wp2_with fail
      refine (HD4.out _ _ hU).mono ?_
      rintro e wd ⟨rfl, hUd, hKd, hCd⟩
      have hkn := (hKd _ (.inr rfl)).trans hk
      clear hk k0 k1
      clear c0 c1 c2 c3 c4 q0 q1 hub
      have hqn := (hKd _ (by first | exact rfl | exact .inl rfl)).trans hq
      have hCn := hC.trans hCd
      have hszn := hCd.size
      clear hq hU hKd hCd hC
      try clear hHeld
      obtain ⟨X, rfl⟩ : ∃ x, x = wd := ⟨_, rfl⟩
      have hq := hqn
      have hU := hUd
      have hC := hCn
      have lP := hU.le
      have lqX := (Array.getElem?_eq_some_iff.1 hq).1
      clear hqn hUd hCn
      have hk := hkn
      clear hkn
      obtain ⟨ve, sq, ot, hub⟩ := hU.box
      obtain ⟨c0, c1, c2, c3, c4⟩ := box5 hub
      obtain ⟨q0, q1⟩ := box2 hq
      obtain ⟨k0, k1⟩ := box2 hk
      go_wp2_with fail
      refine (HD5.out _ _ hU).mono ?_
      rintro e wd ⟨rfl, hUd, hKd, hCd⟩
      have hkn := (hKd _ (.inr rfl)).trans hk
      clear hk k0 k1
      clear c0 c1 c2 c3 c4 q0 q1 hub
      have hqn := (hKd _ (by first | exact rfl | exact .inl rfl)).trans hq
      have hCn := hC.trans hCd
      have hszn := hCd.size
      clear hq hU hKd hCd hC
      try clear hHeld
      obtain ⟨X, rfl⟩ : ∃ x, x = wd := ⟨_, rfl⟩
      have hq := hqn
      have hU := hUd
      have hC := hCn
      have lP := hU.le
      have lqX := (Array.getElem?_eq_some_iff.1 hq).1
      clear hqn hUd hCn
      have hk := hkn
      clear hkn
      obtain ⟨ve, sq, ot, hub⟩ := hU.box
      obtain ⟨c0, c1, c2, c3, c4⟩ := box5 hub
      obtain ⟨q0, q1⟩ := box2 hq
      obtain ⟨k0, k1⟩ := box2 hk
      have HL := hU.lists (by simp) (by simp)
      simp only [List.length_cons, List.length_nil, Nat.zero_add, Nat.reduceAdd] at HL
      go_wp2_with fail
      refine HL.mono ?_
      rintro e wL ⟨a1, l1, a2, l2, rfl, ho1, ho2, hbL⟩
      have hqL := (hbL.block w.heap.size (by omega)).trans hq
      clear c0 c1 c2 c3 c4 q0 q1 hub
      obtain ⟨q0, q1⟩ := box2 hqL
      obtain ⟨g1, cp1, e1, hg1, hgl1, -⟩ := ho1.ptr (by simp)
      simp only [List.length_cons, List.length_nil, Nat.zero_add, Nat.reduceAdd, Value.slice.injEq] at e1
      obtain ⟨rfl, -, rfl⟩ := e1
      obtain ⟨g', off, ha0, hgl, hcl⟩ := (ho1.rw_ layI).cells (by omega)
      cases ha0
      have p0 := hcl 1 _ rfl 0 _ rfl
      have p1 := hcl 1 _ rfl 1 _ rfl
      simp only [Nat.zero_add, Nat.reduceMul, Nat.reduceAdd] at p0 p1
      have i0 : IntKind.i64.wrap 1 = 1 := by decide
      clear hcl
      clear HL ho1 ho2
      go_wp2_with fail
      go_ret
      exact ⟨rfl, hk1.trans ((hC.trans (Chg.of_below hbL)).below (fun g hg => by omega) (by omega))⟩
theorem stacksDid_any (a b : Int) {w : World} (hw : Bar w) :
    Calls Tryd.prog 3 #[.agg #[.int .i64 a, .int .i64 b]] w fun e w' => e = .returned (.bool true) ∧ Below w.heap.size w w' := by
  by_cases h5 : a = 5 ∧ b = 5
  · exact did_five h5 hw
  · by_cases h1 : a = 1 ∧ b = 1
    · exact did_same h1 hw
    · by_cases hn : 1 ≤ a ∧ a ≤ 8 ∧ 1 ≤ b ∧ b ≤ 1024
      · exact did_good ⟨hn, h1, h5⟩ hw
      · exact did_bad hn hw
end Go.Proofs.YtokkodkhkpgebaaDoor
