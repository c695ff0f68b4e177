import Derived.Test.YtokkodkhkpgebaaDoorKcH
/-! StacksDid at the other ids that are taken. -/
namespace Go.Proofs.YtokkodkhkpgebaaDoor
open Go.RowKit Go.Lib
set_option maxRecDepth 100000

set_option maxHeartbeats 16000000 in
theorem did_good {a b : Int} (hc : (1 ≤ a ∧ a ≤ 8 ∧ 1 ≤ b ∧ b ≤ 1024) ∧ ¬ (a = 1 ∧ b = 1) ∧ ¬ (a = 5 ∧ b = 5)) {w : World} (hw : Bar w) :
    Calls Tryd.prog 3 #[.agg #[.int .i64 a, .int .i64 b]] w fun e w' => e = .returned (.bool true) ∧ Below w.heap.size w w' := by
  have HG : Tryd.prog.eqGuardType Tryd.prog.depth 23 = false := by kernel_rfl
  obtain ⟨w1, hw1⟩ : ∃ w1, w.alloc (.cells #[.int .i64 a, .int .i64 b] 23) = w1 := ⟨_, rfl⟩
  have k1 : Below w.heap.size w w1 := by rw [← hw1]; exact (Below.refl _ _).alloc (Nat.le_refl _) _
  have hq1 : w1.heap[w.heap.size]? = some (.cells #[.int .i64 a, .int .i64 b] 23) := by rw [← hw1]; exact heap_alloc_new _ _
  have lq1 : w.heap.size < w1.heap.size := (Array.getElem?_eq_some_iff.1 hq1).1
  have HA := arrivedX (hw.below k1)
  clear hw
  go_enter Tryd.func3, Tryd.ntmps3
  go_wp2_with fail
  refine HA.mono ?_
  rintro e X ⟨u, s, h, r, oa, oc, na, nc, pa, pc, P, rfl, hU0, hgs, hgP, hbX⟩
  clear HA hw1
  have hU := hU0.monoK (K' := (fun g => g = w.heap.size)) (fun g hg => by rw [hg]; exact lq1)
  have hq := (hbX.block w.heap.size lq1).trans hq1
  have hk1 : Below w.heap.size w X := k1.trans (hbX.mono k1.size)
  obtain ⟨⟨lu1, lu2⟩, -⟩ := hU.lo
  have lP := hU.le
  have lqX : w.heap.size < X.heap.size := (Array.getElem?_eq_some_iff.1 hq).1
  have hC : Chg (fun g => g = s ∨ P ≤ g) X X := Chg.refl _ _
  clear hU0 hq1 hbX
  have hnn : 1 ≤ a ∧ a ≤ 8 ∧ 1 ≤ b ∧ b ≤ 1024 := hc.1
  have hn1 : ¬ ((a, b) : Int × Int) = (1, 1) := fun e => hc.2.1 ⟨congrArg Prod.fst e, congrArg Prod.snd e⟩
  have hn1c : ¬ ((1, 1) : Int × Int) = (a, b) := fun e => hn1 e.symm
  have hn5 : ¬ ((a, b) : Int × Int) = (5, 5) := fun e => hc.2.2 ⟨congrArg Prod.fst e, congrArg Prod.snd e⟩
  have hn5c : ¬ ((5, 5) : Int × Int) = (a, b) := fun e => hn5 e.symm
  have hnm : namedP (a, b) = true := decide_eq_true hnn
  have HD1 : Hid (∀ W, Usr W u s h r oa oc na nc pa pc P [(1, 1)] [] (fun g => g = w.heap.size) → Calls Tryd.prog 7 #[.pointer (some ⟨s, 0, none⟩), (.agg #[.int .i64 a, .int .i64 b])] W fun e W' => e = .returned (.int .i64 0) ∧ UsrP W u s h r oa oc na nc pa pc P [(1, 1), (a, b)] [] (fun g => g = w.heap.size) W') := fun W hW => by
    have hh := hW.did (by simp) (a, b)
    rw [show didP [(1, 1)] [] (a, b) = (0, [(1, 1), (a, b)], []) from by unfold didP; rw [if_pos hnm, if_neg (by simp [hn1])]; rfl] at hh
    exact hh
  have HD2 : Hid (∀ W, Usr W u s h r oa oc na nc pa pc P [(1, 1), (a, b)] [] (fun g => g = w.heap.size) → Calls Tryd.prog 7 #[.pointer (some ⟨s, 0, none⟩), (.agg #[.int .i64 a, .int .i64 b])] W fun e W' => e = .returned (.int .i64 61) ∧ UsrP W u s h r oa oc na nc pa pc P [(1, 1), (a, b)] [] (fun g => g = w.heap.size) W') := fun W hW => by
    have hh := hW.did (by simp) (a, b)
    rw [show didP [(1, 1), (a, b)] [] (a, b) = (61, [(1, 1), (a, b)], []) from by unfold didP; rw [if_pos hnm, if_pos (by simp)]] at hh
    exact hh
  have HU : Hid (∀ W K, Usr W u s h r oa oc na nc pa pc P [(1, 1), (a, b)] [] K → Calls Tryd.prog 8 #[.pointer (some ⟨s, 0, none⟩), .pointer (some ⟨h, 0, none⟩)] W fun e W' => e = .returned (.tuple #[idA (1, 1), .int .i64 0]) ∧ UsrP W u s h r oa oc na nc pa pc P [(a, b)] [(1, 1)] K W') := fun W K hW => hW.undo (by simp) (by simp [hn1c])
  have HD3 : Hid (∀ W k, Usr W u s h r oa oc na nc pa pc P [(a, b)] [(1, 1)] (fun g => g = w.heap.size ∨ g = k) → Calls Tryd.prog 7 #[.pointer (some ⟨s, 0, none⟩), (.agg #[.int .i64 1, .int .i64 1])] W fun e W' => e = .returned (.int .i64 61) ∧ UsrP W u s h r oa oc na nc pa pc P [(a, b)] [(1, 1)] (fun g => g = w.heap.size ∨ g = k) W') := fun W k hW => by
    have hh := hW.did (by simp) (1, 1)
    rw [show didP [(a, b)] [(1, 1)] (1, 1) = (61, [(a, b)], [(1, 1)]) from by unfold didP; rw [if_pos (by decide), if_pos (by simp)]] at hh
    exact hh
  have HD4 : Hid (∀ W k, Usr W u s h r oa oc na nc pa pc P [(a, b)] [(1, 1)] (fun g => g = w.heap.size ∨ g = k) → Calls Tryd.prog 7 #[.pointer (some ⟨s, 0, none⟩), (.agg #[.int .i64 5, .int .i64 5])] W fun e W' => e = .returned (.int .i64 0) ∧ UsrP W u s h r oa oc na nc pa pc P [(a, b), (5, 5)] [] (fun g => g = w.heap.size ∨ g = k) W') := fun W k hW => by
    have hh := hW.did (by simp) (5, 5)
    rw [show didP [(a, b)] [(1, 1)] (5, 5) = (0, [(a, b), (5, 5)], []) from by unfold didP; rw [if_pos (by decide), if_neg (by simp [hn5c])]; rfl] at hh
    exact hh
  have HD5 : Hid (∀ W k, Usr W u s h r oa oc na nc pa pc P [(a, b), (5, 5)] [] (fun g => g = w.heap.size ∨ g = k) → Calls Tryd.prog 7 #[.pointer (some ⟨s, 0, none⟩), (.agg #[.int .i64 1, .int .i64 1])] W fun e W' => e = .returned (.int .i64 0) ∧ UsrP W u s h r oa oc na nc pa pc P [(a, b), (5, 5), (1, 1)] [] (fun g => g = w.heap.size ∨ g = k) W') := fun W k hW => by
    have hh := hW.did (by simp) (1, 1)
    rw [show didP [(a, b), (5, 5)] [] (1, 1) = (0, [(a, b), (5, 5), (1, 1)], []) from by unfold didP; rw [if_pos (by decide), if_neg (by simp [hn1c])]; rfl] at hh
    exact hh
  have heq1 : ∀ W : World, (Op.equalIn 10000 23 (.agg #[.int .i64 a, .int .i64 b]) (.agg #[.int .i64 1, .int .i64 1])).run Tryd.prog W = .ok false W := fun W => by rw [run_eqI]; rw [show (a == 1 && b == 1) = false from by simp; omega]
  have heq5 : ∀ W : World, (Op.equalIn 10000 23 (.agg #[.int .i64 a, .int .i64 b]) (.agg #[.int .i64 5, .int .i64 5])).run Tryd.prog W = .ok false W := fun W => by rw [run_eqI]; rw [show (a == 5 && b == 5) = false from by simp; omega]
  have heq11 : ∀ W : World, (Op.equalIn 10000 23 (.agg #[.int .i64 1, .int .i64 1]) (.agg #[.int .i64 1, .int .i64 1])).run Tryd.prog W = .ok true W := fun W => by rw [run_eqI]; rfl
  obtain ⟨X0, hX0⟩ : ∃ x, x = X := ⟨_, rfl⟩
  have hk1 : Below w.heap.size w X0 := by rw [hX0]; exact hk1
  have hC : Chg (fun g => g = s ∨ P ≤ g) X0 X := by rw [hX0]; exact hC
  have hsz0 : w.heap.size ≤ X0.heap.size := hk1.size
  clear hX0
  obtain ⟨ve, sq, ot, hub⟩ := hU.box
  obtain ⟨c0, c1, c2, c3, c4⟩ := box5 hub
  obtain ⟨q0, q1⟩ := box2 hq
  have g1 : decide (1 ≤ a) = true := decide_eq_true hnn.1
  have g2 : decide (a ≤ 8) = true := decide_eq_true hnn.2.1
  have g3 : decide (1 ≤ b) = true := decide_eq_true hnn.2.2.1
  have g4 : decide (b ≤ 1024) = true := decide_eq_true hnn.2.2.2
  obtain ⟨gg1, gg2, gg3, gg4⟩ := hnn
  go_wp2_with fail
  have HD1u := HD1.out X.drew (hU.below (Below.refl _ _).drew)
  have HD1v : Hid (Calls Tryd.prog 7 #[.pointer (some ⟨s, 0, none⟩), (.agg #[.int .i64 a, .int .i64 b])] X.drew fun e W' => e = .returned (.int .i64 0) ∧ Usr W' u s h r oa oc na nc pa pc P [(1, 1), (a, b)] [] (fun g => g = w.heap.size) ∧ (∀ g, (fun g => g = w.heap.size) g → W'.heap[g]? = X.heap[g]?) ∧ Chg (fun g => g = s ∨ P ≤ g) X W') := HD1u.mono fun e W' ⟨h1, h2, h3, h4⟩ => ⟨h1, h2, h3, (Chg.of_below (Below.refl _ _).drew).trans h4⟩
  clear HD1u
  refine wp_region_held_drew (S := (fun W => ∀ p : Addr, (p.block = u ∨ p.block = w.heap.size) → W.cell? p = X.cell? p)) (by kernel_rfl) ?hS226 (fun hHeld => ?rest226)
  case hS226 => (intro p hp; rfl)
  refine takeD (i := 0) (d := some 48) (v := ?vT227) rfl rfl (by kernel_rfl) (by kernel_rfl) (by kernel_rfl) (fun _ _ _ h => h) (Or.inl ⟨by rfl, ?hyT227⟩) (by assumption) ?rstT227
  case hyT227 => (intro w hSw; (try dsimp only at hSw); go_simp; (try with_reducible rfl))
  try simp only [Act.put, List.setIfInBounds_toArray, List.set_cons_zero, List.set_cons_succ]
  refine takeD (i := 1) (d := some 49) (v := ?vT228) rfl rfl (by kernel_rfl) (by kernel_rfl) (by kernel_rfl) (fun _ _ _ h => h) (Or.inl ⟨by rfl, ?hyT228⟩) (by assumption) ?rstT228
  case hyT228 => (intro w hSw; (try dsimp only at hSw); go_simp; (try with_reducible rfl))
  try simp only [Act.put, List.setIfInBounds_toArray, List.set_cons_zero, List.set_cons_succ]
  refine takeD (i := 2) (d := some 50) (v := ?vT229) rfl rfl (by kernel_rfl) (by kernel_rfl) (by kernel_rfl) (fun _ _ _ h => h) (Or.inl ⟨by rfl, ?hyT229⟩) (by assumption) ?rstT229
  case hyT229 => (intro w hSw; (try dsimp only at hSw); go_simp; (try with_reducible rfl))
  try simp only [Act.put, List.setIfInBounds_toArray, List.set_cons_zero, List.set_cons_succ]
  refine takeD (i := 3) (d := some 51) (v := ?vT230) rfl rfl (by kernel_rfl) (by kernel_rfl) (by kernel_rfl) (fun _ _ _ h => h) (Or.inl ⟨by rfl, ?hyT230⟩) (by assumption) ?rstT230
  case hyT230 => (intro w hSw; (try dsimp only at hSw); go_simp; (try with_reducible rfl))
  try simp only [Act.put, List.setIfInBounds_toArray, List.set_cons_zero, List.set_cons_succ]
  refine takeD (i := 4) (d := some 52) (v := ?vT231) rfl rfl (by kernel_rfl) (by kernel_rfl) (by kernel_rfl) (fun _ _ _ h => h) (Or.inl ⟨by rfl, ?hyT231⟩) (by assumption) ?rstT231
  case hyT231 => (intro w hSw; (try dsimp only at hSw); go_simp; (try with_reducible rfl))
  try simp only [Act.put, List.setIfInBounds_toArray, List.set_cons_zero, List.set_cons_succ]
  refine wpAnyH_ready (rs := [5]) (by kernel_rfl) (by simp) ?_
  refine AllReadyH.cons rfl (fun K hK => ?_) AllReadyH.nil
  go_simp
  refine HD1v.out.mono ?_
  rintro e2 wd ⟨rfl, hUd, hKd, hCd⟩
  clear hHeld
  refine hK.out _ _ ?hS232 (fun hHeld => ?rest232)
  case hS232 => (intro p hp; exact hp.elim (fun e => Chg.cell hCd (show p.block < X.heap.size by omega) (fun hx => by omega)) (fun e => Chg.cell hCd (show p.block < X.heap.size by omega) (fun hx => by omega)))
  clear hK K
  try simp only [Act.put, List.setIfInBounds_toArray, List.set_cons_zero, List.set_cons_succ]
  refine takeD (i := 6) (d := some 7) (v := ?vT233) rfl rfl (by kernel_rfl) (by kernel_rfl) (by kernel_rfl) (fun _ _ _ h => h) (Or.inl ⟨by rfl, ?hyT233⟩) (by assumption) ?rstT233
  case hyT233 => (intro w hSw; (try dsimp only at hSw); go_simp; (try with_reducible rfl))
  try simp only [Act.put, List.setIfInBounds_toArray, List.set_cons_zero, List.set_cons_succ]
  refine wpAnyH_done (by kernel_rfl) ?_ _
  clear HD1v
  clear c0 c1 c2 c3 c4 q0 q1 hub
  have hqn := (hKd _ (by first | exact rfl | exact .inl rfl)).trans hq
  have hCn := hC.trans hCd
  have hszn := hCd.size
  clear hq hU hKd hCd hC
  try clear hHeld
  obtain ⟨X, rfl⟩ : ∃ x, x = wd := ⟨_, rfl⟩
  have hq := hqn
  have hU := hUd
  have hC := hCn
  have lP := hU.le
  have lqX := (Array.getElem?_eq_some_iff.1 hq).1
  clear hqn hUd hCn
  obtain ⟨ve, sq, ot, hub⟩ := hU.box
  obtain ⟨c0, c1, c2, c3, c4⟩ := box5 hub
  obtain ⟨q0, q1⟩ := box2 hq
  go_wp2_with fail
  have HD2u := HD2.out X.drew (hU.below (Below.refl _ _).drew)
  have HD2v : Hid (Calls Tryd.prog 7 #[.pointer (some ⟨s, 0, none⟩), (.agg #[.int .i64 a, .int .i64 b])] X.drew fun e W' => e = .returned (.int .i64 61) ∧ Usr W' u s h r oa oc na nc pa pc P [(1, 1), (a, b)] [] (fun g => g = w.heap.size) ∧ (∀ g, (fun g => g = w.heap.size) g → W'.heap[g]? = X.heap[g]?) ∧ Chg (fun g => g = s ∨ P ≤ g) X W') := HD2u.mono fun e W' ⟨h1, h2, h3, h4⟩ => ⟨h1, h2, h3, (Chg.of_below (Below.refl _ _).drew).trans h4⟩
  clear HD2u
  refine wp_region_held_drew (S := (fun W => ∀ p : Addr, (p.block = u ∨ p.block = w.heap.size) → W.cell? p = X.cell? p)) (by kernel_rfl) ?hS234 (fun hHeld => ?rest234)
  case hS234 => (intro p hp; rfl)
  refine takeD (i := 0) (d := some 54) (v := ?vT235) rfl rfl (by kernel_rfl) (by kernel_rfl) (by kernel_rfl) (fun _ _ _ h => h) (Or.inl ⟨by rfl, ?hyT235⟩) (by assumption) ?rstT235
  case hyT235 => (intro w hSw; (try dsimp only at hSw); go_simp; (try with_reducible rfl))
  try simp only [Act.put, List.setIfInBounds_toArray, List.set_cons_zero, List.set_cons_succ]
  refine takeD (i := 1) (d := some 55) (v := ?vT236) rfl rfl (by kernel_rfl) (by kernel_rfl) (by kernel_rfl) (fun _ _ _ h => h) (Or.inl ⟨by rfl, ?hyT236⟩) (by assumption) ?rstT236
  case hyT236 => (intro w hSw; (try dsimp only at hSw); go_simp; (try with_reducible rfl))
  try simp only [Act.put, List.setIfInBounds_toArray, List.set_cons_zero, List.set_cons_succ]
  refine takeD (i := 2) (d := some 56) (v := ?vT237) rfl rfl (by kernel_rfl) (by kernel_rfl) (by kernel_rfl) (fun _ _ _ h => h) (Or.inl ⟨by rfl, ?hyT237⟩) (by assumption) ?rstT237
  case hyT237 => (intro w hSw; (try dsimp only at hSw); go_simp; (try with_reducible rfl))
  try simp only [Act.put, List.setIfInBounds_toArray, List.set_cons_zero, List.set_cons_succ]
  refine takeD (i := 3) (d := some 57) (v := ?vT238) rfl rfl (by kernel_rfl) (by kernel_rfl) (by kernel_rfl) (fun _ _ _ h => h) (Or.inl ⟨by rfl, ?hyT238⟩) (by assumption) ?rstT238
  case hyT238 => (intro w hSw; (try dsimp only at hSw); go_simp; (try with_reducible rfl))
  try simp only [Act.put, List.setIfInBounds_toArray, List.set_cons_zero, List.set_cons_succ]
  refine takeD (i := 4) (d := some 58) (v := ?vT239) rfl rfl (by kernel_rfl) (by kernel_rfl) (by kernel_rfl) (fun _ _ _ h => h) (Or.inl ⟨by rfl, ?hyT239⟩) (by assumption) ?rstT239
  case hyT239 => (intro w hSw; (try dsimp only at hSw); go_simp; (try with_reducible rfl))
  try simp only [Act.put, List.setIfInBounds_toArray, List.set_cons_zero, List.set_cons_succ]
  refine wpAnyH_ready (rs := [5]) (by kernel_rfl) (by simp) ?_
  refine AllReadyH.cons rfl (fun K hK => ?_) AllReadyH.nil
  go_simp
  refine HD2v.out.mono ?_
  rintro e2 wd ⟨rfl, hUd, hKd, hCd⟩
  clear hHeld
  refine hK.out _ _ ?hS240 (fun hHeld => ?rest240)
  case hS240 => (intro p hp; exact hp.elim (fun e => Chg.cell hCd (show p.block < X.heap.size by omega) (fun hx => by omega)) (fun e => Chg.cell hCd (show p.block < X.heap.size by omega) (fun hx => by omega)))
  clear hK K
  try simp only [Act.put, List.setIfInBounds_toArray, List.set_cons_zero, List.set_cons_succ]
  refine takeD (i := 6) (d := some 8) (v := ?vT241) rfl rfl (by kernel_rfl) (by kernel_rfl) (by kernel_rfl) (fun _ _ _ h => h) (Or.inl ⟨by rfl, ?hyT241⟩) (by assumption) ?rstT241
  case hyT241 => (intro w hSw; (try dsimp only at hSw); go_simp; (try with_reducible rfl))
  try simp only [Act.put, List.setIfInBounds_toArray, List.set_cons_zero, List.set_cons_succ]
  refine wpAnyH_done (by kernel_rfl) ?_ _
  clear HD2v
  clear c0 c1 c2 c3 c4 q0 q1 hub
  have hqn := (hKd _ (by first | exact rfl | exact .inl rfl)).trans hq
  have hCn := hC.trans hCd
  have hszn := hCd.size
  clear hq hU hKd hCd hC
  try clear hHeld
  obtain ⟨X, rfl⟩ : ∃ x, x = wd := ⟨_, rfl⟩
  have hq := hqn
  have hU := hUd
  have hC := hCn
  have lP := hU.le
  have lqX := (Array.getElem?_eq_some_iff.1 hq).1
  clear hqn hUd hCn
  obtain ⟨ve, sq, ot, hub⟩ := hU.box
  obtain ⟨c0, c1, c2, c3, c4⟩ := box5 hub
  obtain ⟨q0, q1⟩ := box2 hq
  go_wp2_with fail
  have hcur : Below X.heap.size X X := Below.refl _ _
  go_cut [9, 10] (fun v9 v10 wx => ∃ k : Nat, v9 = .pointer (some ⟨k, 0, none⟩) ∧ v10 = .int .i64 0 ∧ wx.heap[k]? = some (.cells #[.int .i64 1, .int .i64 1] 23) ∧ X.heap.size ≤ k ∧ Usr wx u s h r oa oc na nc pa pc P [(a, b)] [(1, 1)] (fun g => g = w.heap.size ∨ g = k) ∧ Chg (fun g => g = s ∨ P ≤ g) X wx)
  case first =>
    refine wp_region_held_drew (S := (fun W => ∀ p : Addr, p.block = u → W.cell? p = X.cell? p)) (by kernel_rfl) ?hS242 (fun hHeld => ?rest242)
    case hS242 => (intro p hp; refine Below.cell (B := X.heap.size) ?_ (by omega); (repeat (first | with_reducible exact hcur | (with_reducible refine Below.drew ?_))))
    refine takeD (i := 0) (d := some 83) (v := ?vT243) rfl rfl (by kernel_rfl) (by kernel_rfl) (by kernel_rfl) (fun _ _ _ h => h) (Or.inl ⟨by rfl, ?hyT243⟩) (by assumption) ?rstT243
    case hyT243 => (intro w hSw; (try dsimp only at hSw); go_simp; (try with_reducible rfl))
    try simp only [Act.put, List.setIfInBounds_toArray, List.set_cons_zero, List.set_cons_succ]
    refine takeD (i := 1) (d := some 84) (v := ?vT244) rfl rfl (by kernel_rfl) (by kernel_rfl) (by kernel_rfl) (fun _ _ _ h => h) (Or.inl ⟨by rfl, ?hyT244⟩) (by assumption) ?rstT244
    case hyT244 => (intro w hSw; (try dsimp only at hSw); go_simp; (try with_reducible rfl))
    try simp only [Act.put, List.setIfInBounds_toArray, List.set_cons_zero, List.set_cons_succ]
    refine takeD (i := 2) (d := some 85) (v := ?vT245) rfl rfl (by kernel_rfl) (by kernel_rfl) (by kernel_rfl) (fun _ _ _ h => h) (Or.inl ⟨by rfl, ?hyT245⟩) (by assumption) ?rstT245
    case hyT245 => (intro w hSw; (try dsimp only at hSw); go_simp; (try with_reducible rfl))
    try simp only [Act.put, List.setIfInBounds_toArray, List.set_cons_zero, List.set_cons_succ]
    refine takeD (i := 3) (d := some 86) (v := ?vT246) rfl rfl (by kernel_rfl) (by kernel_rfl) (by kernel_rfl) (fun _ _ _ h => h) (Or.inl ⟨by rfl, ?hyT246⟩) (by assumption) ?rstT246
    case hyT246 => (intro w hSw; (try dsimp only at hSw); go_simp; (try with_reducible rfl))
    try simp only [Act.put, List.setIfInBounds_toArray, List.set_cons_zero, List.set_cons_succ]
    refine takeD (i := 4) (d := some 87) (v := ?vT247) rfl rfl (by kernel_rfl) (by kernel_rfl) (by kernel_rfl) (fun _ _ _ h => h) (Or.inl ⟨by rfl, ?hyT247⟩) (by assumption) ?rstT247
    case hyT247 => (intro w hSw; (try dsimp only at hSw); go_simp; (try with_reducible rfl))
    try simp only [Act.put, List.setIfInBounds_toArray, List.set_cons_zero, List.set_cons_succ]
    refine takeD (i := 5) (d := some 88) (v := ?vT248) rfl rfl (by kernel_rfl) (by kernel_rfl) (by kernel_rfl) (fun _ _ _ h => h) (Or.inl ⟨by rfl, ?hyT248⟩) (by assumption) ?rstT248
    case hyT248 => (intro w hSw; (try dsimp only at hSw); go_simp; (try with_reducible rfl))
    try simp only [Act.put, List.setIfInBounds_toArray, List.set_cons_zero, List.set_cons_succ]
    refine takeD (i := 6) (d := some 89) (v := ?vT249) rfl rfl (by kernel_rfl) (by kernel_rfl) (by kernel_rfl) (fun _ _ _ h => h) (Or.inl ⟨by rfl, ?hyT249⟩) (by assumption) ?rstT249
    case hyT249 => (intro w hSw; (try dsimp only at hSw); go_simp; (try with_reducible rfl))
    try simp only [Act.put, List.setIfInBounds_toArray, List.set_cons_zero, List.set_cons_succ]
    refine takeD (i := 7) (d := some 90) (v := ?vT250) rfl rfl (by kernel_rfl) (by kernel_rfl) (by kernel_rfl) (fun _ _ _ h => h) (Or.inl ⟨by rfl, ?hyT250⟩) (by assumption) ?rstT250
    case hyT250 => (intro w hSw; (try dsimp only at hSw); go_simp; (try with_reducible rfl))
    try simp only [Act.put, List.setIfInBounds_toArray, List.set_cons_zero, List.set_cons_succ]
    refine wpAnyH_ready (rs := [8, 12]) (by kernel_rfl) (by simp) (AllReadyH.cons rfl (fun K hK => ?b267) (AllReadyH.cons rfl (fun K hK => ?b268) AllReadyH.nil))
    case b267 =>
      go_simp
      refine (HU.out _ _ (hU.below (Below.refl _ _).drew)).mono ?_
      rintro e2 wu ⟨rfl, hUd, hKd, hCd⟩
      simp only [idA]
      clear hHeld
      refine hK.out _ _ ?hS269 (fun hHeld => ?rest269)
      case hS269 => (intro p hp; exact Chg.cell hCd (show p.block < X.heap.size by omega) (by omega))
      clear hK K
      try simp only [Act.put, List.setIfInBounds_toArray, List.set_cons_zero, List.set_cons_succ]
      refine takeD (i := 9) (d := some 82) (v := ?vT251) rfl rfl (by kernel_rfl) (by kernel_rfl) (by kernel_rfl) (fun _ _ _ h => h) (Or.inl ⟨by rfl, ?hyT251⟩) (by assumption) ?rstT251
      case hyT251 => (intro w hSw; (try dsimp only at hSw); go_simp; (try with_reducible rfl))
      try simp only [Act.put, List.setIfInBounds_toArray, List.set_cons_zero, List.set_cons_succ]
      refine takeD (i := 10) (d := some 92) (v := ?vT252) rfl rfl (by kernel_rfl) (by kernel_rfl) (by kernel_rfl) (fun _ _ _ h => h) (Or.inl ⟨by rfl, ?hyT252⟩) (by assumption) ?rstT252
      case hyT252 => (intro w hSw; (try dsimp only at hSw); go_simp; (try with_reducible rfl))
      try simp only [Act.put, List.setIfInBounds_toArray, List.set_cons_zero, List.set_cons_succ]
      refine takeD (i := 11) (d := some 93) (v := ?vT253) rfl rfl (by kernel_rfl) (by kernel_rfl) (by kernel_rfl) (fun _ _ _ h => h) (Or.inl ⟨by rfl, ?hyT253⟩) (by assumption) ?rstT253
      case hyT253 => (intro w hSw; (try dsimp only at hSw); go_simp; (try with_reducible rfl))
      try simp only [Act.put, List.setIfInBounds_toArray, List.set_cons_zero, List.set_cons_succ]
      refine wpAnyH_ready (rs := [12]) (by kernel_rfl) (by simp) (AllReadyH.cons rfl (fun K hK => ?b257) AllReadyH.nil)
      case b257 =>
        go_simp
        obtain ⟨wz, hwz⟩ : ∃ wz, wu.alloc (.cells #[.int .i64 0, .int .i64 0] 23) = wz := ⟨_, rfl⟩
        rw [hwz]
        have hb2 : Below wu.heap.size wu wz := by rw [← hwz]; exact (Below.refl _ _).alloc (Nat.le_refl _) _
        have hz : wz.heap[wu.heap.size]? = some (.cells #[.int .i64 0, .int .i64 0] 23) := by rw [← hwz]; exact heap_alloc_new wu _
        have hsz1 : wu.heap.size < wz.heap.size := (Array.getElem?_eq_some_iff.1 hz).1
        have hUz := hUd.news hb2 hsz1
        have hszu : X.heap.size ≤ wu.heap.size := hCd.size
        have hcl : ∀ p : Addr, p.block = u → wz.cell? p = X.cell? p := fun p hp => (hb2.cell (by omega)).trans (Chg.cell hCd (show p.block < X.heap.size by omega) (by omega))
        clear hwz
        clear hHeld
        refine hK.out _ _ ?hS258 (fun hHeld => ?rest258)
        case hS258 => (intro p hp; exact hcl p hp)
        clear hK K
        try simp only [Act.put, List.setIfInBounds_toArray, List.set_cons_zero, List.set_cons_succ]
        refine wpAnyH_ready (rs := [13]) (by kernel_rfl) (by simp) (AllReadyH.cons rfl (fun K hK => ?b255) AllReadyH.nil)
        case b255 =>
          obtain ⟨cz0, cz1⟩ := box2 hz
          have fz0 := Lib.frozen_of_heap hz 0
          have fz1 := Lib.frozen_of_heap hz 1
          obtain ⟨W9, e9, hx9, hC9⟩ := set2k (v0 := .int .i64 1) (v1 := .int .i64 1) hz
          go_simp
          try rw [e9]
          clear hHeld
          refine hK.out _ _ ?hS256 (fun hHeld => ?rest256)
          case hS256 => (intro p hp; exact (Chg.cell hC9 (by omega) (by omega)).trans (hcl p hp))
          clear hK K
          try simp only [Act.put, List.setIfInBounds_toArray, List.set_cons_zero, List.set_cons_succ]
          refine takeD (i := 14) (d := some 10) (v := ?vT254) rfl rfl (by kernel_rfl) (by kernel_rfl) (by kernel_rfl) (fun _ _ _ h => h) (Or.inl ⟨by rfl, ?hyT254⟩) (by assumption) ?rstT254
          case hyT254 => (intro w hSw; (try dsimp only at hSw); go_simp; (try with_reducible rfl))
          try simp only [Act.put, List.setIfInBounds_toArray, List.set_cons_zero, List.set_cons_succ]
          refine wpAnyH_done (by kernel_rfl) ?_ _
          go_wp2_with fail
          go_meet
          case rel => exact ⟨wu.heap.size, rfl, rfl, hx9, by omega, hUz.setK (.inr rfl) (by have := hU.le; omega) hC9, (((Chg.of_below (Below.refl _ _).drew).trans hCd).trans (Chg.of_below hb2)).trans (hC9.mono (fun g _ hg => .inr (by have := hU.le; omega)))⟩
    case b268 =>
      go_simp
      obtain ⟨wz, hwz⟩ : ∃ wz, (X.alloc (.cells #[.int .i64 0, .int .i64 0] 23)).drew = wz := ⟨_, rfl⟩
      rw [hwz]
      have hb2 : Below X.heap.size X wz := by rw [← hwz]; exact ((Below.refl _ _).alloc (Nat.le_refl _) _).drew
      have hz : wz.heap[X.heap.size]? = some (.cells #[.int .i64 0, .int .i64 0] 23) := by rw [← hwz]; exact heap_alloc_new X _
      have hsz1 : X.heap.size < wz.heap.size := (Array.getElem?_eq_some_iff.1 hz).1
      have hUz := hU.news hb2 hsz1
      clear hwz hcur
      have hcur := hb2
      clear hHeld
      refine hK.out _ _ ?hS270 (fun hHeld => ?rest270)
      case hS270 => (intro p hp; refine Below.cell (B := X.heap.size) ?_ (by omega); (repeat (first | with_reducible exact hcur | (with_reducible refine Below.drew ?_))))
      clear hK K
      try simp only [Act.put, List.setIfInBounds_toArray, List.set_cons_zero, List.set_cons_succ]
      refine wpAnyH_ready (rs := [8]) (by kernel_rfl) (by simp) (AllReadyH.cons rfl (fun K hK => ?b265) AllReadyH.nil)
      case b265 =>
        go_simp
        refine (HU.out _ _ hUz).mono ?_
        rintro e2 wu ⟨rfl, hUd, hKd, hCd⟩
        simp only [idA]
        have hz3 := (hKd _ (.inr rfl)).trans hz
        have hcl : ∀ p : Addr, p.block = u → wu.cell? p = X.cell? p := fun p hp => (Chg.cell hCd (by have := hcur.size; omega) (by omega)).trans (hcur.cell (by omega))
        have hszz : wz.heap.size ≤ wu.heap.size := hCd.size
        clear hHeld
        refine hK.out _ _ ?hS266 (fun hHeld => ?rest266)
        case hS266 => (intro p hp; exact hcl p hp)
        clear hK K
        try simp only [Act.put, List.setIfInBounds_toArray, List.set_cons_zero, List.set_cons_succ]
        refine takeD (i := 9) (d := some 82) (v := ?vT259) rfl rfl (by kernel_rfl) (by kernel_rfl) (by kernel_rfl) (fun _ _ _ h => h) (Or.inl ⟨by rfl, ?hyT259⟩) (by assumption) ?rstT259
        case hyT259 => (intro w hSw; (try dsimp only at hSw); go_simp; (try with_reducible rfl))
        try simp only [Act.put, List.setIfInBounds_toArray, List.set_cons_zero, List.set_cons_succ]
        refine takeD (i := 10) (d := some 92) (v := ?vT260) rfl rfl (by kernel_rfl) (by kernel_rfl) (by kernel_rfl) (fun _ _ _ h => h) (Or.inl ⟨by rfl, ?hyT260⟩) (by assumption) ?rstT260
        case hyT260 => (intro w hSw; (try dsimp only at hSw); go_simp; (try with_reducible rfl))
        try simp only [Act.put, List.setIfInBounds_toArray, List.set_cons_zero, List.set_cons_succ]
        refine takeD (i := 11) (d := some 93) (v := ?vT261) rfl rfl (by kernel_rfl) (by kernel_rfl) (by kernel_rfl) (fun _ _ _ h => h) (Or.inl ⟨by rfl, ?hyT261⟩) (by assumption) ?rstT261
        case hyT261 => (intro w hSw; (try dsimp only at hSw); go_simp; (try with_reducible rfl))
        try simp only [Act.put, List.setIfInBounds_toArray, List.set_cons_zero, List.set_cons_succ]
        refine wpAnyH_ready (rs := [13]) (by kernel_rfl) (by simp) (AllReadyH.cons rfl (fun K hK => ?b263) AllReadyH.nil)
        case b263 =>
          obtain ⟨cz0, cz1⟩ := box2 hz3
          have fz0 := Lib.frozen_of_heap hz3 0
          have fz1 := Lib.frozen_of_heap hz3 1
          obtain ⟨W9, e9, hx9, hC9⟩ := set2k (v0 := .int .i64 1) (v1 := .int .i64 1) hz3
          go_simp
          try rw [e9]
          clear hHeld
          refine hK.out _ _ ?hS264 (fun hHeld => ?rest264)
          case hS264 => (intro p hp; exact (Chg.cell hC9 (by omega) (by omega)).trans (hcl p hp))
          clear hK K
          try simp only [Act.put, List.setIfInBounds_toArray, List.set_cons_zero, List.set_cons_succ]
          refine takeD (i := 14) (d := some 10) (v := ?vT262) rfl rfl (by kernel_rfl) (by kernel_rfl) (by kernel_rfl) (fun _ _ _ h => h) (Or.inl ⟨by rfl, ?hyT262⟩) (by assumption) ?rstT262
          case hyT262 => (intro w hSw; (try dsimp only at hSw); go_simp; (try with_reducible rfl))
          try simp only [Act.put, List.setIfInBounds_toArray, List.set_cons_zero, List.set_cons_succ]
          refine wpAnyH_done (by kernel_rfl) ?_ _
          go_wp2_with fail
          go_meet
          case rel => exact ⟨X.heap.size, rfl, rfl, hx9, by omega, hUd.setK (.inr rfl) hU.le hC9, ((Chg.of_below hb2).trans hCd).trans (hC9.mono (fun g _ hg => .inr (by have := hU.le; omega)))⟩
  case rest =>
    obtain ⟨Y, rfl⟩ : ∃ x, x = wc := ⟨_, rfl⟩
    obtain ⟨k, rfl, rfl, hk, hgk, hUY, hCY⟩ := hcut
    have hqY := hCY.block hq (by omega)
    have hCC := hC.trans hCY
    have hszY := hCY.size
    clear hU hq hC hCY hub c0 c1 c2 c3 c4 q0 q1 hcur HU
    obtain ⟨X, rfl⟩ : ∃ x, x = Y := ⟨_, rfl⟩
    have hU := hUY
    have hq := hqY
    have hC := hCC
    have lP := hU.le
    have lqX := (Array.getElem?_eq_some_iff.1 hq).1
    clear hUY hqY hCC
    obtain ⟨ve, sq, ot, hub⟩ := hU.box
    obtain ⟨c0, c1, c2, c3, c4⟩ := box5 hub
    obtain ⟨q0, q1⟩ := box2 hq
    obtain ⟨k0, k1⟩ := box2 hk
    go_wp2_with fail
    refine (HD3.out _ _ hU).mono ?_
    rintro e wd ⟨rfl, hUd, hKd, hCd⟩
    have hkn := (hKd _ (.inr rfl)).trans hk
    clear hk k0 k1
    clear c0 c1 c2 c3 c4 q0 q1 hub
    have hqn := (hKd _ (by first | exact rfl | exact .inl rfl)).trans hq
    have hCn := hC.trans hCd
    have hszn := hCd.size
    clear hq hU hKd hCd hC
    try clear hHeld
    obtain ⟨X, rfl⟩ : ∃ x, x = wd := ⟨_, rfl⟩
    have hq := hqn
    have hU := hUd
    have hC := hCn
    have lP := hU.le
    have lqX := (Array.getElem?_eq_some_iff.1 hq).1
    clear hqn hUd hCn
    have hk := hkn
    clear hkn
    obtain ⟨ve, sq, ot, hub⟩ := hU.box
    obtain ⟨c0, c1, c2, c3, c4⟩ := box5 hub
    obtain ⟨q0, q1⟩ := box2 hq
    obtain ⟨k0, k1⟩ := box2 hk
    go_wp2_with fail
    refine (HD4.out _ _ hU).mono ?_
    rintro e wd ⟨rfl, hUd, hKd, hCd⟩
    have hkn := (hKd _ (.inr rfl)).trans hk
    clear hk k0 k1
    clear c0 c1 c2 c3 c4 q0 q1 hub
    have hqn := (hKd _ (by first | exact rfl | exact .inl rfl)).trans hq
    have hCn := hC.trans hCd
    have hszn := hCd.size
    clear hq hU hKd hCd hC
    try clear hHeld
    obtain ⟨X, rfl⟩ : ∃ x, x = wd := ⟨_, rfl⟩
    have hq := hqn
    have hU := hUd
    have hC := hCn
    have lP := hU.le
    have lqX := (Array.getElem?_eq_some_iff.1 hq).1
    clear hqn hUd hCn
    have hk := hkn
    clear hkn
    obtain ⟨ve, sq, ot, hub⟩ := hU.box
    obtain ⟨c0, c1, c2, c3, c4⟩ := box5 hub
    obtain ⟨q0, q1⟩ := box2 hq
    obtain ⟨k0, k1⟩ := box2 hk
    go_wp2_with fail
    refine (HD5.out _ _ hU).mono ?_
    rintro e wd ⟨rfl, hUd, hKd, hCd⟩
    have hkn := (hKd _ (.inr rfl)).trans hk
    clear hk k0 k1
    clear c0 c1 c2 c3 c4 q0 q1 hub
    have hqn := (hKd _ (by first | exact rfl | exact .inl rfl)).trans hq
    have hCn := hC.trans hCd
    have hszn := hCd.size
    clear hq hU hKd hCd hC
    try clear hHeld
    obtain ⟨X, rfl⟩ : ∃ x, x = wd := ⟨_, rfl⟩
    have hq := hqn
    have hU := hUd
    have hC := hCn
    have lP := hU.le
    have lqX := (Array.getElem?_eq_some_iff.1 hq).1
    clear hqn hUd hCn
    have hk := hkn
    clear hkn
    obtain ⟨ve, sq, ot, hub⟩ := hU.box
    obtain ⟨c0, c1, c2, c3, c4⟩ := box5 hub
    obtain ⟨q0, q1⟩ := box2 hq
    obtain ⟨k0, k1⟩ := box2 hk
    have HL := hU.lists (by simp) (by simp)
    simp only [List.length_cons, List.length_nil, Nat.zero_add, Nat.reduceAdd] at HL
    go_wp2_with fail
    refine HL.mono ?_
    rintro e wL ⟨a1, l1, a2, l2, rfl, ho1, ho2, hbL⟩
    have hqL := (hbL.block w.heap.size (by omega)).trans hq
    clear c0 c1 c2 c3 c4 q0 q1 hub
    obtain ⟨q0, q1⟩ := box2 hqL
    obtain ⟨g1, cp1, e1, hg1, hgl1, -⟩ := ho1.ptr (by simp)
    simp only [List.length_cons, List.length_nil, Nat.zero_add, Nat.reduceAdd, Value.slice.injEq] at e1
    obtain ⟨rfl, -, rfl⟩ := e1
    obtain ⟨g', off, ha0, hgl, hcl⟩ := (ho1.rw_ layI).cells (by omega)
    cases ha0
    have p0 := hcl 2 _ rfl 0 _ rfl
    have p1 := hcl 2 _ rfl 1 _ rfl
    simp only [Nat.zero_add, Nat.reduceMul, Nat.reduceAdd] at p0 p1
    have i0 : IntKind.i64.wrap 2 = 2 := by decide
    clear hcl
    clear HL ho1 ho2
    go_wp2_with fail
    go_ret
    exact ⟨rfl, hk1.trans ((hC.trans (Chg.of_below hbL)).below (fun g hg => by omega) (by omega))⟩
end Go.Proofs.YtokkodkhkpgebaaDoor
