import Derived.Test.YtokkodkhkpgebaaDoorKcH
/-! StacksDid at (1, 1). -/
namespace Go.Proofs.YtokkodkhkpgebaaDoor
open Go.RowKit Go.Lib
set_option maxRecDepth 100000

set_option maxHeartbeats 16000000 in
theorem did_same {a b : Int} (hc : a = 1 ∧ b = 1) {w : World} (hw : Bar w) :
    Calls Tryd.prog 3 #[.agg #[.int .i64 a, .int .i64 b]] w fun e w' => e = .returned (.bool true) ∧ Below w.heap.size w w' := by
  have HG : Tryd.prog.eqGuardType Tryd.prog.depth 23 = false := by kernel_rfl
  obtain ⟨rfl, rfl⟩ := hc
  obtain ⟨w1, hw1⟩ : ∃ w1, w.alloc (.cells #[.int .i64 1, .int .i64 1] 23) = w1 := ⟨_, rfl⟩
  have k1 : Below w.heap.size w w1 := by rw [← hw1]; exact (Below.refl _ _).alloc (Nat.le_refl _) _
  have hq1 : w1.heap[w.heap.size]? = some (.cells #[.int .i64 1, .int .i64 1] 23) := by rw [← hw1]; exact heap_alloc_new _ _
  have lq1 : w.heap.size < w1.heap.size := (Array.getElem?_eq_some_iff.1 hq1).1
  have HA := arrivedX (hw.below k1)
  clear hw
  go_enter Tryd.func3, Tryd.ntmps3
  go_wp2_with fail
  refine HA.mono ?_
  rintro e X ⟨u, s, h, r, oa, oc, na, nc, pa, pc, P, rfl, hU0, hgs, hgP, hbX⟩
  clear HA hw1
  have hU := hU0.monoK (K' := (fun g => g = w.heap.size)) (fun g hg => by rw [hg]; exact lq1)
  have hq := (hbX.block w.heap.size lq1).trans hq1
  have hk1 : Below w.heap.size w X := k1.trans (hbX.mono k1.size)
  obtain ⟨⟨lu1, lu2⟩, -⟩ := hU.lo
  have lP := hU.le
  have lqX : w.heap.size < X.heap.size := (Array.getElem?_eq_some_iff.1 hq).1
  have hC : Chg (fun g => g = s ∨ P ≤ g) X X := Chg.refl _ _
  clear hU0 hq1 hbX
  have HD1 : Hid (∀ W, Usr W u s h r oa oc na nc pa pc P [(1, 1)] [] (fun g => g = w.heap.size) → Calls Tryd.prog 7 #[.pointer (some ⟨s, 0, none⟩), (.agg #[.int .i64 1, .int .i64 1])] W fun e W' => e = .returned (.int .i64 61) ∧ UsrP W u s h r oa oc na nc pa pc P [(1, 1)] [] (fun g => g = w.heap.size) W') := fun W hW => by
    have hh := hW.did (by simp) (1, 1)
    rw [show didP [(1, 1)] [] (1, 1) = (61, [(1, 1)], []) from by decide] at hh
    exact hh
  have HD2 : Hid (∀ W, Usr W u s h r oa oc na nc pa pc P [(1, 1)] [] (fun g => g = w.heap.size) → Calls Tryd.prog 7 #[.pointer (some ⟨s, 0, none⟩), (.agg #[.int .i64 1, .int .i64 1])] W fun e W' => e = .returned (.int .i64 61) ∧ UsrP W u s h r oa oc na nc pa pc P [(1, 1)] [] (fun g => g = w.heap.size) W') := fun W hW => by
    have hh := hW.did (by simp) (1, 1)
    rw [show didP [(1, 1)] [] (1, 1) = (61, [(1, 1)], []) from by decide] at hh
    exact hh
  have HU : Hid (∀ W K, Usr W u s h r oa oc na nc pa pc P [(1, 1)] [] K → Calls Tryd.prog 8 #[.pointer (some ⟨s, 0, none⟩), .pointer (some ⟨h, 0, none⟩)] W fun e W' => e = .returned (.tuple #[idA (1, 1), .int .i64 0]) ∧ UsrP W u s h r oa oc na nc pa pc P ([] : List (Int × Int)) [(1, 1)] K W') := fun W K hW => hW.undo (by simp) (by decide)
  have HD3 : Hid (∀ W k, Usr W u s h r oa oc na nc pa pc P ([] : List (Int × Int)) [(1, 1)] (fun g => g = w.heap.size ∨ g = k) → Calls Tryd.prog 7 #[.pointer (some ⟨s, 0, none⟩), (.agg #[.int .i64 1, .int .i64 1])] W fun e W' => e = .returned (.int .i64 61) ∧ UsrP W u s h r oa oc na nc pa pc P ([] : List (Int × Int)) [(1, 1)] (fun g => g = w.heap.size ∨ g = k) W') := fun W k hW => by
    have hh := hW.did (by simp) (1, 1)
    rw [show didP ([] : List (Int × Int)) [(1, 1)] (1, 1) = (61, ([] : List (Int × Int)), [(1, 1)]) from by decide] at hh
    exact hh
  have HD4 : Hid (∀ W k, Usr W u s h r oa oc na nc pa pc P ([] : List (Int × Int)) [(1, 1)] (fun g => g = w.heap.size ∨ g = k) → Calls Tryd.prog 7 #[.pointer (some ⟨s, 0, none⟩), (.agg #[.int .i64 5, .int .i64 5])] W fun e W' => e = .returned (.int .i64 0) ∧ UsrP W u s h r oa oc na nc pa pc P [(5, 5)] [] (fun g => g = w.heap.size ∨ g = k) W') := fun W k hW => by
    have hh := hW.did (by simp) (5, 5)
    rw [show didP ([] : List (Int × Int)) [(1, 1)] (5, 5) = (0, [(5, 5)], []) from by decide] at hh
    exact hh
  have HD5 : Hid (∀ W k, Usr W u s h r oa oc na nc pa pc P [(5, 5)] [] (fun g => g = w.heap.size ∨ g = k) → Calls Tryd.prog 7 #[.pointer (some ⟨s, 0, none⟩), (.agg #[.int .i64 1, .int .i64 1])] W fun e W' => e = .returned (.int .i64 0) ∧ UsrP W u s h r oa oc na nc pa pc P [(5, 5), (1, 1)] [] (fun g => g = w.heap.size ∨ g = k) W') := fun W k hW => by
    have hh := hW.did (by simp) (1, 1)
    rw [show didP [(5, 5)] [] (1, 1) = (0, [(5, 5), (1, 1)], []) from by decide] at hh
    exact hh
  have heq1 : ∀ W : World, (Op.equalIn 10000 23 (.agg #[.int .i64 1, .int .i64 1]) (.agg #[.int .i64 1, .int .i64 1])).run Tryd.prog W = .ok true W := fun W => by rw [run_eqI]; rfl
  have heq5 : ∀ W : World, (Op.equalIn 10000 23 (.agg #[.int .i64 1, .int .i64 1]) (.agg #[.int .i64 5, .int .i64 5])).run Tryd.prog W = .ok false W := fun W => by rw [run_eqI]; rfl
  obtain ⟨X0, hX0⟩ : ∃ x, x = X := ⟨_, rfl⟩
  have hk1 : Below w.heap.size w X0 := by rw [hX0]; exact hk1
  have hC : Chg (fun g => g = s ∨ P ≤ g) X0 X := by rw [hX0]; exact hC
  have hsz0 : w.heap.size ≤ X0.heap.size := hk1.size
  clear hX0
  obtain ⟨ve, sq, ot, hub⟩ := hU.box
  obtain ⟨c0, c1, c2, c3, c4⟩ := box5 hub
  obtain ⟨q0, q1⟩ := box2 hq
  go_wp2_with fail
  have HD1u := HD1.out X.drew (hU.below (Below.refl _ _).drew)
  have HD1v : Hid (Calls Tryd.prog 7 #[.pointer (some ⟨s, 0, none⟩), (.agg #[.int .i64 1, .int .i64 1])] X.drew fun e W' => e = .returned (.int .i64 61) ∧ Usr W' u s h r oa oc na nc pa pc P [(1, 1)] [] (fun g => g = w.heap.size) ∧ (∀ g, (fun g => g = w.heap.size) g → W'.heap[g]? = X.heap[g]?) ∧ Chg (fun g => g = s ∨ P ≤ g) X W') := HD1u.mono fun e W' ⟨h1, h2, h3, h4⟩ => ⟨h1, h2, h3, (Chg.of_below (Below.refl _ _).drew).trans h4⟩
  clear HD1u
  refine wp_region_held_drew (S := (fun W => ∀ p : Addr, (p.block = u ∨ p.block = w.heap.size) → W.cell? p = X.cell? p)) (by kernel_rfl) ?hS181 (fun hHeld => ?rest181)
  case hS181 => (intro p hp; rfl)
  refine takeD (i := 0) (d := some 48) (v := ?vT182) rfl rfl (by kernel_rfl) (by kernel_rfl) (by kernel_rfl) (fun _ _ _ h => h) (Or.inl ⟨by rfl, ?hyT182⟩) (by assumption) ?rstT182
  case hyT182 => (intro w hSw; (try dsimp only at hSw); go_simp; (try with_reducible rfl))
  try simp only [Act.put, List.setIfInBounds_toArray, List.set_cons_zero, List.set_cons_succ]
  refine takeD (i := 1) (d := some 49) (v := ?vT183) rfl rfl (by kernel_rfl) (by kernel_rfl) (by kernel_rfl) (fun _ _ _ h => h) (Or.inl ⟨by rfl, ?hyT183⟩) (by assumption) ?rstT183
  case hyT183 => (intro w hSw; (try dsimp only at hSw); go_simp; (try with_reducible rfl))
  try simp only [Act.put, List.setIfInBounds_toArray, List.set_cons_zero, List.set_cons_succ]
  refine takeD (i := 2) (d := some 50) (v := ?vT184) rfl rfl (by kernel_rfl) (by kernel_rfl) (by kernel_rfl) (fun _ _ _ h => h) (Or.inl ⟨by rfl, ?hyT184⟩) (by assumption) ?rstT184
  case hyT184 => (intro w hSw; (try dsimp only at hSw); go_simp; (try with_reducible rfl))
  try simp only [Act.put, List.setIfInBounds_toArray, List.set_cons_zero, List.set_cons_succ]
  refine takeD (i := 3) (d := some 51) (v := ?vT185) rfl rfl (by kernel_rfl) (by kernel_rfl) (by kernel_rfl) (fun _ _ _ h => h) (Or.inl ⟨by rfl, ?hyT185⟩) (by assumption) ?rstT185
  case hyT185 => (intro w hSw; (try dsimp only at hSw); go_simp; (try with_reducible rfl))
  try simp only [Act.put, List.setIfInBounds_toArray, List.set_cons_zero, List.set_cons_succ]
  refine takeD (i := 4) (d := some 52) (v := ?vT186) rfl rfl (by kernel_rfl) (by kernel_rfl) (by kernel_rfl) (fun _ _ _ h => h) (Or.inl ⟨by rfl, ?hyT186⟩) (by assumption) ?rstT186
  case hyT186 => (intro w hSw; (try dsimp only at hSw); go_simp; (try with_reducible rfl))
  try simp only [Act.put, List.setIfInBounds_toArray, List.set_cons_zero, List.set_cons_succ]
  refine wpAnyH_ready (rs := [5]) (by kernel_rfl) (by simp) ?_
  refine AllReadyH.cons rfl (fun K hK => ?_) AllReadyH.nil
  go_simp
  refine HD1v.out.mono ?_
  rintro e2 wd ⟨rfl, hUd, hKd, hCd⟩
  clear hHeld
  refine hK.out _ _ ?hS187 (fun hHeld => ?rest187)
  case hS187 => (intro p hp; exact hp.elim (fun e => Chg.cell hCd (show p.block < X.heap.size by omega) (fun hx => by omega)) (fun e => Chg.cell hCd (show p.block < X.heap.size by omega) (fun hx => by omega)))
  clear hK K
  try simp only [Act.put, List.setIfInBounds_toArray, List.set_cons_zero, List.set_cons_succ]
  refine takeD (i := 6) (d := some 7) (v := ?vT188) rfl rfl (by kernel_rfl) (by kernel_rfl) (by kernel_rfl) (fun _ _ _ h => h) (Or.inl ⟨by rfl, ?hyT188⟩) (by assumption) ?rstT188
  case hyT188 => (intro w hSw; (try dsimp only at hSw); go_simp; (try with_reducible rfl))
  try simp only [Act.put, List.setIfInBounds_toArray, List.set_cons_zero, List.set_cons_succ]
  refine wpAnyH_done (by kernel_rfl) ?_ _
  clear HD1v
  clear c0 c1 c2 c3 c4 q0 q1 hub
  have hqn := (hKd _ (by first | exact rfl | exact .inl rfl)).trans hq
  have hCn := hC.trans hCd
  have hszn := hCd.size
  clear hq hU hKd hCd hC
  try clear hHeld
  obtain ⟨X, rfl⟩ : ∃ x, x = wd := ⟨_, rfl⟩
  have hq := hqn
  have hU := hUd
  have hC := hCn
  have lP := hU.le
  have lqX := (Array.getElem?_eq_some_iff.1 hq).1
  clear hqn hUd hCn
  obtain ⟨ve, sq, ot, hub⟩ := hU.box
  obtain ⟨c0, c1, c2, c3, c4⟩ := box5 hub
  obtain ⟨q0, q1⟩ := box2 hq
  go_wp2_with fail
  have HD2u := HD2.out X.drew (hU.below (Below.refl _ _).drew)
  have HD2v : Hid (Calls Tryd.prog 7 #[.pointer (some ⟨s, 0, none⟩), (.agg #[.int .i64 1, .int .i64 1])] X.drew fun e W' => e = .returned (.int .i64 61) ∧ Usr W' u s h r oa oc na nc pa pc P [(1, 1)] [] (fun g => g = w.heap.size) ∧ (∀ g, (fun g => g = w.heap.size) g → W'.heap[g]? = X.heap[g]?) ∧ Chg (fun g => g = s ∨ P ≤ g) X W') := HD2u.mono fun e W' ⟨h1, h2, h3, h4⟩ => ⟨h1, h2, h3, (Chg.of_below (Below.refl _ _).drew).trans h4⟩
  clear HD2u
  refine wp_region_held_drew (S := (fun W => ∀ p : Addr, (p.block = u ∨ p.block = w.heap.size) → W.cell? p = X.cell? p)) (by kernel_rfl) ?hS189 (fun hHeld => ?rest189)
  case hS189 => (intro p hp; rfl)
  refine takeD (i := 0) (d := some 54) (v := ?vT190) rfl rfl (by kernel_rfl) (by kernel_rfl) (by kernel_rfl) (fun _ _ _ h => h) (Or.inl ⟨by rfl, ?hyT190⟩) (by assumption) ?rstT190
  case hyT190 => (intro w hSw; (try dsimp only at hSw); go_simp; (try with_reducible rfl))
  try simp only [Act.put, List.setIfInBounds_toArray, List.set_cons_zero, List.set_cons_succ]
  refine takeD (i := 1) (d := some 55) (v := ?vT191) rfl rfl (by kernel_rfl) (by kernel_rfl) (by kernel_rfl) (fun _ _ _ h => h) (Or.inl ⟨by rfl, ?hyT191⟩) (by assumption) ?rstT191
  case hyT191 => (intro w hSw; (try dsimp only at hSw); go_simp; (try with_reducible rfl))
  try simp only [Act.put, List.setIfInBounds_toArray, List.set_cons_zero, List.set_cons_succ]
  refine takeD (i := 2) (d := some 56) (v := ?vT192) rfl rfl (by kernel_rfl) (by kernel_rfl) (by kernel_rfl) (fun _ _ _ h => h) (Or.inl ⟨by rfl, ?hyT192⟩) (by assumption) ?rstT192
  case hyT192 => (intro w hSw; (try dsimp only at hSw); go_simp; (try with_reducible rfl))
  try simp only [Act.put, List.setIfInBounds_toArray, List.set_cons_zero, List.set_cons_succ]
  refine takeD (i := 3) (d := some 57) (v := ?vT193) rfl rfl (by kernel_rfl) (by kernel_rfl) (by kernel_rfl) (fun _ _ _ h => h) (Or.inl ⟨by rfl, ?hyT193⟩) (by assumption) ?rstT193
  case hyT193 => (intro w hSw; (try dsimp only at hSw); go_simp; (try with_reducible rfl))
  try simp only [Act.put, List.setIfInBounds_toArray, List.set_cons_zero, List.set_cons_succ]
  refine takeD (i := 4) (d := some 58) (v := ?vT194) rfl rfl (by kernel_rfl) (by kernel_rfl) (by kernel_rfl) (fun _ _ _ h => h) (Or.inl ⟨by rfl, ?hyT194⟩) (by assumption) ?rstT194
  case hyT194 => (intro w hSw; (try dsimp only at hSw); go_simp; (try with_reducible rfl))
  try simp only [Act.put, List.setIfInBounds_toArray, List.set_cons_zero, List.set_cons_succ]
  refine wpAnyH_ready (rs := [5]) (by kernel_rfl) (by simp) ?_
  refine AllReadyH.cons rfl (fun K hK => ?_) AllReadyH.nil
  go_simp
  refine HD2v.out.mono ?_
  rintro e2 wd ⟨rfl, hUd, hKd, hCd⟩
  clear hHeld
  refine hK.out _ _ ?hS195 (fun hHeld => ?rest195)
  case hS195 => (intro p hp; exact hp.elim (fun e => Chg.cell hCd (show p.block < X.heap.size by omega) (fun hx => by omega)) (fun e => Chg.cell hCd (show p.block < X.heap.size by omega) (fun hx => by omega)))
  clear hK K
  try simp only [Act.put, List.setIfInBounds_toArray, List.set_cons_zero, List.set_cons_succ]
  refine takeD (i := 6) (d := some 8) (v := ?vT196) rfl rfl (by kernel_rfl) (by kernel_rfl) (by kernel_rfl) (fun _ _ _ h => h) (Or.inl ⟨by rfl, ?hyT196⟩) (by assumption) ?rstT196
  case hyT196 => (intro w hSw; (try dsimp only at hSw); go_simp; (try with_reducible rfl))
  try simp only [Act.put, List.setIfInBounds_toArray, List.set_cons_zero, List.set_cons_succ]
  refine wpAnyH_done (by kernel_rfl) ?_ _
  clear HD2v
  clear c0 c1 c2 c3 c4 q0 q1 hub
  have hqn := (hKd _ (by first | exact rfl | exact .inl rfl)).trans hq
  have hCn := hC.trans hCd
  have hszn := hCd.size
  clear hq hU hKd hCd hC
  try clear hHeld
  obtain ⟨X, rfl⟩ : ∃ x, x = wd := ⟨_, rfl⟩
  have hq := hqn
  have hU := hUd
  have hC := hCn
  have lP := hU.le
  have lqX := (Array.getElem?_eq_some_iff.1 hq).1
  clear hqn hUd hCn
  obtain ⟨ve, sq, ot, hub⟩ := hU.box
  obtain ⟨c0, c1, c2, c3, c4⟩ := box5 hub
  obtain ⟨q0, q1⟩ := box2 hq
  go_wp2_with fail
  have hcur : Below X.heap.size X X := Below.refl _ _
  go_cut [9, 10] (fun v9 v10 wx => ∃ k : Nat, v9 = .pointer (some ⟨k, 0, none⟩) ∧ v10 = .int .i64 0 ∧ wx.heap[k]? = some (.cells #[.int .i64 1, .int .i64 1] 23) ∧ X.heap.size ≤ k ∧ Usr wx u s h r oa oc na nc pa pc P ([] : List (Int × Int)) [(1, 1)] (fun g => g = w.heap.size ∨ g = k) ∧ Chg (fun g => g = s ∨ P ≤ g) X wx)
  case first =>
    refine wp_region_held_drew (S := (fun W => ∀ p : Addr, p.block = u → W.cell? p = X.cell? p)) (by kernel_rfl) ?hS197 (fun hHeld => ?rest197)
    case hS197 => (intro p hp; refine Below.cell (B := X.heap.size) ?_ (by omega); (repeat (first | with_reducible exact hcur | (with_reducible refine Below.drew ?_))))
    refine takeD (i := 0) (d := some 83) (v := ?vT198) rfl rfl (by kernel_rfl) (by kernel_rfl) (by kernel_rfl) (fun _ _ _ h => h) (Or.inl ⟨by rfl, ?hyT198⟩) (by assumption) ?rstT198
    case hyT198 => (intro w hSw; (try dsimp only at hSw); go_simp; (try with_reducible rfl))
    try simp only [Act.put, List.setIfInBounds_toArray, List.set_cons_zero, List.set_cons_succ]
    refine takeD (i := 1) (d := some 84) (v := ?vT199) rfl rfl (by kernel_rfl) (by kernel_rfl) (by kernel_rfl) (fun _ _ _ h => h) (Or.inl ⟨by rfl, ?hyT199⟩) (by assumption) ?rstT199
    case hyT199 => (intro w hSw; (try dsimp only at hSw); go_simp; (try with_reducible rfl))
    try simp only [Act.put, List.setIfInBounds_toArray, List.set_cons_zero, List.set_cons_succ]
    refine takeD (i := 2) (d := some 85) (v := ?vT200) rfl rfl (by kernel_rfl) (by kernel_rfl) (by kernel_rfl) (fun _ _ _ h => h) (Or.inl ⟨by rfl, ?hyT200⟩) (by assumption) ?rstT200
    case hyT200 => (intro w hSw; (try dsimp only at hSw); go_simp; (try with_reducible rfl))
    try simp only [Act.put, List.setIfInBounds_toArray, List.set_cons_zero, List.set_cons_succ]
    refine takeD (i := 3) (d := some 86) (v := ?vT201) rfl rfl (by kernel_rfl) (by kernel_rfl) (by kernel_rfl) (fun _ _ _ h => h) (Or.inl ⟨by rfl, ?hyT201⟩) (by assumption) ?rstT201
    case hyT201 => (intro w hSw; (try dsimp only at hSw); go_simp; (try with_reducible rfl))
    try simp only [Act.put, List.setIfInBounds_toArray, List.set_cons_zero, List.set_cons_succ]
    refine takeD (i := 4) (d := some 87) (v := ?vT202) rfl rfl (by kernel_rfl) (by kernel_rfl) (by kernel_rfl) (fun _ _ _ h => h) (Or.inl ⟨by rfl, ?hyT202⟩) (by assumption) ?rstT202
    case hyT202 => (intro w hSw; (try dsimp only at hSw); go_simp; (try with_reducible rfl))
    try simp only [Act.put, List.setIfInBounds_toArray, List.set_cons_zero, List.set_cons_succ]
    refine takeD (i := 5) (d := some 88) (v := ?vT203) rfl rfl (by kernel_rfl) (by kernel_rfl) (by kernel_rfl) (fun _ _ _ h => h) (Or.inl ⟨by rfl, ?hyT203⟩) (by assumption) ?rstT203
    case hyT203 => (intro w hSw; (try dsimp only at hSw); go_simp; (try with_reducible rfl))
    try simp only [Act.put, List.setIfInBounds_toArray, List.set_cons_zero, List.set_cons_succ]
    refine takeD (i := 6) (d := some 89) (v := ?vT204) rfl rfl (by kernel_rfl) (by kernel_rfl) (by kernel_rfl) (fun _ _ _ h => h) (Or.inl ⟨by rfl, ?hyT204⟩) (by assumption) ?rstT204
    case hyT204 => (intro w hSw; (try dsimp only at hSw); go_simp; (try with_reducible rfl))
    try simp only [Act.put, List.setIfInBounds_toArray, List.set_cons_zero, List.set_cons_succ]
    refine takeD (i := 7) (d := some 90) (v := ?vT205) rfl rfl (by kernel_rfl) (by kernel_rfl) (by kernel_rfl) (fun _ _ _ h => h) (Or.inl ⟨by rfl, ?hyT205⟩) (by assumption) ?rstT205
    case hyT205 => (intro w hSw; (try dsimp only at hSw); go_simp; (try with_reducible rfl))
    try simp only [Act.put, List.setIfInBounds_toArray, List.set_cons_zero, List.set_cons_succ]
    refine wpAnyH_ready (rs := [8, 12]) (by kernel_rfl) (by simp) (AllReadyH.cons rfl (fun K hK => ?b222) (AllReadyH.cons rfl (fun K hK => ?b223) AllReadyH.nil))
    case b222 =>
      go_simp
      refine (HU.out _ _ (hU.below (Below.refl _ _).drew)).mono ?_
      rintro e2 wu ⟨rfl, hUd, hKd, hCd⟩
      simp only [idA]
      clear hHeld
      refine hK.out _ _ ?hS224 (fun hHeld => ?rest224)
      case hS224 => (intro p hp; exact Chg.cell hCd (show p.block < X.heap.size by omega) (by omega))
      clear hK K
      try simp only [Act.put, List.setIfInBounds_toArray, List.set_cons_zero, List.set_cons_succ]
      refine takeD (i := 9) (d := some 82) (v := ?vT206) rfl rfl (by kernel_rfl) (by kernel_rfl) (by kernel_rfl) (fun _ _ _ h => h) (Or.inl ⟨by rfl, ?hyT206⟩) (by assumption) ?rstT206
      case hyT206 => (intro w hSw; (try dsimp only at hSw); go_simp; (try with_reducible rfl))
      try simp only [Act.put, List.setIfInBounds_toArray, List.set_cons_zero, List.set_cons_succ]
      refine takeD (i := 10) (d := some 92) (v := ?vT207) rfl rfl (by kernel_rfl) (by kernel_rfl) (by kernel_rfl) (fun _ _ _ h => h) (Or.inl ⟨by rfl, ?hyT207⟩) (by assumption) ?rstT207
      case hyT207 => (intro w hSw; (try dsimp only at hSw); go_simp; (try with_reducible rfl))
      try simp only [Act.put, List.setIfInBounds_toArray, List.set_cons_zero, List.set_cons_succ]
      refine takeD (i := 11) (d := some 93) (v := ?vT208) rfl rfl (by kernel_rfl) (by kernel_rfl) (by kernel_rfl) (fun _ _ _ h => h) (Or.inl ⟨by rfl, ?hyT208⟩) (by assumption) ?rstT208
      case hyT208 => (intro w hSw; (try dsimp only at hSw); go_simp; (try with_reducible rfl))
      try simp only [Act.put, List.setIfInBounds_toArray, List.set_cons_zero, List.set_cons_succ]
      refine wpAnyH_ready (rs := [12]) (by kernel_rfl) (by simp) (AllReadyH.cons rfl (fun K hK => ?b212) AllReadyH.nil)
      case b212 =>
        go_simp
        obtain ⟨wz, hwz⟩ : ∃ wz, wu.alloc (.cells #[.int .i64 0, .int .i64 0] 23) = wz := ⟨_, rfl⟩
        rw [hwz]
        have hb2 : Below wu.heap.size wu wz := by rw [← hwz]; exact (Below.refl _ _).alloc (Nat.le_refl _) _
        have hz : wz.heap[wu.heap.size]? = some (.cells #[.int .i64 0, .int .i64 0] 23) := by rw [← hwz]; exact heap_alloc_new wu _
        have hsz1 : wu.heap.size < wz.heap.size := (Array.getElem?_eq_some_iff.1 hz).1
        have hUz := hUd.news hb2 hsz1
        have hszu : X.heap.size ≤ wu.heap.size := hCd.size
        have hcl : ∀ p : Addr, p.block = u → wz.cell? p = X.cell? p := fun p hp => (hb2.cell (by omega)).trans (Chg.cell hCd (show p.block < X.heap.size by omega) (by omega))
        clear hwz
        clear hHeld
        refine hK.out _ _ ?hS213 (fun hHeld => ?rest213)
        case hS213 => (intro p hp; exact hcl p hp)
        clear hK K
        try simp only [Act.put, List.setIfInBounds_toArray, List.set_cons_zero, List.set_cons_succ]
        refine wpAnyH_ready (rs := [13]) (by kernel_rfl) (by simp) (AllReadyH.cons rfl (fun K hK => ?b210) AllReadyH.nil)
        case b210 =>
          obtain ⟨cz0, cz1⟩ := box2 hz
          have fz0 := Lib.frozen_of_heap hz 0
          have fz1 := Lib.frozen_of_heap hz 1
          obtain ⟨W9, e9, hx9, hC9⟩ := set2k (v0 := .int .i64 1) (v1 := .int .i64 1) hz
          go_simp
          try rw [e9]
          clear hHeld
          refine hK.out _ _ ?hS211 (fun hHeld => ?rest211)
          case hS211 => (intro p hp; exact (Chg.cell hC9 (by omega) (by omega)).trans (hcl p hp))
          clear hK K
          try simp only [Act.put, List.setIfInBounds_toArray, List.set_cons_zero, List.set_cons_succ]
          refine takeD (i := 14) (d := some 10) (v := ?vT209) rfl rfl (by kernel_rfl) (by kernel_rfl) (by kernel_rfl) (fun _ _ _ h => h) (Or.inl ⟨by rfl, ?hyT209⟩) (by assumption) ?rstT209
          case hyT209 => (intro w hSw; (try dsimp only at hSw); go_simp; (try with_reducible rfl))
          try simp only [Act.put, List.setIfInBounds_toArray, List.set_cons_zero, List.set_cons_succ]
          refine wpAnyH_done (by kernel_rfl) ?_ _
          go_wp2_with fail
          go_meet
          case rel => exact ⟨wu.heap.size, rfl, rfl, hx9, by omega, hUz.setK (.inr rfl) (by have := hU.le; omega) hC9, (((Chg.of_below (Below.refl _ _).drew).trans hCd).trans (Chg.of_below hb2)).trans (hC9.mono (fun g _ hg => .inr (by have := hU.le; omega)))⟩
    case b223 =>
      go_simp
      obtain ⟨wz, hwz⟩ : ∃ wz, (X.alloc (.cells #[.int .i64 0, .int .i64 0] 23)).drew = wz := ⟨_, rfl⟩
      rw [hwz]
      have hb2 : Below X.heap.size X wz := by rw [← hwz]; exact ((Below.refl _ _).alloc (Nat.le_refl _) _).drew
      have hz : wz.heap[X.heap.size]? = some (.cells #[.int .i64 0, .int .i64 0] 23) := by rw [← hwz]; exact heap_alloc_new X _
      have hsz1 : X.heap.size < wz.heap.size := (Array.getElem?_eq_some_iff.1 hz).1
      have hUz := hU.news hb2 hsz1
      clear hwz hcur
      have hcur := hb2
      clear hHeld
      refine hK.out _ _ ?hS225 (fun hHeld => ?rest225)
      case hS225 => (intro p hp; refine Below.cell (B := X.heap.size) ?_ (by omega); (repeat (first | with_reducible exact hcur | (with_reducible refine Below.drew ?_))))
      clear hK K
      try simp only [Act.put, List.setIfInBounds_toArray, List.set_cons_zero, List.set_cons_succ]
      refine wpAnyH_ready (rs := [8]) (by kernel_rfl) (by simp) (AllReadyH.cons rfl (fun K hK => ?b220) AllReadyH.nil)
      case b220 =>
        go_simp
        refine (HU.out _ _ hUz).mono ?_
        rintro e2 wu ⟨rfl, hUd, hKd, hCd⟩
        simp only [idA]
        have hz3 := (hKd _ (.inr rfl)).trans hz
        have hcl : ∀ p : Addr, p.block = u → wu.cell? p = X.cell? p := fun p hp => (Chg.cell hCd (by have := hcur.size; omega) (by omega)).trans (hcur.cell (by omega))
        have hszz : wz.heap.size ≤ wu.heap.size := hCd.size
        clear hHeld
        refine hK.out _ _ ?hS221 (fun hHeld => ?rest221)
        case hS221 => (intro p hp; exact hcl p hp)
        clear hK K
        try simp only [Act.put, List.setIfInBounds_toArray, List.set_cons_zero, List.set_cons_succ]
        refine takeD (i := 9) (d := some 82) (v := ?vT214) rfl rfl (by kernel_rfl) (by kernel_rfl) (by kernel_rfl) (fun _ _ _ h => h) (Or.inl ⟨by rfl, ?hyT214⟩) (by assumption) ?rstT214
        case hyT214 => (intro w hSw; (try dsimp only at hSw); go_simp; (try with_reducible rfl))
        try simp only [Act.put, List.setIfInBounds_toArray, List.set_cons_zero, List.set_cons_succ]
        refine takeD (i := 10) (d := some 92) (v := ?vT215) rfl rfl (by kernel_rfl) (by kernel_rfl) (by kernel_rfl) (fun _ _ _ h => h) (Or.inl ⟨by rfl, ?hyT215⟩) (by assumption) ?rstT215
        case hyT215 => (intro w hSw; (try dsimp only at hSw); go_simp; (try with_reducible rfl))
        try simp only [Act.put, List.setIfInBounds_toArray, List.set_cons_zero, List.set_cons_succ]
        refine takeD (i := 11) (d := some 93) (v := ?vT216) rfl rfl (by kernel_rfl) (by kernel_rfl) (by kernel_rfl) (fun _ _ _ h => h) (Or.inl ⟨by rfl, ?hyT216⟩) (by assumption) ?rstT216
        case hyT216 => (intro w hSw; (try dsimp only at hSw); go_simp; (try with_reducible rfl))
        try simp only [Act.put, List.setIfInBounds_toArray, List.set_cons_zero, List.set_cons_succ]
        refine wpAnyH_ready (rs := [13]) (by kernel_rfl) (by simp) (AllReadyH.cons rfl (fun K hK => ?b218) AllReadyH.nil)
        case b218 =>
          obtain ⟨cz0, cz1⟩ := box2 hz3
          have fz0 := Lib.frozen_of_heap hz3 0
          have fz1 := Lib.frozen_of_heap hz3 1
          obtain ⟨W9, e9, hx9, hC9⟩ := set2k (v0 := .int .i64 1) (v1 := .int .i64 1) hz3
          go_simp
          try rw [e9]
          clear hHeld
          refine hK.out _ _ ?hS219 (fun hHeld => ?rest219)
          case hS219 => (intro p hp; exact (Chg.cell hC9 (by omega) (by omega)).trans (hcl p hp))
          clear hK K
          try simp only [Act.put, List.setIfInBounds_toArray, List.set_cons_zero, List.set_cons_succ]
          refine takeD (i := 14) (d := some 10) (v := ?vT217) rfl rfl (by kernel_rfl) (by kernel_rfl) (by kernel_rfl) (fun _ _ _ h => h) (Or.inl ⟨by rfl, ?hyT217⟩) (by assumption) ?rstT217
          case hyT217 => (intro w hSw; (try dsimp only at hSw); go_simp; (try with_reducible rfl))
          try simp only [Act.put, List.setIfInBounds_toArray, List.set_cons_zero, List.set_cons_succ]
          refine wpAnyH_done (by kernel_rfl) ?_ _
          go_wp2_with fail
          go_meet
          case rel => exact ⟨X.heap.size, rfl, rfl, hx9, by omega, hUd.setK (.inr rfl) hU.le hC9, ((Chg.of_below hb2).trans hCd).trans (hC9.mono (fun g _ hg => .inr (by have := hU.le; omega)))⟩
  case rest =>
    obtain ⟨Y, rfl⟩ : ∃ x, x = wc := ⟨_, rfl⟩
    obtain ⟨k, rfl, rfl, hk, hgk, hUY, hCY⟩ := hcut
    have hqY := hCY.block hq (by omega)
    have hCC := hC.trans hCY
    have hszY := hCY.size
    clear hU hq hC hCY hub c0 c1 c2 c3 c4 q0 q1 hcur HU
    obtain ⟨X, rfl⟩ : ∃ x, x = Y := ⟨_, rfl⟩
    have hU := hUY
    have hq := hqY
    have hC := hCC
    have lP := hU.le
    have lqX := (Array.getElem?_eq_some_iff.1 hq).1
    clear hUY hqY hCC
    obtain ⟨ve, sq, ot, hub⟩ := hU.box
    obtain ⟨c0, c1, c2, c3, c4⟩ := box5 hub
    obtain ⟨q0, q1⟩ := box2 hq
    obtain ⟨k0, k1⟩ := box2 hk
    go_wp2_with fail
    refine (HD3.out _ _ hU).mono ?_
    rintro e wd ⟨rfl, hUd, hKd, hCd⟩
    have hkn := (hKd _ (.inr rfl)).trans hk
    clear hk k0 k1
    clear c0 c1 c2 c3 c4 q0 q1 hub
    have hqn := (hKd _ (by first | exact rfl | exact .inl rfl)).trans hq
    have hCn := hC.trans hCd
    have hszn := hCd.size
    clear hq hU hKd hCd hC
    try clear hHeld
    obtain ⟨X, rfl⟩ : ∃ x, x = wd := ⟨_, rfl⟩
    have hq := hqn
    have hU := hUd
    have hC := hCn
    have lP := hU.le
    have lqX := (Array.getElem?_eq_some_iff.1 hq).1
    clear hqn hUd hCn
    have hk := hkn
    clear hkn
    obtain ⟨ve, sq, ot, hub⟩ := hU.box
    obtain ⟨c0, c1, c2, c3, c4⟩ := box5 hub
    obtain ⟨q0, q1⟩ := box2 hq
    obtain ⟨k0, k1⟩ := box2 hk
    go_wp2_with fail
    refine (HD4.out _ _ hU).mono ?_
    rintro e wd ⟨rfl, hUd, hKd, hCd⟩
    have hkn := (hKd _ (.inr rfl)).trans hk
    clear hk k0 k1
    clear c0 c1 c2 c3 c4 q0 q1 hub
    have hqn := (hKd _ (by first | exact rfl | exact .inl rfl)).trans hq
    have hCn := hC.trans hCd
    have hszn := hCd.size
    clear hq hU hKd hCd hC
    try clear hHeld
    obtain ⟨X, rfl⟩ : ∃ x, x = wd := ⟨_, rfl⟩
    have hq := hqn
    have hU := hUd
    have hC := hCn
    have lP := hU.le
    have lqX := (Array.getElem?_eq_some_iff.1 hq).1
    clear hqn hUd hCn
    have hk := hkn
    clear hkn
    obtain ⟨ve, sq, ot, hub⟩ := hU.box
    obtain ⟨c0, c1, c2, c3, c4⟩ := box5 hub
    obtain ⟨q0, q1⟩ := box2 hq
    obtain ⟨k0, k1⟩ := box2 hk
    go_wp2_with fail
    refine (HD5.out _ _ hU).mono ?_
    rintro e wd ⟨rfl, hUd, hKd, hCd⟩
    have hkn := (hKd _ (.inr rfl)).trans hk
    clear hk k0 k1
    clear c0 c1 c2 c3 c4 q0 q1 hub
    have hqn := (hKd _ (by first | exact rfl | exact .inl rfl)).trans hq
    have hCn := hC.trans hCd
    have hszn := hCd.size
    clear hq hU hKd hCd hC
    try clear hHeld
    obtain ⟨X, rfl⟩ : ∃ x, x = wd := ⟨_, rfl⟩
    have hq := hqn
    have hU := hUd
    have hC := hCn
    have lP := hU.le
    have lqX := (Array.getElem?_eq_some_iff.1 hq).1
    clear hqn hUd hCn
    have hk := hkn
    clear hkn
    obtain ⟨ve, sq, ot, hub⟩ := hU.box
    obtain ⟨c0, c1, c2, c3, c4⟩ := box5 hub
    obtain ⟨q0, q1⟩ := box2 hq
    obtain ⟨k0, k1⟩ := box2 hk
    have HL := hU.lists (by simp) (by simp)
    simp only [List.length_cons, List.length_nil, Nat.zero_add, Nat.reduceAdd] at HL
    go_wp2_with fail
    refine HL.mono ?_
    rintro e wL ⟨a1, l1, a2, l2, rfl, ho1, ho2, hbL⟩
    have hqL := (hbL.block w.heap.size (by omega)).trans hq
    clear c0 c1 c2 c3 c4 q0 q1 hub
    obtain ⟨q0, q1⟩ := box2 hqL
    obtain ⟨g1, cp1, e1, hg1, hgl1, -⟩ := ho1.ptr (by simp)
    simp only [List.length_cons, List.length_nil, Nat.zero_add, Nat.reduceAdd, Value.slice.injEq] at e1
    obtain ⟨rfl, -, rfl⟩ := e1
    obtain ⟨g', off, ha0, hgl, hcl⟩ := (ho1.rw_ layI).cells (by omega)
    cases ha0
    have p0 := hcl 1 _ rfl 0 _ rfl
    have p1 := hcl 1 _ rfl 1 _ rfl
    simp only [Nat.zero_add, Nat.reduceMul, Nat.reduceAdd] at p0 p1
    have i0 : IntKind.i64.wrap 1 = 1 := by decide
    clear hcl
    clear HL ho1 ho2
    go_wp2_with fail
    go_ret
    exact ⟨rfl, hk1.trans ((hC.trans (Chg.of_below hbL)).below (fun g hg => by omega) (by omega))⟩
end Go.Proofs.YtokkodkhkpgebaaDoor
