import Derived.Test.YtokkodkhkpgebaaDoorKbJ
/-! Undo, Redo. -/
namespace Go.Proofs.YtokkodkhkpgebaaDoor
open Go.RowKit Go.Lib
set_option maxRecDepth 100000

set_option maxHeartbeats 4000000 in
theorem undo_any {w : World} {s : Nat} {D : Nat → Prop} {U R : List (Int × Int)} {vu vr : Value} (hS : StkAt w s D U R vu vr) (hD : ∀ g, D g → g < w.heap.size) (hU : U.length ≤ 1048576) (hRl : R.length ≤ 1048576) {h r : Nat} {oa na : Option Addr} {on oc nn nc : Nat} {tot : Int} {M : List ((Int × Int) × Int)} {E : List HE} (H : HisR w h r oa on oc na nn nc tot M E) (HP : PlsOk w E) :
    Calls Tryd.prog 8 #[.pointer (some ⟨s, 0, none⟩), .pointer (some ⟨h, 0, none⟩)] w fun e w' => moveUP w s D U R E true e w' := by
  obtain ⟨w1, hw1⟩ : ∃ w1, w.alloc (.cells #[.int .i64 0, .int .i64 0] 23) = w1 := ⟨_, rfl⟩
  have k1 : Below w.heap.size w w1 := by rw [← hw1]; exact (Below.refl _ _).alloc (Nat.le_refl _) _
  have hq : w1.heap[w.heap.size]? = some (.cells #[.int .i64 0, .int .i64 0] 23) := by rw [← hw1]; exact heap_alloc_new _ _
  have hz1 : w1.heap.size = w.heap.size + 1 := by rw [← hw1]; simp
  have kd : Below w.heap.size w w1.drew := k1.drew
  have HM := moveU (hS.chg (E := fun _ => False) (Chg.of_below kd) (fun _ _ h => h)) hU hRl (H.below kd) (HP.below kd) true
  go_enter Tryd.func8, Tryd.ntmps8
  go_wp2_with fail
  clear hw1
  refine wp_region_any (by kernel_rfl) ?_
  show wpAny _ _ _ _ _ _ _ w1.drew
  refine takeA (i := 0) (d := some 6) (v := ?vT1) rfl rfl (by kernel_rfl) (by kernel_rfl) (by kernel_rfl) (fun _ _ _ h => h) (Or.inl ⟨by rfl, ?hyT1⟩) ?rstT1
  case hyT1 => (intro w; go_simp; (try with_reducible rfl))
  try simp only [Act.put, List.setIfInBounds_toArray, List.set_cons_zero, List.set_cons_succ]
  refine takeA (i := 1) (d := some 7) (v := ?vT2) rfl rfl (by kernel_rfl) (by kernel_rfl) (by kernel_rfl) (fun _ _ _ h => h) (Or.inl ⟨by rfl, ?hyT2⟩) ?rstT2
  case hyT2 => (intro w; go_simp; (try with_reducible rfl))
  try simp only [Act.put, List.setIfInBounds_toArray, List.set_cons_zero, List.set_cons_succ]
  refine takeA (i := 2) (d := some 8) (v := ?vT3) rfl rfl (by kernel_rfl) (by kernel_rfl) (by kernel_rfl) (fun _ _ _ h => h) (Or.inl ⟨by rfl, ?hyT3⟩) ?rstT3
  case hyT3 => (intro w; go_simp; (try with_reducible rfl))
  try simp only [Act.put, List.setIfInBounds_toArray, List.set_cons_zero, List.set_cons_succ]
  refine takeA (i := 3) (d := some 9) (v := ?vT4) rfl rfl (by kernel_rfl) (by kernel_rfl) (by kernel_rfl) (fun _ _ _ h => h) (Or.inl ⟨by rfl, ?hyT4⟩) ?rstT4
  case hyT4 => (intro w; go_simp; (try with_reducible rfl))
  try simp only [Act.put, List.setIfInBounds_toArray, List.set_cons_zero, List.set_cons_succ]
  refine takeA (i := 4) (d := some 10) (v := ?vT5) rfl rfl (by kernel_rfl) (by kernel_rfl) (by kernel_rfl) (fun _ _ _ h => h) (Or.inl ⟨by rfl, ?hyT5⟩) ?rstT5
  case hyT5 => (intro w; go_simp; (try with_reducible rfl))
  try simp only [Act.put, List.setIfInBounds_toArray, List.set_cons_zero, List.set_cons_succ]
  refine takeA (i := 5) (d := some 11) (v := ?vT6) rfl rfl (by kernel_rfl) (by kernel_rfl) (by kernel_rfl) (fun _ _ _ h => h) (Or.inl ⟨by rfl, ?hyT6⟩) ?rstT6
  case hyT6 => (intro w; go_simp; (try with_reducible rfl))
  try simp only [Act.put, List.setIfInBounds_toArray, List.set_cons_zero, List.set_cons_succ]
  refine takeA (i := 6) (d := some 12) (v := ?vT7) rfl rfl (by kernel_rfl) (by kernel_rfl) (by kernel_rfl) (fun _ _ _ h => h) (Or.inl ⟨by rfl, ?hyT7⟩) ?rstT7
  case hyT7 => (intro w; go_simp; (try with_reducible rfl))
  try simp only [Act.put, List.setIfInBounds_toArray, List.set_cons_zero, List.set_cons_succ]
  refine wpAny_ready (rs := [7]) (by kernel_rfl) (by simp) (consS rfl (fun K hK => ?_) AllReady.nil)
  go_simp
  refine HM.mono ?_
  rintro e2 w2 ⟨x, at_, c, hpk, rfl, ⟨vu2, vr2, hS2⟩, hC2⟩
  simp only [idA]
  refine hK.out _ _ ?_
  clear hK K
  try simp only [Act.put, List.setIfInBounds_toArray, List.set_cons_zero, List.set_cons_succ]
  refine takeA (i := 8) (d := some 14) (v := ?vT8) rfl rfl (by kernel_rfl) (by kernel_rfl) (by kernel_rfl) (fun _ _ _ h => h) (Or.inl ⟨by rfl, ?hyT8⟩) ?rstT8
  case hyT8 => (intro w; go_simp; (try with_reducible rfl))
  try simp only [Act.put, List.setIfInBounds_toArray, List.set_cons_zero, List.set_cons_succ]
  refine takeA (i := 9) (d := some 15) (v := ?vT9) rfl rfl (by kernel_rfl) (by kernel_rfl) (by kernel_rfl) (fun _ _ _ h => h) (Or.inl ⟨by rfl, ?hyT9⟩) ?rstT9
  case hyT9 => (intro w; go_simp; (try with_reducible rfl))
  try simp only [Act.put, List.setIfInBounds_toArray, List.set_cons_zero, List.set_cons_succ]
  have hq2 := hC2.block (show w1.drew.heap[w.heap.size]? = some (.cells #[.int .i64 0, .int .i64 0] 23) from hq) (fun hd => by have := hD _ hd; omega)
  obtain ⟨z0, z1⟩ := box2 hq2
  have f0 := Lib.frozen_of_heap hq2 0
  have f1 := Lib.frozen_of_heap hq2 1
  obtain ⟨W9, e9, hx9, hK9⟩ := set2k (v0 := .int .i64 x.1) (v1 := .int .i64 x.2) hq2
  obtain ⟨r0, r1⟩ := box2 hx9
  have hnD : ∀ g, (D g ∨ w1.drew.heap.size ≤ g) → ¬ g = w.heap.size := fun g hg e => by
    have e1 : w1.drew.heap.size = w1.heap.size := rfl
    rcases hg with h | h
    · have := hD g h; omega
    · omega
  have hfin : moveUP w s D U R E true (.returned (.tuple #[idA x, .int .i64 c])) W9 := by
    unfold moveUP
    refine ⟨x, at_, c, hpk, rfl, ⟨vu2, vr2, (hS2.chg hK9 hnD).mono (fun g _ hd => ?_)⟩, ⟨kd.mono (Nat.zero_le _) |>.trans (hC2.1.trans hK9.1), fun g hg hd => ?_⟩⟩
    · have e1 : w1.drew.heap.size = w1.heap.size := rfl
      rcases hd with h | h
      · exact .inl h
      · right; omega
    · have h2 := hC2.size
      have e1 : w1.drew.heap.size = w1.heap.size := rfl
      rw [hK9.2 g (by omega) (by omega), hC2.2 g (by omega) hd]
      exact kd.block g hg
  clear hS2 hC2 HM
  refine wpAny_ready (rs := [10]) (by kernel_rfl) (by simp) (consS rfl (fun K hK => ?_) AllReady.nil)
  go_simp
  refine hK.out _ _ ?_
  clear hK K
  try simp only [Act.put, List.setIfInBounds_toArray, List.set_cons_zero, List.set_cons_succ]
  refine takeA (i := 11) (d := some 5) (v := ?vT10) rfl rfl (by kernel_rfl) (by kernel_rfl) (by kernel_rfl) (fun _ _ _ h => h) (Or.inl ⟨by rfl, ?hyT10⟩) ?rstT10
  case hyT10 => (intro w; go_simp; (try with_reducible rfl))
  try simp only [Act.put, List.setIfInBounds_toArray, List.set_cons_zero, List.set_cons_succ]
  refine wpAny_done (by kernel_rfl) ?_ _
  go_wp2_with fail
  try rw [e9]
  refine bodyPost_ret (v := .tuple #[idA x, .int .i64 c]) (by simp [results, Tryd.results8, go_sem, idA, r0, r1]) rfl ?_
  exact hfin
set_option maxHeartbeats 4000000 in
theorem redo_any {w : World} {s : Nat} {D : Nat → Prop} {U R : List (Int × Int)} {vu vr : Value} (hS : StkAt w s D U R vu vr) (hD : ∀ g, D g → g < w.heap.size) (hU : U.length ≤ 1048576) (hRl : R.length ≤ 1048576) {h r : Nat} {oa na : Option Addr} {on oc nn nc : Nat} {tot : Int} {M : List ((Int × Int) × Int)} {E : List HE} (H : HisR w h r oa on oc na nn nc tot M E) (HP : PlsOk w E) :
    Calls Tryd.prog 23 #[.pointer (some ⟨s, 0, none⟩), .pointer (some ⟨h, 0, none⟩)] w fun e w' => moveRP w s D U R E false e w' := by
  obtain ⟨w1, hw1⟩ : ∃ w1, w.alloc (.cells #[.int .i64 0, .int .i64 0] 23) = w1 := ⟨_, rfl⟩
  have k1 : Below w.heap.size w w1 := by rw [← hw1]; exact (Below.refl _ _).alloc (Nat.le_refl _) _
  have hq : w1.heap[w.heap.size]? = some (.cells #[.int .i64 0, .int .i64 0] 23) := by rw [← hw1]; exact heap_alloc_new _ _
  have hz1 : w1.heap.size = w.heap.size + 1 := by rw [← hw1]; simp
  have kd : Below w.heap.size w w1.drew := k1.drew
  have HM := moveR (hS.chg (E := fun _ => False) (Chg.of_below kd) (fun _ _ h => h)) hU hRl (H.below kd) (HP.below kd) false
  go_enter Tryd.func23, Tryd.ntmps23
  go_wp2_with fail
  clear hw1
  refine wp_region_any (by kernel_rfl) ?_
  show wpAny _ _ _ _ _ _ _ w1.drew
  refine takeA (i := 0) (d := some 6) (v := ?vT11) rfl rfl (by kernel_rfl) (by kernel_rfl) (by kernel_rfl) (fun _ _ _ h => h) (Or.inl ⟨by rfl, ?hyT11⟩) ?rstT11
  case hyT11 => (intro w; go_simp; (try with_reducible rfl))
  try simp only [Act.put, List.setIfInBounds_toArray, List.set_cons_zero, List.set_cons_succ]
  refine takeA (i := 1) (d := some 7) (v := ?vT12) rfl rfl (by kernel_rfl) (by kernel_rfl) (by kernel_rfl) (fun _ _ _ h => h) (Or.inl ⟨by rfl, ?hyT12⟩) ?rstT12
  case hyT12 => (intro w; go_simp; (try with_reducible rfl))
  try simp only [Act.put, List.setIfInBounds_toArray, List.set_cons_zero, List.set_cons_succ]
  refine takeA (i := 2) (d := some 8) (v := ?vT13) rfl rfl (by kernel_rfl) (by kernel_rfl) (by kernel_rfl) (fun _ _ _ h => h) (Or.inl ⟨by rfl, ?hyT13⟩) ?rstT13
  case hyT13 => (intro w; go_simp; (try with_reducible rfl))
  try simp only [Act.put, List.setIfInBounds_toArray, List.set_cons_zero, List.set_cons_succ]
  refine takeA (i := 3) (d := some 9) (v := ?vT14) rfl rfl (by kernel_rfl) (by kernel_rfl) (by kernel_rfl) (fun _ _ _ h => h) (Or.inl ⟨by rfl, ?hyT14⟩) ?rstT14
  case hyT14 => (intro w; go_simp; (try with_reducible rfl))
  try simp only [Act.put, List.setIfInBounds_toArray, List.set_cons_zero, List.set_cons_succ]
  refine takeA (i := 4) (d := some 10) (v := ?vT15) rfl rfl (by kernel_rfl) (by kernel_rfl) (by kernel_rfl) (fun _ _ _ h => h) (Or.inl ⟨by rfl, ?hyT15⟩) ?rstT15
  case hyT15 => (intro w; go_simp; (try with_reducible rfl))
  try simp only [Act.put, List.setIfInBounds_toArray, List.set_cons_zero, List.set_cons_succ]
  refine takeA (i := 5) (d := some 11) (v := ?vT16) rfl rfl (by kernel_rfl) (by kernel_rfl) (by kernel_rfl) (fun _ _ _ h => h) (Or.inl ⟨by rfl, ?hyT16⟩) ?rstT16
  case hyT16 => (intro w; go_simp; (try with_reducible rfl))
  try simp only [Act.put, List.setIfInBounds_toArray, List.set_cons_zero, List.set_cons_succ]
  refine takeA (i := 6) (d := some 12) (v := ?vT17) rfl rfl (by kernel_rfl) (by kernel_rfl) (by kernel_rfl) (fun _ _ _ h => h) (Or.inl ⟨by rfl, ?hyT17⟩) ?rstT17
  case hyT17 => (intro w; go_simp; (try with_reducible rfl))
  try simp only [Act.put, List.setIfInBounds_toArray, List.set_cons_zero, List.set_cons_succ]
  refine wpAny_ready (rs := [7]) (by kernel_rfl) (by simp) (consS rfl (fun K hK => ?_) AllReady.nil)
  go_simp
  refine HM.mono ?_
  rintro e2 w2 ⟨x, at_, c, hpk, rfl, ⟨vu2, vr2, hS2⟩, hC2⟩
  simp only [idA]
  refine hK.out _ _ ?_
  clear hK K
  try simp only [Act.put, List.setIfInBounds_toArray, List.set_cons_zero, List.set_cons_succ]
  refine takeA (i := 8) (d := some 14) (v := ?vT18) rfl rfl (by kernel_rfl) (by kernel_rfl) (by kernel_rfl) (fun _ _ _ h => h) (Or.inl ⟨by rfl, ?hyT18⟩) ?rstT18
  case hyT18 => (intro w; go_simp; (try with_reducible rfl))
  try simp only [Act.put, List.setIfInBounds_toArray, List.set_cons_zero, List.set_cons_succ]
  refine takeA (i := 9) (d := some 15) (v := ?vT19) rfl rfl (by kernel_rfl) (by kernel_rfl) (by kernel_rfl) (fun _ _ _ h => h) (Or.inl ⟨by rfl, ?hyT19⟩) ?rstT19
  case hyT19 => (intro w; go_simp; (try with_reducible rfl))
  try simp only [Act.put, List.setIfInBounds_toArray, List.set_cons_zero, List.set_cons_succ]
  have hq2 := hC2.block (show w1.drew.heap[w.heap.size]? = some (.cells #[.int .i64 0, .int .i64 0] 23) from hq) (fun hd => by have := hD _ hd; omega)
  obtain ⟨z0, z1⟩ := box2 hq2
  have f0 := Lib.frozen_of_heap hq2 0
  have f1 := Lib.frozen_of_heap hq2 1
  obtain ⟨W9, e9, hx9, hK9⟩ := set2k (v0 := .int .i64 x.1) (v1 := .int .i64 x.2) hq2
  obtain ⟨r0, r1⟩ := box2 hx9
  have hnD : ∀ g, (D g ∨ w1.drew.heap.size ≤ g) → ¬ g = w.heap.size := fun g hg e => by
    have e1 : w1.drew.heap.size = w1.heap.size := rfl
    rcases hg with h | h
    · have := hD g h; omega
    · omega
  have hfin : moveRP w s D U R E false (.returned (.tuple #[idA x, .int .i64 c])) W9 := by
    unfold moveRP
    refine ⟨x, at_, c, hpk, rfl, ⟨vu2, vr2, (hS2.chg hK9 hnD).mono (fun g _ hd => ?_)⟩, ⟨kd.mono (Nat.zero_le _) |>.trans (hC2.1.trans hK9.1), fun g hg hd => ?_⟩⟩
    · have e1 : w1.drew.heap.size = w1.heap.size := rfl
      rcases hd with h | h
      · exact .inl h
      · right; omega
    · have h2 := hC2.size
      have e1 : w1.drew.heap.size = w1.heap.size := rfl
      rw [hK9.2 g (by omega) (by omega), hC2.2 g (by omega) hd]
      exact kd.block g hg
  clear hS2 hC2 HM
  refine wpAny_ready (rs := [10]) (by kernel_rfl) (by simp) (consS rfl (fun K hK => ?_) AllReady.nil)
  go_simp
  refine hK.out _ _ ?_
  clear hK K
  try simp only [Act.put, List.setIfInBounds_toArray, List.set_cons_zero, List.set_cons_succ]
  refine takeA (i := 11) (d := some 5) (v := ?vT20) rfl rfl (by kernel_rfl) (by kernel_rfl) (by kernel_rfl) (fun _ _ _ h => h) (Or.inl ⟨by rfl, ?hyT20⟩) ?rstT20
  case hyT20 => (intro w; go_simp; (try with_reducible rfl))
  try simp only [Act.put, List.setIfInBounds_toArray, List.set_cons_zero, List.set_cons_succ]
  refine wpAny_done (by kernel_rfl) ?_ _
  go_wp2_with fail
  try rw [e9]
  refine bodyPost_ret (v := .tuple #[idA x, .int .i64 c]) (by simp [results, Tryd.results23, go_sem, idA, r0, r1]) rfl ?_
  exact hfin
end Go.Proofs.YtokkodkhkpgebaaDoor
