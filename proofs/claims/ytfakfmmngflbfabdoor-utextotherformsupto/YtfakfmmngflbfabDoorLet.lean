import Derived.Test.YtfakfmmngflbfabDoorLow
namespace Go.Proofs.YtfakfmmngflbfabDoor
open Go.RowKit Go.Lib

theorem info32 : (Tryd.prog.info? 21).map (fun i => (i.zero, i.size, i.bytes)) = some (some (.int .i32 0), 1, 4) := by kernel_rfl

/-- what 'let' makes of one number -/
def letR (r : Int) : Int := if r = 9 ∨ r = 10 ∨ (32 ≤ r ∧ r ≤ 126) ∨ (161 ≤ r ∧ r ≤ 55295) ∨ (65536 ≤ r ∧ r ≤ 131069) then r else 97
theorem letR_yes {r : Int} (h : r = 9 ∨ r = 10 ∨ (32 ≤ r ∧ r ≤ 126) ∨ (161 ≤ r ∧ r ≤ 55295) ∨ (65536 ≤ r ∧ r ≤ 131069)) : letR r = r := if_pos h
theorem letR_no {r : Int} (h : ¬ (r = 9 ∨ r = 10 ∨ (32 ≤ r ∧ r ≤ 126) ∨ (161 ≤ r ∧ r ≤ 55295) ∨ (65536 ≤ r ∧ r ≤ 131069))) : letR r = 97 := if_neg h
def letV (zs : List Int) : List Value := zs.map fun z => .int .i32 (letR z)
theorem letV_snoc (zs : List Int) (k : Nat) (h : k < zs.length) (x : Int) (hx : letR (zs.getD k 0) = x) : letV (zs.take k) ++ [Value.int .i32 x] = letV (zs.take (k + 1)) := by
  rw [List.take_succ_eq_append_getElem h]
  subst hx
  simp only [letV, List.map_append, List.map_cons, List.map_nil, List.getD, List.getElem?_eq_getElem h, Option.getD_some]
theorem cell_new1 (w : World) (x : Value) (t : TypeId) : ∀ j u, [x][j]? = some u → (w.alloc (.cells #[x] t)).cell? ((⟨w.heap.size, 0, none⟩ : Addr).add j) = some u := by
  intro j u hj
  match j, hj with
  | 0, hj => simp at hj; subst hj; simp [Addr.add]

theorem ownBlock_ge {w : World} {B : Nat} {e : TypeId} {size n : Nat} {v : Value} {xs : List Value} (h : w.ownsRow B e size v n xs) {g : Nat} (hg : v.ownBlock = some g) : B ≤ g := by
  rcases h.2 with ⟨rfl, _⟩ | ⟨g', cap, cur, rfl, hB, _⟩
  · simp [Value.ownBlock] at hg
  · simp [Value.ownBlock] at hg
    omega

set_option maxHeartbeats 2000000 in
set_option maxRecDepth 100000 in
theorem let_any (b off len cap : Nat) (zs : List Int) (w : World) (hreach : len * 4 ≤ 140737488351232) (hz : len ≤ zs.length) (hb : b < w.heap.size)
    (hc : ∀ j, j < len → w.cell? ⟨b, off + j, none⟩ = some (.int .i32 (zs.getD j 0))) :
    Calls Tryd.prog 8 #[.slice (some ⟨b, off, none⟩) len cap] w fun e w' =>
      ∃ v, e = .returned v ∧ w'.ownsRow w.heap.size 21 1 v len (letV (zs.take len)) ∧ Below w.heap.size w w' := by
  obtain ⟨i0, hi, hz0, hz1, hz2⟩ := info_parts info32
  have HC : Hid (∀ j, j < len → w.cell? ⟨b, off + j, none⟩ = some (.int .i32 (zs.getD j 0))) := hc
  clear hc
  go_enter Tryd.func8, Tryd.ntmps8
  go_wp2_with fail
  go_loopw [3, 4] (fun v i wr => ∃ k : Nat, k ≤ len ∧ i = .int .i64 k ∧ wr.ownsRow w.heap.size 21 1 v k (letV (zs.take k)) ∧ Below w.heap.size w wr) (fun _ i _ => len - (intOf i).toNat)
  case atStart => exact ⟨0, Nat.zero_le _, rfl, World.ownsRow_nil _ _ _ _, Below.refl _ _⟩
  case round =>
    obtain ⟨k, hk, rfl, hown, hnx⟩ := hrel
    by_cases hlt : k < len
    · have hcx : ∃ z, wr.cell? ⟨b, off + k, none⟩ = some (.int .i32 z) ∧ Hid (zs.getD k 0 = z) := ⟨_, (hnx.cell (by exact hb)).trans (HC.out k hlt), rfl⟩
      obtain ⟨z, hcz, hzz⟩ := hcx
      have hcase : (z ≤ 8) ∨ (9 ≤ z ∧ z ≤ 9) ∨ (10 ≤ z ∧ z ≤ 10) ∨ (11 ≤ z ∧ z ≤ 31) ∨ (32 ≤ z ∧ z ≤ 126) ∨ (127 ≤ z ∧ z ≤ 160) ∨ (161 ≤ z ∧ z ≤ 55295) ∨ (55296 ≤ z ∧ z ≤ 65535) ∨ (65536 ≤ z ∧ z ≤ 131069) ∨ (131070 ≤ z) := by omega
      have hsz := hnx.size
      rcases hcase with hcs | ⟨hc1, hc2⟩ | ⟨hc1, hc2⟩ | ⟨hc1, hc2⟩ | ⟨hc1, hc2⟩ | ⟨hc1, hc2⟩ | ⟨hc1, hc2⟩ | ⟨hc1, hc2⟩ | ⟨hc1, hc2⟩ | hcs
      · have t1 : (z == 9) = false := beq_eq_false_iff_ne.2 (by omega)
        have t2 : (z == 10) = false := beq_eq_false_iff_ne.2 (by omega)
        go_wp2_with (at_builtin; refine wpList_append_own _ rfl _ _ 22 rfl w.heap.size 21 i0 (.int .i32 0) 1 4 Tryd.underlying22 hi hz0 hz1 hz2 rfl (by decide) _ _ _ rfl (hown.alloc _) ⟨wr.heap.size, 0, none⟩ 1 1 [.int .i32 97] rfl rfl ?d1x0 ?d2x0 ?d3x0 ?d4x0 ?d5x0 ?_)
        try (case d1x0 => exact cell_new1 _ _ _)
        case d2x0 => first | rfl | (intro u hu; simp at hu; subst hu; rfl)
        case d3x0 => unfold maxLen; omega
        case d4x0 => omega
        case d5x0 => first | omega | (simp; omega)
        intro v' w1 hown' hgrow _
        rw [letV_snoc zs k (by omega) _ (by rw [hzz.out]; exact letR_no (by omega))] at hown'
        have hnx' : Below w.heap.size w w1 := (hnx.alloc hsz _).grown hgrow (by simp; omega) (fun g hg => ownBlock_ge hown hg)
        clear hown hgrow hnx t1 t2
        go_wp2_with fail
        go_roundw
        case rel => exact ⟨k + 1, by omega, by simp, hown', hnx'⟩
        case measure => simp [intOf]; omega
      · have t1 : (z == 9) = true := beq_iff_eq.2 (by omega)
        have t2 : (z == 10) = false := beq_eq_false_iff_ne.2 (by omega)
        go_wp2_with (at_builtin; refine wpList_append_own _ rfl _ _ 22 rfl w.heap.size 21 i0 (.int .i32 0) 1 4 Tryd.underlying22 hi hz0 hz1 hz2 rfl (by decide) _ _ _ rfl (hown.alloc _) ⟨wr.heap.size, 0, none⟩ 1 1 [.int .i32 z] rfl rfl ?d1x1 ?d2x1 ?d3x1 ?d4x1 ?d5x1 ?_)
        try (case d1x1 => exact cell_new1 _ _ _)
        case d2x1 => first | rfl | (intro u hu; simp at hu; subst hu; rfl)
        case d3x1 => unfold maxLen; omega
        case d4x1 => omega
        case d5x1 => first | omega | (simp; omega)
        intro v' w1 hown' hgrow _
        rw [letV_snoc zs k (by omega) _ (by rw [hzz.out]; exact letR_yes (by omega))] at hown'
        have hnx' : Below w.heap.size w w1 := (hnx.alloc hsz _).grown hgrow (by simp; omega) (fun g hg => ownBlock_ge hown hg)
        clear hown hgrow hnx t1 t2
        go_wp2_with fail
        go_roundw
        case rel => exact ⟨k + 1, by omega, by simp, hown', hnx'⟩
        case measure => simp [intOf]; omega
      · have t1 : (z == 9) = false := beq_eq_false_iff_ne.2 (by omega)
        have t2 : (z == 10) = true := beq_iff_eq.2 (by omega)
        go_wp2_with (at_builtin; refine wpList_append_own _ rfl _ _ 22 rfl w.heap.size 21 i0 (.int .i32 0) 1 4 Tryd.underlying22 hi hz0 hz1 hz2 rfl (by decide) _ _ _ rfl (hown.alloc _) ⟨wr.heap.size, 0, none⟩ 1 1 [.int .i32 z] rfl rfl ?d1x2 ?d2x2 ?d3x2 ?d4x2 ?d5x2 ?_)
        try (case d1x2 => exact cell_new1 _ _ _)
        case d2x2 => first | rfl | (intro u hu; simp at hu; subst hu; rfl)
        case d3x2 => unfold maxLen; omega
        case d4x2 => omega
        case d5x2 => first | omega | (simp; omega)
        intro v' w1 hown' hgrow _
        rw [letV_snoc zs k (by omega) _ (by rw [hzz.out]; exact letR_yes (by omega))] at hown'
        have hnx' : Below w.heap.size w w1 := (hnx.alloc hsz _).grown hgrow (by simp; omega) (fun g hg => ownBlock_ge hown hg)
        clear hown hgrow hnx t1 t2
        go_wp2_with fail
        go_roundw
        case rel => exact ⟨k + 1, by omega, by simp, hown', hnx'⟩
        case measure => simp [intOf]; omega
      · have t1 : (z == 9) = false := beq_eq_false_iff_ne.2 (by omega)
        have t2 : (z == 10) = false := beq_eq_false_iff_ne.2 (by omega)
        go_wp2_with (at_builtin; refine wpList_append_own _ rfl _ _ 22 rfl w.heap.size 21 i0 (.int .i32 0) 1 4 Tryd.underlying22 hi hz0 hz1 hz2 rfl (by decide) _ _ _ rfl (hown.alloc _) ⟨wr.heap.size, 0, none⟩ 1 1 [.int .i32 97] rfl rfl ?d1x3 ?d2x3 ?d3x3 ?d4x3 ?d5x3 ?_)
        try (case d1x3 => exact cell_new1 _ _ _)
        case d2x3 => first | rfl | (intro u hu; simp at hu; subst hu; rfl)
        case d3x3 => unfold maxLen; omega
        case d4x3 => omega
        case d5x3 => first | omega | (simp; omega)
        intro v' w1 hown' hgrow _
        rw [letV_snoc zs k (by omega) _ (by rw [hzz.out]; exact letR_no (by omega))] at hown'
        have hnx' : Below w.heap.size w w1 := (hnx.alloc hsz _).grown hgrow (by simp; omega) (fun g hg => ownBlock_ge hown hg)
        clear hown hgrow hnx t1 t2
        go_wp2_with fail
        go_roundw
        case rel => exact ⟨k + 1, by omega, by simp, hown', hnx'⟩
        case measure => simp [intOf]; omega
      · have t1 : (z == 9) = false := beq_eq_false_iff_ne.2 (by omega)
        have t2 : (z == 10) = false := beq_eq_false_iff_ne.2 (by omega)
        go_wp2_with (at_builtin; refine wpList_append_own _ rfl _ _ 22 rfl w.heap.size 21 i0 (.int .i32 0) 1 4 Tryd.underlying22 hi hz0 hz1 hz2 rfl (by decide) _ _ _ rfl (hown.alloc _) ⟨wr.heap.size, 0, none⟩ 1 1 [.int .i32 z] rfl rfl ?d1x4 ?d2x4 ?d3x4 ?d4x4 ?d5x4 ?_)
        try (case d1x4 => exact cell_new1 _ _ _)
        case d2x4 => first | rfl | (intro u hu; simp at hu; subst hu; rfl)
        case d3x4 => unfold maxLen; omega
        case d4x4 => omega
        case d5x4 => first | omega | (simp; omega)
        intro v' w1 hown' hgrow _
        rw [letV_snoc zs k (by omega) _ (by rw [hzz.out]; exact letR_yes (by omega))] at hown'
        have hnx' : Below w.heap.size w w1 := (hnx.alloc hsz _).grown hgrow (by simp; omega) (fun g hg => ownBlock_ge hown hg)
        clear hown hgrow hnx t1 t2
        go_wp2_with fail
        go_roundw
        case rel => exact ⟨k + 1, by omega, by simp, hown', hnx'⟩
        case measure => simp [intOf]; omega
      · have t1 : (z == 9) = false := beq_eq_false_iff_ne.2 (by omega)
        have t2 : (z == 10) = false := beq_eq_false_iff_ne.2 (by omega)
        go_wp2_with (at_builtin; refine wpList_append_own _ rfl _ _ 22 rfl w.heap.size 21 i0 (.int .i32 0) 1 4 Tryd.underlying22 hi hz0 hz1 hz2 rfl (by decide) _ _ _ rfl (hown.alloc _) ⟨wr.heap.size, 0, none⟩ 1 1 [.int .i32 97] rfl rfl ?d1x5 ?d2x5 ?d3x5 ?d4x5 ?d5x5 ?_)
        try (case d1x5 => exact cell_new1 _ _ _)
        case d2x5 => first | rfl | (intro u hu; simp at hu; subst hu; rfl)
        case d3x5 => unfold maxLen; omega
        case d4x5 => omega
        case d5x5 => first | omega | (simp; omega)
        intro v' w1 hown' hgrow _
        rw [letV_snoc zs k (by omega) _ (by rw [hzz.out]; exact letR_no (by omega))] at hown'
        have hnx' : Below w.heap.size w w1 := (hnx.alloc hsz _).grown hgrow (by simp; omega) (fun g hg => ownBlock_ge hown hg)
        clear hown hgrow hnx t1 t2
        go_wp2_with fail
        go_roundw
        case rel => exact ⟨k + 1, by omega, by simp, hown', hnx'⟩
        case measure => simp [intOf]; omega
      · have t1 : (z == 9) = false := beq_eq_false_iff_ne.2 (by omega)
        have t2 : (z == 10) = false := beq_eq_false_iff_ne.2 (by omega)
        go_wp2_with (at_builtin; refine wpList_append_own _ rfl _ _ 22 rfl w.heap.size 21 i0 (.int .i32 0) 1 4 Tryd.underlying22 hi hz0 hz1 hz2 rfl (by decide) _ _ _ rfl (hown.alloc _) ⟨wr.heap.size, 0, none⟩ 1 1 [.int .i32 z] rfl rfl ?d1x6 ?d2x6 ?d3x6 ?d4x6 ?d5x6 ?_)
        try (case d1x6 => exact cell_new1 _ _ _)
        case d2x6 => first | rfl | (intro u hu; simp at hu; subst hu; rfl)
        case d3x6 => unfold maxLen; omega
        case d4x6 => omega
        case d5x6 => first | omega | (simp; omega)
        intro v' w1 hown' hgrow _
        rw [letV_snoc zs k (by omega) _ (by rw [hzz.out]; exact letR_yes (by omega))] at hown'
        have hnx' : Below w.heap.size w w1 := (hnx.alloc hsz _).grown hgrow (by simp; omega) (fun g hg => ownBlock_ge hown hg)
        clear hown hgrow hnx t1 t2
        go_wp2_with fail
        go_roundw
        case rel => exact ⟨k + 1, by omega, by simp, hown', hnx'⟩
        case measure => simp [intOf]; omega
      · have t1 : (z == 9) = false := beq_eq_false_iff_ne.2 (by omega)
        have t2 : (z == 10) = false := beq_eq_false_iff_ne.2 (by omega)
        go_wp2_with (at_builtin; refine wpList_append_own _ rfl _ _ 22 rfl w.heap.size 21 i0 (.int .i32 0) 1 4 Tryd.underlying22 hi hz0 hz1 hz2 rfl (by decide) _ _ _ rfl (hown.alloc _) ⟨wr.heap.size, 0, none⟩ 1 1 [.int .i32 97] rfl rfl ?d1x7 ?d2x7 ?d3x7 ?d4x7 ?d5x7 ?_)
        try (case d1x7 => exact cell_new1 _ _ _)
        case d2x7 => first | rfl | (intro u hu; simp at hu; subst hu; rfl)
        case d3x7 => unfold maxLen; omega
        case d4x7 => omega
        case d5x7 => first | omega | (simp; omega)
        intro v' w1 hown' hgrow _
        rw [letV_snoc zs k (by omega) _ (by rw [hzz.out]; exact letR_no (by omega))] at hown'
        have hnx' : Below w.heap.size w w1 := (hnx.alloc hsz _).grown hgrow (by simp; omega) (fun g hg => ownBlock_ge hown hg)
        clear hown hgrow hnx t1 t2
        go_wp2_with fail
        go_roundw
        case rel => exact ⟨k + 1, by omega, by simp, hown', hnx'⟩
        case measure => simp [intOf]; omega
      · have t1 : (z == 9) = false := beq_eq_false_iff_ne.2 (by omega)
        have t2 : (z == 10) = false := beq_eq_false_iff_ne.2 (by omega)
        go_wp2_with (at_builtin; refine wpList_append_own _ rfl _ _ 22 rfl w.heap.size 21 i0 (.int .i32 0) 1 4 Tryd.underlying22 hi hz0 hz1 hz2 rfl (by decide) _ _ _ rfl (hown.alloc _) ⟨wr.heap.size, 0, none⟩ 1 1 [.int .i32 z] rfl rfl ?d1x8 ?d2x8 ?d3x8 ?d4x8 ?d5x8 ?_)
        try (case d1x8 => exact cell_new1 _ _ _)
        case d2x8 => first | rfl | (intro u hu; simp at hu; subst hu; rfl)
        case d3x8 => unfold maxLen; omega
        case d4x8 => omega
        case d5x8 => first | omega | (simp; omega)
        intro v' w1 hown' hgrow _
        rw [letV_snoc zs k (by omega) _ (by rw [hzz.out]; exact letR_yes (by omega))] at hown'
        have hnx' : Below w.heap.size w w1 := (hnx.alloc hsz _).grown hgrow (by simp; omega) (fun g hg => ownBlock_ge hown hg)
        clear hown hgrow hnx t1 t2
        go_wp2_with fail
        go_roundw
        case rel => exact ⟨k + 1, by omega, by simp, hown', hnx'⟩
        case measure => simp [intOf]; omega
      · have t1 : (z == 9) = false := beq_eq_false_iff_ne.2 (by omega)
        have t2 : (z == 10) = false := beq_eq_false_iff_ne.2 (by omega)
        go_wp2_with (at_builtin; refine wpList_append_own _ rfl _ _ 22 rfl w.heap.size 21 i0 (.int .i32 0) 1 4 Tryd.underlying22 hi hz0 hz1 hz2 rfl (by decide) _ _ _ rfl (hown.alloc _) ⟨wr.heap.size, 0, none⟩ 1 1 [.int .i32 97] rfl rfl ?d1x9 ?d2x9 ?d3x9 ?d4x9 ?d5x9 ?_)
        try (case d1x9 => exact cell_new1 _ _ _)
        case d2x9 => first | rfl | (intro u hu; simp at hu; subst hu; rfl)
        case d3x9 => unfold maxLen; omega
        case d4x9 => omega
        case d5x9 => first | omega | (simp; omega)
        intro v' w1 hown' hgrow _
        rw [letV_snoc zs k (by omega) _ (by rw [hzz.out]; exact letR_no (by omega))] at hown'
        have hnx' : Below w.heap.size w w1 := (hnx.alloc hsz _).grown hgrow (by simp; omega) (fun g hg => ownBlock_ge hown hg)
        clear hown hgrow hnx t1 t2
        go_wp2_with fail
        go_roundw
        case rel => exact ⟨k + 1, by omega, by simp, hown', hnx'⟩
        case measure => simp [intOf]; omega
    · have hkl : k = len := by omega
      subst hkl
      go_wp2_with fail
      go_ret
      exact ⟨_, rfl, hown, hnx⟩
end Go.Proofs.YtfakfmmngflbfabDoor
