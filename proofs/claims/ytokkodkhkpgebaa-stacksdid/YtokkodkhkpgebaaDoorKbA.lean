import Derived.Test.YtokkodkhkpgebaaDoorKaE
/-! slices.Clone of ids; Lists. -/
namespace Go.Proofs.YtokkodkhkpgebaaDoor
open Go.RowKit Go.Lib
set_option maxRecDepth 100000

theorem run_eql_slice_nil {t e : TypeId} (a : Option Addr) (l c : Nat) (h : Tryd.prog.underlying t = some (.slice e)) (w : World) : (binOp .eql t (.slice a l c) (.slice none 0 0)).run Tryd.prog w = .ok (.bool a.isNone) w := by
  simp only [binOp]
  simp [run_equal_slice_nil w t e a l c h]
section
variable {α : Type} {f : α → List Value} {k : Nat} {S T : TypeId} {by_ : Nat}
/-- 'append(v, u...)', also of nothing. -/
theorem appendI_all (hK : Kind Tryd.prog S T k by_) (hf : Lay f k) {w : World} {B : Nat} {v : Value} {l : List α} (h : OwnF f k T w B v l) (hB : B ≤ w.heap.size)
    {b : Option Addr} {m capb : Nat} {ys : List α} (hy : Rw f k w b m capb ys) (hs : (l.length + m) * by_ ≤ 140737488355328) (hs2 : l.length + m ≤ 9223372036854775807) (ty : TypeId) :
    ∃ a' cap' w', (Builtin.append_ #[S, S] ty #[v, .slice b m capb]).run Tryd.prog w = .ok (.slice a' (l.length + m) cap') w' ∧ OwnF f k T w' B (.slice a' (l.length + m) cap') (l ++ ys) ∧ Below B w w' ∧ Keeps w w' v := by
  by_cases hm : 0 < m
  · obtain ⟨g, cap', w', hr, ho, hb, hk, _⟩ := appendF hK hf h hB hy hm hs hs2 ty
    exact ⟨_, cap', w', hr, ho, hb, hk⟩
  · obtain rfl : m = 0 := by omega
    obtain rfl : ys = [] := List.eq_nil_of_length_eq_zero hy.len
    obtain ⟨i, z, hi, hz, hsz, hby, _⟩ := hK.info
    obtain ⟨a', cap', rfl⟩ := h.shape
    refine ⟨a', cap', w, ?_, by rw [List.append_nil]; exact h, Below.refl _ _, fun _ _ _ => rfl⟩
    rcases h.2 with ⟨e, h0⟩ | ⟨g, cap, cur, e, _, _, hnc, _⟩
    · obtain rfl := List.eq_nil_of_length_eq_zero h0
      simp only [List.length_nil] at e ⊢
      cases e
      cases b <;> simp [Builtin.append_, run_underlying hK.under, sizeOf, typeInfo, hi, Builtin.lenOf, Builtin.firstCells, loadCells, loadCellsFrom]
    · cases e
      cases b <;> simp [Builtin.append_, run_underlying hK.under, sizeOf, typeInfo, hi, Builtin.lenOf, Builtin.firstCells, hnc, storeCells, loadCells, loadCellsFrom]
end

set_option maxHeartbeats 1000000 in
theorem cloneIds_any {w : World} {a : Option Addr} {n cap : Nat} {B : Nat} {L : List (Int × Int)} (h : OwnF idV 2 23 w B (.slice a n cap) L) (hn : n ≤ 1048576) :
    Calls Tryd.prog 21 #[.slice a n cap] w fun e w' => ∃ a' cap', e = .returned (.slice a' n cap') ∧ OwnF idV 2 23 w' w.heap.size (.slice a' n cap') L ∧ Below w.heap.size w w' := by
  have hl := (h.rw_ layI).len
  have hw := h.rw_ layI
  rcases h.2 with ⟨e, h0⟩ | ⟨g, cap', cur, e, _⟩
  · cases e
    obtain rfl : L = [] := List.eq_nil_of_length_eq_zero h0
    have en := fun w => run_eql_slice_nil none 0 0 Tryd.underlying36 w
    clear hw
    clear h
    go_enter Tryd.func21, Tryd.ntmps21
    go_wp2_with fail
    go_ret
    exact ⟨none, 0, by simp, ownF_nil _ _, Below.refl _ _⟩
  · cases e
    have hb0 : Below w.heap.size w (w.alloc (.cells #[] 23)) := (Below.refl _ _).alloc (Nat.le_refl _) _
    have ho0 : OwnF idV 2 23 (w.alloc (.cells #[] 23)) w.heap.size (.slice (some ⟨w.heap.size, 0, none⟩) 0 0) [] := ⟨rfl, .inr ⟨w.heap.size, 0, #[], rfl, Nat.le_refl _, heap_alloc_new _ _, Nat.le_refl _, by decide, rfl, rfl⟩⟩
    obtain ⟨a', cap', w', hr, ho, hb, _⟩ := appendI_all kindI layI ho0 (by simp) (hw.below hb0) (by simp; omega) (by simp; omega) 36
    simp only [List.length_nil, List.nil_append, Nat.zero_add] at hr ho
    have hB := hb0.trans hb
    have en := fun w => run_eql_slice_nil (some ⟨g, 0, none⟩) L.length cap Tryd.underlying36 w
    simp only [Option.isNone_some] at en
    clear h ho0 hb hw
    go_enter Tryd.func21, Tryd.ntmps21
    go_wp2_with (at_builtin; refine wpList_append_hr rfl _ _ 36 rfl _ _ rfl rfl hr ?_)
    go_ret
    exact ⟨_, _, rfl, ho, hB⟩


set_option maxHeartbeats 4000000 in
theorem lists_any {w : World} {s : Nat} {D : Nat → Prop} {U R : List (Int × Int)} {vu vr : Value} (h : StkAt w s D U R vu vr) (hU : U.length ≤ 1048576) (hR : R.length ≤ 1048576) :
    Calls Tryd.prog 9 #[.pointer (some ⟨s, 0, none⟩)] w fun e w' => ∃ a1 c1 a2 c2, e = .returned (.tuple #[.slice a1 U.length c1, .slice a2 R.length c2]) ∧ OwnF idV 2 23 w' w.heap.size (.slice a1 U.length c1) U ∧ OwnF idV 2 23 w' w.heap.size (.slice a2 R.length c2) R ∧ Below w.heap.size w w' := by
  obtain ⟨ua, uc, rfl⟩ := h.undo.shape
  obtain ⟨ra, rc, rfl⟩ := h.redo.shape
  obtain ⟨s0, s1⟩ := box2 h.box
  have hsl := h.lt
  have HU : Hid (∀ W, Below w.heap.size w W → Calls Tryd.prog 21 #[.slice ua U.length uc] W fun e w' => ∃ a' cap', e = .returned (.slice a' U.length cap') ∧ OwnF idV 2 23 w' W.heap.size (.slice a' U.length cap') U ∧ Below W.heap.size W w') := fun W hb => cloneIds_any (h.undo.below hb) hU
  have HR : Hid (∀ W, Below w.heap.size w W → Calls Tryd.prog 21 #[.slice ra R.length rc] W fun e w' => ∃ a' cap', e = .returned (.slice a' R.length cap') ∧ OwnF idV 2 23 w' W.heap.size (.slice a' R.length cap') R ∧ Below W.heap.size W w') := fun W hb => cloneIds_any (h.redo.below hb) hR
  have hcur : Below w.heap.size w w := Below.refl _ _
  clear h
  go_enter Tryd.func9, Tryd.ntmps9
  go_wp2_with fail
  refine wp_region_held_drew (S := (fun W => ∀ p : Addr, p.block < w.heap.size → W.cell? p = w.cell? p)) (by kernel_rfl) ?hS1 (fun hHeld => ?rest1)
  case hS1 => (intro p hp; refine Below.cell (B := w.heap.size) ?_ hp; (repeat (first | with_reducible exact hcur | (with_reducible refine Below.drew ?_))))
  refine takeD (i := 0) (d := some 4) (v := ?vT2) rfl rfl (by kernel_rfl) (by kernel_rfl) (by kernel_rfl) (fun _ _ _ h => h) (Or.inl ⟨by rfl, ?hyT2⟩) (by assumption) ?rstT2
  case hyT2 => (intro w hSw; (try dsimp only at hSw); go_simp; (try with_reducible rfl))
  try simp only [Act.put, List.setIfInBounds_toArray, List.set_cons_zero, List.set_cons_succ]
  refine takeD (i := 1) (d := some 5) (v := ?vT3) rfl rfl (by kernel_rfl) (by kernel_rfl) (by kernel_rfl) (fun _ _ _ h => h) (Or.inl ⟨by rfl, ?hyT3⟩) (by assumption) ?rstT3
  case hyT3 => (intro w hSw; (try dsimp only at hSw); go_simp; (try with_reducible rfl))
  try simp only [Act.put, List.setIfInBounds_toArray, List.set_cons_zero, List.set_cons_succ]
  refine takeD (i := 2) (d := some 6) (v := ?vT4) rfl rfl (by kernel_rfl) (by kernel_rfl) (by kernel_rfl) (fun _ _ _ h => h) (Or.inl ⟨by rfl, ?hyT4⟩) (by assumption) ?rstT4
  case hyT4 => (intro w hSw; (try dsimp only at hSw); go_simp; (try with_reducible rfl))
  try simp only [Act.put, List.setIfInBounds_toArray, List.set_cons_zero, List.set_cons_succ]
  refine takeD (i := 3) (d := some 7) (v := ?vT5) rfl rfl (by kernel_rfl) (by kernel_rfl) (by kernel_rfl) (fun _ _ _ h => h) (Or.inl ⟨by rfl, ?hyT5⟩) (by assumption) ?rstT5
  case hyT5 => (intro w hSw; (try dsimp only at hSw); go_simp; (try with_reducible rfl))
  try simp only [Act.put, List.setIfInBounds_toArray, List.set_cons_zero, List.set_cons_succ]
  refine takeD (i := 5) (d := some 9) (v := ?vT6) rfl rfl (by kernel_rfl) (by kernel_rfl) (by kernel_rfl) (fun _ _ _ h => h) (Or.inl ⟨by rfl, ?hyT6⟩) (by assumption) ?rstT6
  case hyT6 => (intro w hSw; (try dsimp only at hSw); go_simp; (try with_reducible rfl))
  try simp only [Act.put, List.setIfInBounds_toArray, List.set_cons_zero, List.set_cons_succ]
  refine takeD (i := 6) (d := some 10) (v := ?vT7) rfl rfl (by kernel_rfl) (by kernel_rfl) (by kernel_rfl) (fun _ _ _ h => h) (Or.inl ⟨by rfl, ?hyT7⟩) (by assumption) ?rstT7
  case hyT7 => (intro w hSw; (try dsimp only at hSw); go_simp; (try with_reducible rfl))
  try simp only [Act.put, List.setIfInBounds_toArray, List.set_cons_zero, List.set_cons_succ]
  refine takeD (i := 7) (d := some 11) (v := ?vT8) rfl rfl (by kernel_rfl) (by kernel_rfl) (by kernel_rfl) (fun _ _ _ h => h) (Or.inl ⟨by rfl, ?hyT8⟩) (by assumption) ?rstT8
  case hyT8 => (intro w hSw; (try dsimp only at hSw); go_simp; (try with_reducible rfl))
  try simp only [Act.put, List.setIfInBounds_toArray, List.set_cons_zero, List.set_cons_succ]
  refine takeD (i := 8) (d := some 12) (v := ?vT9) rfl rfl (by kernel_rfl) (by kernel_rfl) (by kernel_rfl) (fun _ _ _ h => h) (Or.inl ⟨by rfl, ?hyT9⟩) (by assumption) ?rstT9
  case hyT9 => (intro w hSw; (try dsimp only at hSw); go_simp; (try with_reducible rfl))
  try simp only [Act.put, List.setIfInBounds_toArray, List.set_cons_zero, List.set_cons_succ]
  refine wpAnyH_ready (rs := [4]) (by kernel_rfl) (by simp) ?_
  refine AllReadyH.cons rfl (fun K hK => ?_) AllReadyH.nil
  go_simp
  refine (HU.out _ ?_).mono ?_
  · first | exact hcur | exact hcur.drew
  rintro e2 w1 ⟨a1, c1, rfl, ho1, hb2⟩
  have hcur2 : Below w.heap.size w w1 := by first | exact hcur.trans (hb2.mono hcur.size) | exact hcur.drew.trans (hb2.mono hcur.drew.size)
  have ho1' := ho1.mono (C := w.heap.size) (by first | exact hcur.size | exact hcur.drew.size)
  clear ho1
  have ho1 := ho1'
  clear ho1'
  clear hcur hb2
  have hcur := hcur2
  clear hcur2
  clear hHeld
  refine hK.out _ _ ?hS10 (fun hHeld => ?rest10)
  case hS10 => (intro p hp; refine Below.cell (B := w.heap.size) ?_ hp; (repeat (first | with_reducible exact hcur | (with_reducible refine Below.drew ?_))))
  clear hK K
  try simp only [Act.put, List.setIfInBounds_toArray, List.set_cons_zero, List.set_cons_succ]
  refine wpAnyH_ready (rs := [9]) (by kernel_rfl) (by simp) ?_
  refine AllReadyH.cons rfl (fun K hK => ?_) AllReadyH.nil
  go_simp
  refine (HR.out _ ?_).mono ?_
  · first | exact hcur | exact hcur.drew
  rintro e2 w2 ⟨a2, c2, rfl, ho2, hb2⟩
  have hcur2 : Below w.heap.size w w2 := by first | exact hcur.trans (hb2.mono hcur.size) | exact hcur.drew.trans (hb2.mono hcur.drew.size)
  have ho2' := ho2.mono (C := w.heap.size) (by first | exact hcur.size | exact hcur.drew.size)
  clear ho2
  have ho2 := ho2'
  clear ho2'
  have ho1' := ho1.below (by first | exact hb2 | exact (Below.refl _ _).drew.trans hb2)
  clear ho1
  have ho1 := ho1'
  clear ho1'
  clear hcur hb2
  have hcur := hcur2
  clear hcur2
  clear hHeld
  refine hK.out _ _ ?hS11 (fun hHeld => ?rest11)
  case hS11 => (intro p hp; refine Below.cell (B := w.heap.size) ?_ hp; (repeat (first | with_reducible exact hcur | (with_reducible refine Below.drew ?_))))
  clear hK K
  try simp only [Act.put, List.setIfInBounds_toArray, List.set_cons_zero, List.set_cons_succ]
  refine takeD (i := 10) (d := some 2) (v := ?vT12) rfl rfl (by kernel_rfl) (by kernel_rfl) (by kernel_rfl) (fun _ _ _ h => h) (Or.inl ⟨by rfl, ?hyT12⟩) (by assumption) ?rstT12
  case hyT12 => (intro w hSw; (try dsimp only at hSw); go_simp; (try with_reducible rfl))
  try simp only [Act.put, List.setIfInBounds_toArray, List.set_cons_zero, List.set_cons_succ]
  refine takeD (i := 11) (d := some 3) (v := ?vT13) rfl rfl (by kernel_rfl) (by kernel_rfl) (by kernel_rfl) (fun _ _ _ h => h) (Or.inl ⟨by rfl, ?hyT13⟩) (by assumption) ?rstT13
  case hyT13 => (intro w hSw; (try dsimp only at hSw); go_simp; (try with_reducible rfl))
  try simp only [Act.put, List.setIfInBounds_toArray, List.set_cons_zero, List.set_cons_succ]
  refine wpAnyH_done (by kernel_rfl) ?_ _
  go_wp2_with fail
  refine bodyPost_ret (v := .tuple #[.slice a1 U.length c1, .slice a2 R.length c2]) (by simp [results, Tryd.results9, go_sem]) rfl ?_
  exact ⟨a1, c1, a2, c2, rfl, ho1, ho2, hcur⟩
end Go.Proofs.YtokkodkhkpgebaaDoor
