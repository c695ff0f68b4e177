import Derived.Test.YtjnglghhcbdpmaaSpE
namespace Go.Proofs.Ytjnglghhcbdpmaa
open Go.RowKit Go.Lib
set_option maxRecDepth 100000

/-- 'copy(out, a)' -/
theorem copy_run {w : World} {B g n cap : Nat} {a : Option Addr} {l l0 : List (Int × Int)} (h : Rng w a n cap l) (h0 : Own w B (.slice (some ⟨g, 0, none⟩) n n) l0) (hl0 : l0.length = n) (ty : TypeId) :
    ∃ w', (Builtin.copy_ #[22, 22] ty #[.slice (some ⟨g, 0, none⟩) n n, .slice a n cap]).run Try.prog w = .ok (goInt n) w' ∧ Own w' B (.slice (some ⟨g, 0, none⟩) n n) l ∧ Below B w w' := by
  obtain ⟨i, hi, hz, hs, hby⟩ := info_parts rngInfo
  have hlen := h.len
  by_cases hn : n = 0
  · subst hn
    obtain rfl : l = [] := List.eq_nil_of_length_eq_zero hlen
    obtain rfl : l0 = [] := List.eq_nil_of_length_eq_zero hl0
    refine ⟨w, ?_, h0, Below.refl _ _⟩
    cases a <;> simp [Builtin.copy_, run_underlying Try.underlying22, sizeOf, typeInfo, hi, Builtin.lenOf, Builtin.firstCells, loadCells, loadCellsFrom, storeCells]
  · obtain ⟨g2, off2, rfl, hg2, hc⟩ := h.row (by omega)
    rcases h0.2 with ⟨e, _⟩ | ⟨g', cap', cur, e, hb, hh, hnc, hcm, hsz, htk⟩
    · simp at e
    · simp only [Value.slice.injEq, Option.some.injEq, Addr.mk.injEq, and_true] at e
      obtain ⟨rfl, e2, rfl⟩ := e
      have hfl : (flat l).length = n * 2 := by rw [flat_length, hlen]
      have hl := run_loadCells_list (P := Try.prog) w ⟨g2, off2, none⟩ (flat l) hc
      have hst := run_storeCells_at Try.prog g 0 39 (flat l) 0 cur w hh (by omega) (flat_one l)
      refine ⟨w.setRow g ((cur.toList.take 0 ++ flat l) ++ cur.toList.drop (0 + (flat l).length)).toArray, ?_, ⟨by rw [hlen]; exact hfl, .inr ⟨g, n, _, by rw [hlen], hb, setRow_heap w g cur _ _ _ hh, by omega, hcm, ?_, ?_⟩⟩, below_setRow (Below.refl _ _) hb _⟩
      · rw [hfl] at hl
        simp only [Nat.add_zero] at hst
        simp [Builtin.copy_, run_underlying Try.underlying22, Builtin.lenOf, Builtin.firstCells, sizeOf, typeInfo, hi, hs, hl, hst]
      · simp only [List.size_toArray, List.length_append, List.length_drop, List.take_zero, List.length_nil, Array.length_toList]
        omega
      · rw [hlen]
        simp [← hfl]
set_option maxHeartbeats 1000000 in
theorem spanCopied_any {w : World} {a : Option Addr} {n cap : Nat} {l : List (Int × Int)} (h : Rng w a n cap l) (hn : n ≤ 32768) :
    Calls Try.prog 15 #[.slice a n cap] w fun e w' => ∃ g, e = .returned (.slice (some ⟨g, 0, none⟩) n n) ∧ Own w' w.heap.size (.slice (some ⟨g, 0, none⟩) n n) l ∧ w.heap.size ≤ g ∧ g < w'.heap.size ∧ Below w.heap.size w w' := by
  obtain ⟨i, hi, hz, hs, hby⟩ := info_parts rngInfo
  obtain ⟨w1, hmk, hown, hgr⟩ := run_makeSlice_full (P := Try.prog) w w.heap.size 22 39 i _ 2 Try.underlying22 hi hz hs .i64 .i64 n (by omega) (by rw [hby]; omega) (by simp only [maxLen]; omega) (Nat.le_refl _)
  have hb1 : Below w.heap.size w w1 := below_grown hgr (fun k hk => by simp at hk) (Nat.le_refl _)
  have h0 : Own w1 w.heap.size (.slice (some ⟨w.heap.size, 0, none⟩) n n) (List.replicate n (0, 0)) := by
    have e1 : (madeCells (Value.agg #[.int .i64 0, .int .i64 0]).cells (n * 2)).toList = flat (List.replicate n (0, 0)) := by
      apply List.ext_getElem?
      intro j
      by_cases hj : j < n * 2
      · have he := flat_even (List.replicate n ((0 : Int), (0 : Int))) (j / 2) (by simp; omega)
        have hd : (List.replicate n ((0 : Int), (0 : Int))).getD (j / 2) (0, 0) = (0, 0) := by
          rw [List.getD_eq_getElem?_getD, List.getElem?_replicate]
          split <;> rfl
        rw [hd] at he
        rcases Nat.mod_two_eq_zero_or_one j with hm | hm
        · rw [show j / 2 * 2 = j by omega] at he
          rw [he.1]
          simp [madeCells, hj, hm, Value.cells]
        · rw [show j / 2 * 2 + 1 = j by omega] at he
          rw [he.2]
          simp [madeCells, hj, hm, Value.cells]
      · rw [List.getElem?_eq_none (by simp [madeCells]; omega), List.getElem?_eq_none (by rw [flat_length]; simp; omega)]
    rw [e1] at hown
    unfold Own
    rw [List.length_replicate]
    exact hown
  obtain ⟨w2, hcp, ho2, hb2⟩ := copy_run (h.below hb1) h0 (List.length_replicate ..) 3
  have hB2 := hb1.trans hb2
  have hlt : w.heap.size < w2.heap.size := by
    rcases hown.2 with ⟨e, _⟩ | ⟨g', cap', cur, e, _, hh, _⟩
    · simp at e
    · simp only [Value.slice.injEq, Option.some.injEq, Addr.mk.injEq, and_true, true_and] at e
      obtain ⟨rfl, _⟩ := e
      have := (Array.getElem?_eq_some_iff.1 hh).1
      have := hb2.size
      have hg := hgr.size
      rcases Nat.lt_or_ge w.heap.size w2.heap.size with h' | h'
      · exact h'
      · exfalso
        have hs2 := (World.ownsRow.lt ho2 w.heap.size rfl).2
        omega
  clear hown h0 hgr hb1 hb2 h
  go_enter Try.func15, Try.ntmps15
  go_wp2_with (at_builtin; refine wpList_copy_hr rfl _ _ 22 rfl _ _ rfl rfl hcp ?_)
  go_ret
  exact ⟨_, rfl, ho2, Nat.le_refl _, hlt, hB2⟩
end Go.Proofs.Ytjnglghhcbdpmaa
