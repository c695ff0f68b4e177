import Derived.Test.YtjnglghhcbdpmaaSpNb
namespace Go.Proofs.Ytjnglghhcbdpmaa
open Go.RowKit Go.Lib Go.Shelf
set_option maxRecDepth 100000

/-- 'append(list, api.Range{lo, hi})': what the old slice holds is as it was. -/
theorem appendR_old {w : World} {B : Nat} {a : Option Addr} {n cap : Nat} {l : List (Int × Int)} (h : Own w B (.slice a n cap) l) (hB : B ≤ w.heap.size) (lo hi : Int) (hs : n ≤ 8388608) (ty : TypeId) :
    ∃ g cap' w', (Builtin.append_ #[22, 22] ty #[.slice a n cap, .slice (some ⟨w.heap.size, 0, none⟩) 1 1]).run Try.prog (w.alloc (.cells #[.int .i64 lo, .int .i64 hi] 39)) = .ok (.slice (some ⟨g, 0, none⟩) (n + 1) cap') w' ∧
      Own w' B (.slice (some ⟨g, 0, none⟩) (n + 1) cap') (l ++ [(lo, hi)]) ∧ Below B w w' ∧ Keeps w w' (.slice a n cap) ∧ ((Value.slice a n cap).ownBlock = some g ∨ w.heap.size < g) ∧ g < w'.heap.size ∧ Rng w' a n cap l := by
  have hn := h.rng.len
  obtain ⟨g, cap', w', hr, ho, hb, hk, hl, hlt⟩ := appendR_lie h hn hB lo hi hs ty
  refine ⟨g, cap', w', hr, ho, hb, hk, hl, hlt, ?_⟩
  rcases h.2 with ⟨e, h0⟩ | ⟨g0, cap0, cur, e, hb0, hh, hnc, hcm, hsz, htk⟩
  · simp only [Value.slice.injEq] at e
    obtain ⟨rfl, rfl, rfl⟩ := e
    have : l = [] := List.eq_nil_of_length_eq_zero h0
    subst this
    exact rng_nil _
  · simp only [Value.slice.injEq] at e
    obtain ⟨rfl, e2, rfl⟩ := e
    obtain ⟨i, hi0, hz, hsz0, hby⟩ := info_parts rngInfo
    have hh1 : (w.alloc (.cells #[.int .i64 lo, .int .i64 hi] 39)).heap[g0]? = some (.cells cur 39 (0, 0)) := (Below.heap_alloc w _ g0 (Array.getElem?_eq_some_iff.1 hh).1).trans hh
    by_cases hroom : n + 1 ≤ cap
    · have hr2 := run_append_room (P := Try.prog) (w.alloc (.cells #[.int .i64 lo, .int .i64 hi] 39)) 22 ty 39 i Try.underlying22 hi0 g0 n cap cur hh1 ⟨w.heap.size, 0, none⟩ 1 1 [.int .i64 lo, .int .i64 hi] (by simp [hsz0]) (cell_new2 _ _ _ _) (fun u hu => by simp at hu; rcases hu with rfl | rfl <;> rfl) hroom (by simp [hsz0]; omega)
      rw [hr2] at hr
      simp only [Result.ok.injEq, Value.slice.injEq, Option.some.injEq, Addr.mk.injEq, and_true] at hr
      obtain ⟨⟨rfl, _, rfl⟩, _⟩ := hr
      have r := ho.rng
      refine ⟨hn, ⟨by omega, r.room.2⟩, fun j hj => ?_⟩
      obtain ⟨g', off', e, hg', hc, hd⟩ := r.cells j (by omega)
      cases e
      have ed : (l ++ [(lo, hi)]).getD j (0, 0) = l.getD j (0, 0) := by
        rw [List.getD_eq_getElem?_getD, List.getD_eq_getElem?_getD, List.getElem?_append_left (by omega)]
      rw [ed] at hc hd
      exact ⟨_, _, rfl, hg', hc, hd⟩
    · obtain ⟨g2, off2, ea, hg2, hrow⟩ : ∃ g off, (some (⟨g0, 0, none⟩ : Addr)) = some ⟨g, off, none⟩ ∧ g < w.heap.size ∧ (n = 0 ∨ ∀ j u, (flat l)[j]? = some u → w.cell? ((⟨g, off, none⟩ : Addr).add j) = some u) := by
        by_cases h0 : n = 0
        · exact ⟨g0, 0, rfl, (Array.getElem?_eq_some_iff.1 hh).1, .inl h0⟩
        · obtain ⟨g1, o1, e1, hg1, hc1⟩ := h.rng.row (by omega)
          exact ⟨g1, o1, e1, hg1, .inr hc1⟩
      cases ea
      have hal := (Below.refl w.heap.size w).alloc (Nat.le_refl _) (.cells #[.int .i64 lo, .int .i64 hi] 39)
      have hr2 := run_append_grow (P := Try.prog) (w.alloc (.cells #[.int .i64 lo, .int .i64 hi] 39)) 22 ty 39 i _ Try.underlying22 hi0 hz ⟨g0, 0, none⟩ n cap (flat l) (by rw [flat_length, hsz0, hn]) (fun j u hu => by
          rcases hrow with h0 | hrow
          · have : (flat l).length = 0 := by rw [flat_length]; omega
            rw [List.eq_nil_of_length_eq_zero this] at hu
            simp at hu
          · rw [addr_add0]
            have := hrow j u hu
            rw [addr_add0] at this
            exact (hal.cell (p := ⟨g0, 0 + j, none⟩) hg2).trans this) ⟨w.heap.size, 0, none⟩ 1 1 [.int .i64 lo, .int .i64 hi] (by simp [hsz0]) (cell_new2 _ _ _ _) (by omega) (by omega) (by
          have := nextslicecap_le (need := n + 1) (old := cap) (by omega)
          rw [hby]
          omega)
      rw [hr2] at hr
      simp only [Result.ok.injEq] at hr
      obtain ⟨_, rfl⟩ := hr
      have hdr : Below w.heap.size w (w.alloc (.cells #[.int .i64 lo, .int .i64 hi] 39)).drew := hal.trans ⟨rfl, rfl, rfl, Nat.le_refl _, fun _ _ => rfl⟩
      exact h.rng.below (hdr.alloc hdr.size _)

/-! ### Rows of lists -/
def OwnS (w : World) (B : Nat) (v : Value) (xs : List Value) : Prop := w.ownsRow B 22 1 v xs.length xs
theorem OwnS.below {w w' : World} {B : Nat} {v : Value} {l : List Value} (h : OwnS w B v l) (hb : Below w.heap.size w w') : OwnS w' B v l := by
  refine ⟨h.1, ?_⟩
  rcases h.2 with h0 | ⟨g, cap, cur, e, h1, hh, rest⟩
  · exact .inl h0
  · exact .inr ⟨g, cap, cur, e, h1, (hb.block g (Array.getElem?_eq_some_iff.1 hh).1).trans hh, rest⟩
theorem OwnS.shape {w : World} {B : Nat} {v : Value} {l : List Value} (h : OwnS w B v l) : ∃ a cap, v = .slice a l.length cap := by
  rcases h.2 with ⟨e, h0⟩ | ⟨g, cap, cur, e, _⟩
  · exact ⟨none, 0, by rw [e, h0]⟩
  · exact ⟨_, _, e⟩
theorem OwnS.cell {w : World} {B n cap : Nat} {a : Option Addr} {l : List Value} (h : OwnS w B (.slice a n cap) l) (j : Nat) (hj : j < l.length) : ∃ g, a = some ⟨g, 0, none⟩ ∧ B ≤ g ∧ g < w.heap.size ∧ w.cell? ⟨g, j, none⟩ = some (l.getD j undef) := by
  rcases h.2 with ⟨_, h0⟩ | ⟨g, cap', cur, e, hb, hh, hn, hm, hsz, htk⟩
  · omega
  · simp only [Value.slice.injEq] at e
    obtain ⟨rfl, _, rfl⟩ := e
    refine ⟨g, rfl, hb, (Array.getElem?_eq_some_iff.1 hh).1, ?_⟩
    simp only [World.cell?, hh]
    have e2 : cur.toList[j]? = l[j]? := by
      conv => rhs; rw [← htk]
      rw [List.getElem?_take, if_pos (by omega)]
    rw [Array.getElem?_toList] at e2
    rw [e2, List.getD_eq_getElem?_getD, List.getElem?_eq_getElem hj]
    rfl
theorem sliceInfo : (Try.prog.info? 22).map (fun i => (i.zero, i.size, i.bytes)) = some (some (.slice none 0 0), 1, 24) := by kernel_rfl
theorem appendS {w : World} {B : Nat} {v : Value} {n : Nat} {xs : List Value} (h : OwnS w B v xs) (hn : xs.length = n) (hB : B ≤ w.heap.size) (a : Option Addr) (m c : Nat) (hs : n ≤ 1000) (ty : TypeId) :
    ∃ g cap' w', (Builtin.append_ #[35, 35] ty #[v, .slice (some ⟨w.heap.size, 0, none⟩) 1 1]).run Try.prog (w.alloc (.cells #[.slice a m c] 22)) = .ok (.slice (some ⟨g, 0, none⟩) (n + 1) cap') w' ∧
      OwnS w' B (.slice (some ⟨g, 0, none⟩) (n + 1) cap') (xs ++ [.slice a m c]) ∧ Below B w w' ∧ Keeps w w' v := by
  obtain ⟨i, hi, hz, hsz, hby⟩ := info_parts sliceInfo
  have hown : (w.alloc (.cells #[.slice a m c] 22)).ownsRow B 22 1 v n xs := by
    unfold OwnS at h
    rw [hn] at h
    exact World.ownsRow.alloc h _
  obtain ⟨g, cap', w', hr, ho, hgr, hlie, hlt⟩ := run_append_lies (P := Try.prog) (w.alloc (.cells #[.slice a m c] 22)) 35 ty B 22 i _ 1 24 Try.underlying35 hi hz hsz hby rfl (by decide) v n xs hown ⟨w.heap.size, 0, none⟩ 1 1 [.slice a m c] rfl (cell_newL _ _ _) (fun u hu => by simp at hu; subst hu; rfl)
    (by decide) (by simp only [maxLen]; omega) (by omega) (by simp; omega) (w.heap.size + 1) (by simp)
  refine ⟨g, cap', w', hr, ?_, ?_, fun k hk hne => ?_⟩
  · unfold OwnS
    rw [List.length_append, hn]
    simpa using ho
  · exact ((Below.refl B w).alloc hB _).trans (below_grown hgr (fun k hk => (World.ownsRow.lt hown k hk).1) (by simp; omega))
  · rw [hgr.block k (by simp; omega) (fun e => hne e.symm)]
    exact Below.heap_alloc w _ k hk
theorem cell7 {w : World} {g : Nat} {v : Nat → Value} {t : TypeId} (h : w.heap[g]? = some (.cells #[v 0, v 1, v 2, v 3, v 4, v 5, v 6] t)) (k : Nat) (hk : k < 7) : w.cell? ⟨g, k, none⟩ = some (v k) := by
  simp only [World.cell?, h]
  match k, hk with
  | 0, _ => rfl
  | 1, _ => rfl
  | 2, _ => rfl
  | 3, _ => rfl
  | 4, _ => rfl
  | 5, _ => rfl
  | 6, _ => rfl
end Go.Proofs.Ytjnglghhcbdpmaa
