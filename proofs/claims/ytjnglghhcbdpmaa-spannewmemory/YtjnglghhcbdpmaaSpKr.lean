import Derived.Test.YtjnglghhcbdpmaaSpPl
namespace Go.Proofs.Ytjnglghhcbdpmaa
open Go.RowKit Go.Lib
set_option maxRecDepth 100000

/-- 'append(list, api.Range{lo, hi})', and where the new row lies. -/
theorem appendR_lie {w : World} {B : Nat} {v : Value} {n : Nat} {l : List (Int × Int)} (h : Own w B v l) (hn : l.length = n) (hB : B ≤ w.heap.size) (lo hi : Int) (hs : n ≤ 8388608) (ty : TypeId) :
    ∃ g cap' w', (Builtin.append_ #[22, 22] ty #[v, .slice (some ⟨w.heap.size, 0, none⟩) 1 1]).run Try.prog (w.alloc (.cells #[.int .i64 lo, .int .i64 hi] 39)) = .ok (.slice (some ⟨g, 0, none⟩) (n + 1) cap') w' ∧
      Own w' B (.slice (some ⟨g, 0, none⟩) (n + 1) cap') (l ++ [(lo, hi)]) ∧ Below B w w' ∧ Keeps w w' v ∧ (v.ownBlock = some g ∨ w.heap.size < g) ∧ g < w'.heap.size := by
  obtain ⟨i, hi0, hz, hsz, hby⟩ := info_parts rngInfo
  have hown : (w.alloc (.cells #[.int .i64 lo, .int .i64 hi] 39)).ownsRow B 39 2 v n (flat l) := by
    unfold Own at h
    rw [hn] at h
    exact World.ownsRow.alloc h _
  obtain ⟨g, cap', w', hr, ho, hgr, hlie, hlt⟩ := run_append_lies (P := Try.prog) (w.alloc (.cells #[.int .i64 lo, .int .i64 hi] 39)) 22 ty B 39 i _ 2 16 Try.underlying22 hi0 hz hsz hby rfl (by decide) v n (flat l) hown ⟨w.heap.size, 0, none⟩ 1 1 [.int .i64 lo, .int .i64 hi] rfl (cell_new2 _ _ _ _) (fun u hu => by simp at hu; rcases hu with rfl | rfl <;> rfl)
    (by decide) (by simp only [maxLen]; omega) (by omega) (by simp; omega) (w.heap.size + 1) (by simp)
  refine ⟨g, cap', w', hr, ?_, ?_, fun k hk hne => ?_, ?_, hlt⟩
  · unfold Own
    rw [List.length_append, hn, flat_append]
    simpa [flat] using ho
  · exact ((Below.refl B w).alloc hB _).trans (below_grown hgr (fun k hk => (World.ownsRow.lt hown k hk).1) (by simp; omega))
  · rw [hgr.block k (by simp; omega) (fun e => hne e.symm)]
    exact Below.heap_alloc w _ k hk
  · rcases hlie with e | e
    · exact .inl e
    · exact .inr (by omega)
theorem Own.keepB {w w' : World} {B : Nat} {v u : Value} {l : List (Int × Int)} (h : Own w B v l) (hk : Keeps w w' u) (hne : ∀ g, v.ownBlock = some g → u.ownBlock ≠ some g) : Own w' B v l := by
  refine ⟨h.1, ?_⟩
  rcases h.2 with h0 | ⟨g, cap, cur, e, h1, hh, rest⟩
  · exact .inl h0
  · exact .inr ⟨g, cap, cur, e, h1, (hk g (Array.getElem?_eq_some_iff.1 hh).1 (hne g (by rw [e]; rfl))).trans hh, rest⟩
theorem Apart.symm {u v : Value} (h : Apart u v) : Apart v u := fun g hv hu => h g hu hv
/-- One of two rows grows. -/
theorem two_append {w : World} {B n : Nat} {v1 v2 : Value} {X Y : List (Int × Int)} (h1 : Own w B v1 X) (h2 : Own w B v2 Y) (hap : Apart v1 v2) (hn : X.length = n) (hB : B ≤ w.heap.size) (lo hi : Int) (hs : n ≤ 8388608) (ty : TypeId) :
    ∃ a cap' w', (Builtin.append_ #[22, 22] ty #[v1, .slice (some ⟨w.heap.size, 0, none⟩) 1 1]).run Try.prog (w.alloc (.cells #[.int .i64 lo, .int .i64 hi] 39)) = .ok (.slice a (n + 1) cap') w' ∧
      Own w' B (.slice a (n + 1) cap') (X ++ [(lo, hi)]) ∧ Own w' B v2 Y ∧ Apart (.slice a (n + 1) cap') v2 ∧ Below B w w' := by
  obtain ⟨g, cap', w', hr, ho, hb, hk, hl, hlt⟩ := appendR_lie h1 hn hB lo hi hs ty
  refine ⟨_, cap', w', hr, ho, h2.keepB hk (fun g hg e => hap g e hg), fun e he e2 => ?_, hb⟩
  have e1 : g = e := by simpa [Value.ownBlock] using he
  subst e1
  rcases hl with q | q
  · exact hap _ q e2
  · have := (World.ownsRow.lt h2 _ e2).2
    omega
end Go.Proofs.Ytjnglghhcbdpmaa
