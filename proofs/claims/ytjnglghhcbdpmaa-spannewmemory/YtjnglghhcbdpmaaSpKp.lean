import Derived.Test.YtjnglghhcbdpmaaSpBl
import Derived.Deep.AppendLies
namespace Go.Proofs.Ytjnglghhcbdpmaa
open Go.RowKit Go.Lib
set_option maxRecDepth 100000

theorem take_snoc_map (l : List (Int × Int)) (f : Int × Int → Int) (j : Nat) (hj : j < l.length) : (l.take (j + 1)).map f = (l.take j).map f ++ [f (l.getD j (0, 0))] := by
  have e : l.take (j + 1) = l.take j ++ [l.getD j (0, 0)] := by
    rw [pget hj]; simp
  rw [e, List.map_append]; rfl
theorem OwnI.keep {w w' : World} {B : Nat} {v u : Value} {l : List Int} (h : OwnI w B v l) (hk : Keeps w w' u) (hne : ∀ g, v.ownBlock = some g → u.ownBlock ≠ some g) : OwnI w' B v l := by
  refine ⟨h.1, ?_⟩
  rcases h.2 with h0 | ⟨g, cap, cur, e, h1, hh, rest⟩
  · exact .inl h0
  · exact .inr ⟨g, cap, cur, e, h1, (hk g (Array.getElem?_eq_some_iff.1 hh).1 (hne g (by rw [e]; rfl))).trans hh, rest⟩
/-- 'append(x, e)', and where the new row lies. -/
theorem appendI_lie {w : World} {B : Nat} {v : Value} {n : Nat} {xs : List Int} (h : OwnI w B v xs) (hn : xs.length = n) (hB : B ≤ w.heap.size) (x : Int) (hs : (n + 1) * 8 ≤ 140737488355328) (ty : TypeId) :
    ∃ g cap' w', (Builtin.append_ #[23, 23] ty #[v, .slice (some ⟨w.heap.size, 0, none⟩) 1 1]).run Try.prog (w.alloc (.cells #[.int .i64 x] 3)) = .ok (.slice (some ⟨g, 0, none⟩) (n + 1) cap') w' ∧
      OwnI w' B (.slice (some ⟨g, 0, none⟩) (n + 1) cap') (xs ++ [x]) ∧ Below B w w' ∧ Keeps w w' v ∧ (v.ownBlock = some g ∨ w.heap.size < g) ∧ g < w'.heap.size := by
  obtain ⟨i, hi, hz, hsz, hby⟩ := info_parts intInfo
  have hown : (w.alloc (.cells #[.int .i64 x] 3)).ownsRow B 3 1 v n (flatI xs) := by
    unfold OwnI at h
    rw [hn] at h
    exact World.ownsRow.alloc h _
  have hcell : ∀ j u, [Value.int .i64 x][j]? = some u → (w.alloc (.cells #[.int .i64 x] 3)).cell? ((⟨w.heap.size, 0, none⟩ : Addr).add j) = some u := by
    intro j u hu
    match j, hu with
    | 0, hu =>
      obtain ⟨g', off', e, _, hc⟩ := (rngI_lit1 w x 3).cells 0 (by omega)
      cases e
      cases hu
      exact hc
  obtain ⟨g, cap', w', hr, ho, hgr, hlie, hlt⟩ := run_append_lies (P := Try.prog) (w.alloc (.cells #[.int .i64 x] 3)) 23 ty B 3 i _ 1 8 Try.underlying23 hi hz hsz hby rfl (by decide) v n (flatI xs) hown ⟨w.heap.size, 0, none⟩ 1 1 [.int .i64 x] rfl hcell (fun u hu => by simp at hu; subst hu; rfl)
    (by decide) (by simp only [maxLen]; omega) hs (by simp; omega) (w.heap.size + 1) (by simp)
  refine ⟨g, cap', w', hr, ?_, ?_, fun k hk hne => ?_, ?_, hlt⟩
  · unfold OwnI
    rw [List.length_append, hn]
    simpa [flatI] using ho
  · exact ((Below.refl B w).alloc hB _).trans (below_grown hgr (fun k hk => (World.ownsRow.lt hown k hk).1) (by simp; omega))
  · rw [hgr.block k (by simp; omega) (fun e => hne e.symm)]
    exact Below.heap_alloc w _ k hk
  · rcases hlie with e | e
    · exact .inl e
    · exact .inr (by omega)
end Go.Proofs.Ytjnglghhcbdpmaa
