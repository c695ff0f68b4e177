import Derived.Test.YtjcfeaekhefpfaaRpM
import Derived.Deep.DeepAppendWide
/-! One element appended to a row of the call's own, up to Go's own bound. -/
namespace Go.Proofs.Ytjcfeaekhefpfaa
open Go.RowKit Go.Lib
variable {α : Type} {f : α → List Value} {k : Nat} {T : TypeId}

theorem appendF_wide {P : Program} {S : TypeId} {by_ : Nat} (hK : Kind P S T k by_) (hf : Lay f k) {w : World} {B : Nat} {v : Value} {l : List α} (h : OwnF f k T w B v l) (hB : B ≤ w.heap.size) (x : α) (cs : Array Value) (hcs : f x = cs.toList) (t : TypeId)
    (hs : ((l.length + 1) + (l.length + 1) / 4 + 192) * by_ ≤ 281474976710656) (hs2 : l.length + 1 ≤ 9223372036854775807) (ty : TypeId) :
    ∃ g cap' w', (Builtin.append_ #[S, S] ty #[v, .slice (some ⟨w.heap.size, 0, none⟩) 1 1]).run P (w.alloc (.cells cs t)) = .ok (.slice (some ⟨g, 0, none⟩) (l.length + 1) cap') w' ∧ OwnF f k T w' B (.slice (some ⟨g, 0, none⟩) (l.length + 1) cap') (l ++ [x]) ∧ Below B w w' ∧ Keeps w w' v ∧ w.heap.size < w'.heap.size ∧ (v.ownBlock = some g ∨ w.heap.size < g) := by
  by_cases hsm : (l.length + 1) * by_ ≤ 140737488355328
  · exact appendF_one hK hf h hB x cs hcs t hsm hs2 ty
  have hw : Below w.heap.size w (w.alloc (.cells cs t)) := (Below.refl _ _).alloc (Nat.le_refl _) _
  have hsz1 : (w.alloc (.cells cs t)).heap.size = w.heap.size + 1 := World.size_alloc ..
  have h1 := h.below hw
  have hy := rw_lit (f := f) (k := k) w x cs hcs t
  obtain ⟨ga, off, ea, hg, hc⟩ := hy.row hf Nat.one_pos
  simp only [Option.some.injEq, Addr.mk.injEq, and_true] at ea
  obtain ⟨rfl, rfl⟩ := ea
  obtain ⟨i, z, hi, hz, hsz, hby, hzc⟩ := hK.info
  have hl1 : (flatF f [x]).length = 1 * k := by rw [flatF_length hf]; rfl
  generalize hw1 : w.alloc (.cells cs t) = w1 at *
  obtain ⟨v', w', hr, ho, hgr, _⟩ := run_append_own_wide (P := P) w1 B S ty T i z k by_ hK.under hi hz hsz hby hzc hf.pos v l.length (flatF f l) h1 ⟨w.heap.size, 0, none⟩ 1 1 (flatF f [x]) hl1 hc (flatF_one hf [x])
    (by simp only [maxLen]; omega) hs (by omega)
  have hat : v'.ownBlock = v.ownBlock ∨ v'.ownBlock = some w1.heap.size := by
    rcases h1.2 with ⟨_, h0⟩ | ⟨g, cap, cur, rfl, hBg, hh, hnc, hcm, hcs', htake⟩
    · exfalso
      have h0' : l.length = 0 := h0
      rw [h0'] at hs hsm
      omega
    · by_cases hroom : l.length + 1 ≤ cap
      · have hr2 := run_append_room (P := P) w1 S ty T i hK.under hi g l.length cap cur hh ⟨w.heap.size, 0, none⟩ 1 1 (flatF f [x]) (by rw [hsz]; exact hl1) hc (flatF_one hf [x]) hroom (by rw [hsz, hl1, hcs', ← Nat.add_mul]; exact Nat.mul_le_mul_right _ hroom)
        rw [hr2] at hr
        cases hr
        exact .inl rfl
      · have hr2 := run_append_grow (P := P) w1 S ty T i z hK.under hi hz ⟨g, 0, none⟩ l.length cap (flatF f l) (by rw [hsz]; exact h1.1) (h1.cells (g := g) rfl) ⟨w.heap.size, 0, none⟩ 1 1 (flatF f [x]) (by rw [hsz]; exact hl1) hc (by omega) (by omega) (by rw [hby]; exact growslice_fits_wide (by omega) hs)
        rw [hr2] at hr
        cases hr
        exact .inr rfl
  rcases ho.2 with ⟨_, h0⟩ | ⟨g, cap, cur, rfl, hBg, rest⟩
  · omega
  · have hb : Below B w1 w' := below_grown hgr (fun k hk => h.ge hk) (by omega)
    have hbw : Below B w w1 := hw.mono hB
    refine ⟨g, cap, w', hr, ?_, hbw.trans hb, fun q hq hne => ?_, by have := hb.size; omega, ?_⟩
    · unfold OwnF
      rw [flatF_append, List.length_append, List.length_singleton]
      exact ho
    · rw [hgr.block q (by omega) (fun e => hne e.symm)]
      exact hw.block q hq
    · rcases hat with h5 | h5
      · exact .inl (by rw [← h5]; rfl)
      · right
        have : g = w1.heap.size := by simpa [Value.ownBlock] using h5
        omega
end Go.Proofs.Ytjcfeaekhefpfaa
