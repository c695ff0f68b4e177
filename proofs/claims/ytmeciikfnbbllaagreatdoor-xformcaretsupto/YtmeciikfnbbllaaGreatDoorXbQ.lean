import Derived.Test.YtmeciikfnbbllaaGreatDoorGr1
namespace Go.Proofs.YtmeciikfnbbllaaGreatDoor
open Go.RowKit Go.Lib
set_option maxRecDepth 100000
structure Right (o : OpV) : Prop where
  kind : 1 ≤ o.k ∧ o.k ≤ 4
  id : (o.c = 0 ∧ o.n = 0) ∨ isIdP o.c o.n = true
  extra : extra o = false
  ins : o.k = 1 → 0 ≤ o.p ∧ o.p ≤ 1048576 ∧ insP o o.p = 0
  rng : o.k = 2 ∨ o.k = 3 → o.l ≠ [] ∧ Sp.Lst o.l
  tgt : o.k = 4 → isIdP o.tc o.tn = true ∧ ¬ (o.tc = o.c ∧ o.tn = o.n)
theorem insP_code (o : OpV) (t : Int) (h : insP o t = 0) : 0 ≤ o.p ∧ o.p ≤ t ∧ (check o.s).2.2 = 0 ∧ (check o.s).1 ≠ 0 ∧ (check o.s).1 ≤ 256 ∧ t + (check o.s).1 ≤ 1048576 := by
  unfold insP at h
  split at h
  · exact absurd h (by assumption)
  split at h
  · cases h
  split at h
  · cases h
  split at h
  · cases h
  split at h
  · cases h
  omega
theorem opCheck_zero {o : OpV} {t : Int} (h : opCheck o t = 0) : 0 ≤ t ∧ t ≤ 1048576 ∧ (1 ≤ o.k ∧ o.k ≤ 4) ∧ ((o.c = 0 ∧ o.n = 0) ∨ isIdP o.c o.n = true) ∧ Go.Proofs.YtmeciikfnbbllaaGreatDoor.extra o = false ∧ (o.k = 1 → insP o t = 0) ∧ (o.k = 2 ∨ o.k = 3 → rngP o t = 0) ∧ (o.k = 4 → tgtP o = 0) := by
  unfold opCheck at h
  split at h
  · cases h
  split at h
  · cases h
  split at h
  · cases h
  rename_i h1 h2 h3
  have hI : (o.c = 0 ∧ o.n = 0) ∨ isIdP o.c o.n = true := by
    by_cases hz : o.c = 0 ∧ o.n = 0
    · exact .inl hz
    · right
      cases hb : isIdP o.c o.n with
      | true => rfl
      | false => exact absurd ⟨hz, hb⟩ h3
  split at h
  · cases h
  rename_i h4
  refine ⟨by omega, by omega, by omega, hI, by simpa using h4, fun e => ?_, fun e => ?_, fun e => ?_⟩
  · rw [if_pos e] at h; exact h
  · rw [if_neg (by omega), if_neg (by omega)] at h; exact h
  · rw [if_neg (by omega), if_pos e] at h; exact h
theorem right_of {o : OpV} (h : ownP o = 0) : Right o := by
  unfold ownP at h
  have key : ∀ t, opCheck o t = 0 → (o.k = 1 → 0 ≤ o.p ∧ o.p ≤ 1048576 ∧ insP o o.p = 0) → Right o := fun t ht hi => by
    obtain ⟨_, _, h2, h3, h4, h5, h6, h7⟩ := opCheck_zero ht
    refine ⟨h2, h3, h4, hi, fun e => ?_, fun e => ?_⟩
    · have := h6 e
      unfold rngP at this
      split at this
      · cases this
      rename_i hn
      split at this
      · rename_i hc; exact absurd this hc
      rename_i hc
      exact ⟨hn, Sp.checkL_ok (by simpa using hc)⟩
    · have := h7 e
      unfold tgtP at this
      split at this
      · cases this
      rename_i hn
      refine ⟨?_, fun hh => hn (.inr hh)⟩
      cases hb : isIdP o.tc o.tn with
      | true => rfl
      | false => exact absurd (.inl hb) hn
  split at h
  · rename_i hc
    refine key _ h fun e => ⟨hc.2.1, hc.2.2, ?_⟩
    exact (opCheck_zero h).2.2.2.2.2.1 e
  · rename_i hc
    refine key _ h fun e => ?_
    have h1 := (opCheck_zero h).2.2.2.2.2.1 e
    have h2 := insP_code _ _ h1
    exact absurd ⟨e, h2.1, h2.2.1⟩ hc
theorem Right.wd {o : OpV} (h : Right o) : 0 ≤ widthP o ∧ widthP o ≤ 256 := by
  unfold widthP
  split
  · rename_i e
    have h1 := insP_code _ _ (h.ins e).2.2
    have h2 := check_nonneg o.s
    omega
  · omega
theorem Right.pos {o : OpV} (h : Right o) (e : o.k = 1) : 0 ≤ o.p ∧ o.p ≤ 1048576 ∧ 1 ≤ widthP o ∧ o.p + widthP o ≤ 1048576 := by
  have h1 := insP_code _ _ (h.ins e).2.2
  have h2 := check_nonneg o.s
  have h3 : widthP o = (check o.s).1 := by unfold widthP; rw [if_pos e]
  have := (h.ins e).2.1
  omega
theorem Right.lst {o : OpV} (h : Right o) (e1 : o.k ≠ 1) (e4 : o.k ≠ 4) : Sp.Lst o.l := (h.rng (by have := h.kind; omega)).2
theorem first2 {o o2 : OpV} (h : firstErr [o, o2] = 0) : ownP o = 0 ∧ ownP o2 = 0 := by
  unfold firstErr at h
  split at h
  · rename_i hn; exact absurd h hn
  · rename_i hn
    unfold firstErr at h
    split at h
    · rename_i hm; exact absurd h hm
    · rename_i hm; exact ⟨by simpa using hn, by simpa using hm⟩
theorem first1 {o : OpV} : firstErr [o] = ownP o := by
  unfold firstErr
  split
  · rfl
  · rename_i hn; unfold firstErr; simp at hn; exact hn.symm
end Go.Proofs.YtmeciikfnbbllaaGreatDoor
