import Derived.Test.YtlebbffpbbjakaaDoorXeC
import Derived.Test.YtlebbffpbbjakaaDoorXcBG
namespace Go.Proofs.YtlebbffpbbjakaaDoor
open Go.RowKit Go.Lib
set_option maxRecDepth 100000

theorem does_insV' (R : List CellW) (c n : Int) (p i : Nat) (hi : i < 5) : doesV R (insV c n p i) = insL R p (newL c n (i + 1)) := by
  unfold doesV
  rw [if_pos (show (insV c n p i).k = 1 from rfl), insV_wdL _ _ _ _ hi]
  rfl
theorem made_lst {t : Nat} (ht : t ≤ 900) {l : List (Int × Int)} (hN : Sp.Norm (-1) l) (hT : ∀ r ∈ l, r.2 ≤ (t : Int)) (hL : l.length ≤ t) : Sp.Lst l := ⟨hN, fun r hr => by have := hT r hr; omega, by omega⟩
theorem made_own {c n : Int} {t : Nat} {o : OpV} (hid : isIdP c n = true) (hc : c ≠ 3) (ht : t ≤ 900) (h : Made c n t o) : ownP o = 0 := by
  rcases h.kind with ⟨p, i, hp, hi, rfl⟩ | ⟨k, on, hk, rfl⟩ | ⟨k, l, hk, h0, rfl, hne, hN, hT, hL⟩
  · exact insV_own hi hid (by omega) (by omega)
  · unfold ownP
    rw [if_neg (by simp)]
    unfold opCheck
    rw [if_neg (by omega), if_neg (by simp), if_neg (by simp [hid]), if_neg (by simp [extra, extP, ext0, ByteArray.size]), if_neg (by simp), if_pos rfl]
    unfold tgtP
    have e : isIdP 3 ((1 + k : Nat) : Int) = true := by unfold isIdP; rw [decide_eq_true_iff]; omega
    rw [if_neg (by simp only [e]; simp; omega)]
  · have hl := made_lst ht hN hT hL
    unfold ownP
    rw [if_neg (by simp only; omega)]
    unfold opCheck
    rw [if_neg (by omega), if_neg (by simp only; omega), if_neg (by simp [hid]), if_neg (by
      unfold extra
      rw [if_neg (by simp only; omega), if_neg (by simp only; omega)]
      simp [extP, extT, ByteArray.size]), if_neg (by simp only; omega), if_neg (by simp only; omega)]
    unfold rngP
    rw [if_neg hne]
    simp only [hl.check]
    rw [if_neg (by simp), if_neg]
    have hm : l.getD (l.length - 1) (0, 0) ∈ l := by
      have hp := List.length_pos_iff.2 hne
      rw [List.getD_eq_getElem?_getD, List.getElem?_eq_getElem (by omega)]
      exact List.getElem_mem _
    have := hT _ hm
    unfold lastHi
    omega
theorem upAll_get (d : Int) (l : List (Int × Int)) : ∀ (R : List CellW) (j : Nat) (x : CellW), R[j]? = some x → ∃ h, (upAll R l d)[j]? = some (x.1, x.2.1, h) := by
  induction l with
  | nil => intro R j x hx; exact ⟨x.2.2, hx⟩
  | cons r l ih =>
    intro R j x hx
    have h1 : (upTo R r.1.toNat r.2.toNat d)[j]? = some (x.1, x.2.1, if r.1.toNat ≤ j ∧ j < r.2.toNat then x.2.2 + d else x.2.2) := by
      rw [upTo_get, hx]
      simp only [Option.map_some]
      split <;> rfl
    exact ih (upTo R r.1.toNat r.2.toNat d) j (x.1, x.2.1, if r.1.toNat ≤ j ∧ j < r.2.toNat then x.2.2 + d else x.2.2) h1
theorem Small.all {d : Int} (h1 : -1 ≤ d) (h2 : d ≤ 1) : ∀ (l : List (Int × Int)) {M : Int} {R : List CellW}, Small M R → Small (M + (l.length : Int)) (upAll R l d)
  | [], M, R, h => by simpa [upAll] using h
  | r :: l, M, R, h => by
    have := Small.all h1 h2 l (h.up r.1.toNat r.2.toNat h1 h2)
    show Small _ (upAll (upTo R r.1.toNat r.2.toNat d) l d)
    rw [List.length_cons, show M + ((l.length + 1 : Nat) : Int) = M + 1 + (l.length : Int) by omega]
    exact this
theorem Small.le {M N : Int} {R : List CellW} (h : Small M R) (hMN : M ≤ N) : Small N R := fun c hc => by have := h c hc; omega
theorem does_len {c n : Int} {R : List CellW} {o : OpV} (h : Made c n R.length o) : (doesV R o).length = R.length + wdL o := by
  rcases h.kind with ⟨p, i, hp, hi, rfl⟩ | ⟨k, on, hk, rfl⟩ | ⟨k, l, hk, h0, rfl, hne, hN, hT, hL⟩
  · rw [does_insV' _ _ _ _ _ hi, insL_length _ _ _ hp, newL_length, insV_wdL _ _ _ _ hi]
  · unfold doesV wdL; rw [if_neg (by simp), if_pos rfl, if_neg (by simp)]; rfl
  · unfold doesV wdL; rw [if_neg (by simp only; omega), if_neg (by simp only; omega), if_neg (by simp only; omega), upAll_len]; rfl
theorem does_ok {c n : Int} {R : List CellW} {o : OpV} (hR : R.length ≤ 900) (hS : Small 4194304 R) (h : Made c n R.length o) : DoesOk R o := by
  refine ⟨by have := h.size; omega, ?_⟩
  rcases h.kind with ⟨p, i, hp, hi, rfl⟩ | ⟨k, on, hk, rfl⟩ | ⟨k, l, hk, h0, rfl, hne, hN, hT, hL⟩
  · exact .inl ⟨rfl, by simp only [insV]; omega, by simp only [insV]; omega⟩
  · exact .inr (.inl rfl)
  · have hl := made_lst hR hN hT hL
    exact .inr (.inr ⟨hk, hne, hN, fun r hr => by have := hl.nonneg r hr; have := hT r hr; omega, by simp only; omega, hS⟩)
theorem does_small {c n : Int} {R : List CellW} {o : OpV} {M : Int} (hM : 0 ≤ M) (h : Made c n R.length o) (hS : Small M R) : Small (M + (R.length : Int)) (doesV R o) := by
  rcases h.kind with ⟨p, i, hp, hi, rfl⟩ | ⟨k, on, hk, rfl⟩ | ⟨k, l, hk, h0, rfl, hne, hN, hT, hL⟩
  · rw [does_insV' _ _ _ _ _ hi]
    intro x hx
    simp only [insL, List.append_assoc, List.mem_append] at hx
    rcases hx with hx | hx | hx
    · have := hS x (List.mem_of_mem_take hx); omega
    · simp only [newL, List.mem_map] at hx
      obtain ⟨k, _, rfl⟩ := hx
      simp only; omega
    · have := hS x (List.mem_of_mem_drop hx); omega
  · unfold doesV; rw [if_neg (by simp), if_pos rfl]; exact hS.le (by omega)
  · unfold doesV
    rw [if_neg (by simp only; omega), if_neg (by simp only; omega)]
    refine (Small.all (by unfold byP; split <;> omega) (by unfold byP; split <;> omega) l hS).le ?_
    omega
/-- A gap c of the first row stands at g: behind the same cell. -/
def CarS (R : List CellW) (c g : Nat) : Prop := g ≤ R.length ∧ ((c = 0 ∧ g = 0) ∨ (0 < c ∧ 0 < g ∧ ∃ h, R[g - 1]? = some ((0, 0), (c : Int) - 1, h)))
theorem caret_step {k n : Int} {R : List CellW} {o : OpV} {c g : Nat} (hid : isIdP k n = true) (hk3 : k ≠ 3) (hR : R.length ≤ 900) (h : Made k n R.length o) (hC : CarS R c g) :
    ∃ g' : Nat, caretP (g : Int) o = ((g' : Int), 0) ∧ CarS (doesV R o) c g' := by
  have hw := made_own hid hk3 hR h
  have hlen := does_len h
  obtain ⟨hg, hC⟩ := hC
  unfold caretP
  rw [if_neg (by simp [hw]), if_neg (by omega)]
  rcases h.kind with ⟨p, i, hp, hi, rfl⟩ | ⟨q, on, hk, rfl⟩ | ⟨q, l, hk, h0, rfl, hne, hN, hT, hL⟩
  · rw [insV_width _ _ _ _ hi]
    by_cases hpg : (g : Int) ≤ p
    · rw [if_pos (.inr (by simp only [insV]; exact hpg))]
      refine ⟨g, rfl, by omega, ?_⟩
      rcases hC with h1 | ⟨h1, h2, x, h3⟩
      · exact .inl h1
      · refine .inr ⟨h1, h2, x, ?_⟩
        rw [does_insV' _ _ _ _ _ hi]
        unfold insL
        rw [List.append_assoc, List.getElem?_append_left (by rw [List.length_take]; omega), List.getElem?_take, if_pos (by omega)]
        exact h3
    · rw [if_neg (by simp only [insV]; omega), if_neg (by omega)]
      refine ⟨g + (i + 1), by simp, by rw [hlen, insV_wdL _ _ _ _ hi]; omega, ?_⟩
      rcases hC with h1 | ⟨h1, h2, x, h3⟩
      · omega
      · refine .inr ⟨h1, by omega, x, ?_⟩
        rw [does_insV' _ _ _ _ _ hi]
        unfold insL
        have l1 : (R.take p ++ newL k n (i + 1)).length = p + (i + 1) := by rw [List.length_append, List.length_take, newL_length]; omega
        rw [List.getElem?_append_right (by rw [l1]; omega), l1, List.getElem?_drop, show p + (g + (i + 1) - 1 - (p + (i + 1))) = g - 1 by omega]
        exact h3
  · rw [if_pos (.inl (by simp))]
    refine ⟨g, rfl, by omega, ?_⟩
    have e : doesV R ⟨k, n, 4, 0, ⟨#[]⟩, [], 3, ((1 + q : Nat) : Int), on⟩ = R := by unfold doesV; rw [if_neg (by simp), if_pos rfl]
    rw [e]
    exact hC
  · rw [if_pos (.inl (by simp only; omega))]
    refine ⟨g, rfl, by omega, ?_⟩
    have e : doesV R ⟨k, n, q, 0, ⟨#[]⟩, l, 0, 0, false⟩ = upAll R l (byP q) := by unfold doesV; rw [if_neg (by simp only; omega), if_neg (by simp only; omega)]
    rw [e]
    rcases hC with h1 | ⟨h1, h2, x, h3⟩
    · exact .inl h1
    · obtain ⟨y, hy⟩ := upAll_get (byP q) l R (g - 1) _ h3
      exact .inr ⟨h1, h2, y, hy⟩
/-- What a run does to a row, operation by operation. -/
theorem run_at {k : Int} (hk : k = 1 ∨ k = 2) : ∀ (L : List OpV) (i : Nat) (R : List CellW) (M : Int), RunOk k i R.length L → 0 ≤ M → Small M R → R.length + 5 * L.length ≤ 900 → M + 900 * (L.length : Int) ≤ 4194304 → i + L.length ≤ 100 →
    FoldOk R L ∧ ∀ j o, L[j]? = some o → Made k (((i + j : Nat) : Int) + 1) (foldV R (L.take j)).length o ∧ (foldV R (L.take j)).length ≤ 900
  | [], i, R, M, _, _, _, _, _, _ => ⟨fun j x hx => by simp at hx, fun j o ho => by simp at ho⟩
  | o :: L, i, R, M, hr, hM, hS, hl, hm, hi => by
    have hw := wdL_made hr.1
    have hlen := does_len hr.1
    simp only [List.length_cons] at hl hm hi
    obtain ⟨h1, h2⟩ := run_at hk L (i + 1) (doesV R o) (M + (R.length : Int)) (by rw [hlen]; exact hr.2) (by omega) (does_small hM hr.1 hS) (by rw [hlen]; omega) (by omega) (by omega)
    refine ⟨fun j x hx => ?_, fun j x hx => ?_⟩
    · cases j with
      | zero =>
        simp at hx; subst hx
        exact ⟨does_ok (by simp [foldV]; omega) (by simp only [List.take_zero, foldV, List.foldl_nil]; exact hS.le (by omega)) (by simpa [foldV] using hr.1), by simp [foldV]; omega⟩
      | succ j => exact h1 j x (by simpa using hx)
    · cases j with
      | zero =>
        simp at hx; subst hx
        exact ⟨by simpa [foldV] using hr.1, by simp [foldV]; omega⟩
      | succ j =>
        have := h2 j x (by simpa using hx)
        rw [show i + 1 + j = i + (j + 1) by omega] at this
        exact this
end Go.Proofs.YtlebbffpbbjakaaDoor
