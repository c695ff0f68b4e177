import Derived.Test.YtjnglghhcbdpmaaSpJo
namespace Go.Proofs.Ytjnglghhcbdpmaa
open Go.RowKit Go.Lib
set_option maxRecDepth 100000

theorem joinedL_good {cuts : List Int} (hs : Asc cuts) (bs : List Bool) {b T : Int} (hb : ∀ x ∈ cuts, b < x) (hT : ∀ x ∈ cuts, x ≤ T) (k : Nat) (hk : k = 0 ∨ k < cuts.length) :
    Norm b (joinedL cuts bs k) ∧ (∀ r ∈ joinedL cuts bs k, r.1 ≤ cuts.getD k 0) ∧ (∀ r ∈ joinedL cuts bs k, r.2 ≤ T) ∧
      ∀ q, Lies (joinedL cuts bs k) q ↔ ∃ i, i < k ∧ bs.getD i false = true ∧ cuts.getD i 0 ≤ q ∧ q < cuts.getD (i + 1) 0 := by
  induction k with
  | zero =>
    refine ⟨trivial, (fun r hr => by cases hr), (fun r hr => by cases hr), fun q => ⟨fun h => absurd h (lies_nil q), ?_⟩⟩
    rintro ⟨i, hi, _⟩
    omega
  | succ k ih =>
    have hk' : k + 1 < cuts.length := by omega
    obtain ⟨h1, h2, h3, h4⟩ := ih (.inr (by omega))
    have hle : cuts.getD k 0 ≤ cuts.getD (k + 1) 0 := asc_get hs (by omega) hk'
    have hbk : b < cuts.getD k 0 := hb _ (get_mem (by omega))
    have hTk : cuts.getD (k + 1) 0 ≤ T := hT _ (get_mem hk')
    have hlt : ∀ r ∈ joinedL cuts bs k, r.1 < r.2 := fun r hr => (norm_lt h1 r hr).2
    rw [joinedL]
    by_cases ht : bs.getD k false = true
    · rw [if_pos ht]
      refine ⟨addedL_norm h1 h2 hbk, fun r hr => Int.le_trans (addedL_los h2 r hr) hle, addedL_top h3 (fun _ => hTk), fun q => ?_⟩
      rw [addedL_lies h2 hlt, h4]
      constructor
      · rintro (⟨i, hi, e⟩ | e)
        · exact ⟨i, by omega, e⟩
        · exact ⟨k, by omega, ht, e⟩
      · rintro ⟨i, hi, e1, e2⟩
        by_cases c : i = k
        · subst c; exact .inr e2
        · exact .inl ⟨i, by omega, e1, e2⟩
    · rw [if_neg ht]
      refine ⟨h1, fun r hr => Int.le_trans (h2 r hr) hle, h3, fun q => ?_⟩
      rw [h4]
      constructor
      · rintro ⟨i, hi, e⟩
        exact ⟨i, by omega, e⟩
      · rintro ⟨i, hi, e1, e2⟩
        by_cases c : i = k
        · subst c; exact absurd e1 ht
        · exact ⟨i, by omega, e1, e2⟩
/-- The pieces whose first place lies in S, put together, are S: the one list. -/
theorem joinedL_is {cuts : List Int} (hs : Asc cuts) {bs : List Bool} {S : Int → Prop} {b T : Int} (hb : ∀ x ∈ cuts, b < x) (hT : ∀ x ∈ cuts, x ≤ T)
    (hI : ∀ k, k + 1 < cuts.length → (bs.getD k false = true ↔ S (cuts.getD k 0)))
    (H1 : ∀ c q, c ≤ q → (∀ x ∈ cuts, ¬ (c < x ∧ x ≤ q)) → (S c ↔ S q)) (H2 : ∀ q, S q → (∃ x ∈ cuts, x ≤ q) ∧ ∃ x ∈ cuts, q < x) :
    Norm b (joinedL cuts bs (cuts.length - 1)) ∧ (∀ r ∈ joinedL cuts bs (cuts.length - 1), r.2 ≤ T) ∧ ∀ q, Lies (joinedL cuts bs (cuts.length - 1)) q ↔ S q := by
  obtain ⟨h1, _, h3, h4⟩ := joinedL_good hs bs hb hT (cuts.length - 1) (by omega)
  refine ⟨h1, h3, fun q => (h4 q).trans (Iff.trans ?_ (pieces_all (S := S) (I := fun k => bs.getD k false = true) hs hI H1 H2 q))⟩
  constructor
  · rintro ⟨i, hi, e1, e2, e3⟩
    exact ⟨i, e1, by omega, e2, e3⟩
  · rintro ⟨i, e1, e2, e3, e4⟩
    exact ⟨i, by omega, e1, e3, e4⟩
/-- Two lists' cuts: of In's answers. -/
theorem two_same {la lb : List (Int × Int)} {cuts : List Int} (hc : ∀ r, r ∈ la ∨ r ∈ lb → r.1 ∈ cuts ∧ r.2 ∈ cuts) {c q : Int} (hcq : c ≤ q) (h : ∀ x ∈ cuts, ¬ (c < x ∧ x ≤ q)) : (Lies la c ↔ Lies la q) ∧ (Lies lb c ↔ Lies lb q) :=
  ⟨lies_same (fun r hr => hc r (.inl hr)) hcq h, lies_same (fun r hr => hc r (.inr hr)) hcq h⟩
theorem lies_cuts {l : List (Int × Int)} {cuts : List Int} (hc : ∀ r ∈ l, r.1 ∈ cuts ∧ r.2 ∈ cuts) {q : Int} (h : Lies l q) : (∃ x ∈ cuts, x ≤ q) ∧ ∃ x ∈ cuts, q < x := by
  obtain ⟨r, hr, h1, h2⟩ := h
  exact ⟨⟨_, (hc r hr).1, h1⟩, ⟨_, (hc r hr).2, h2⟩⟩
end Go.Proofs.Ytjnglghhcbdpmaa
