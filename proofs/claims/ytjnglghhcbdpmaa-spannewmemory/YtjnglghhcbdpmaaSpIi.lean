import Derived.Test.YtjnglghhcbdpmaaSpUp
namespace Go.Proofs.Ytjnglghhcbdpmaa
open Go.RowKit Go.Lib
set_option maxRecDepth 100000

theorem pget {l : List (Int × Int)} {i : Nat} (h : i < l.length) : l.getD i (0, 0) = l[i] := by
  rw [List.getD_eq_getElem?_getD, List.getElem?_eq_getElem h]; rfl
theorem pget_mem {l : List (Int × Int)} {i : Nat} (h : i < l.length) : l.getD i (0, 0) ∈ l := by rw [pget h]; exact List.getElem_mem h
theorem norm_rise {b : Int} {l : List (Int × Int)} (h : Norm b l) : ∀ {i j : Nat}, i < j → j < l.length → (l.getD i (0, 0)).2 < (l.getD j (0, 0)).1 := by
  induction l generalizing b with
  | nil => intro i j _ hj; simp at hj
  | cons r t ih =>
    intro i j hij hj
    obtain ⟨_, h2, h3⟩ := h
    cases j with
    | zero => omega
    | succ j =>
      have hj' : j < t.length := by simpa using hj
      cases i with
      | zero =>
        have := (norm_lt h3 (t.getD j (0, 0)) (pget_mem hj')).1
        simpa using this
      | succ i => simpa using ih h3 (by omega : i < j) hj'
theorem norm_wide {b : Int} {l : List (Int × Int)} (h : Norm b l) {i : Nat} (hi : i < l.length) : (l.getD i (0, 0)).1 < (l.getD i (0, 0)).2 :=
  (norm_lt h (l.getD i (0, 0)) (pget_mem hi)).2
theorem norm_los_le {b : Int} {l : List (Int × Int)} (h : Norm b l) {i j : Nat} (hij : i ≤ j) (hj : j < l.length) : (l.getD i (0, 0)).1 ≤ (l.getD j (0, 0)).1 := by
  by_cases e : i = j
  · subst e; exact Int.le_refl _
  · have := norm_rise h (by omega : i < j) hj
    have := norm_wide h (by omega : i < l.length)
    omega
theorem in_iff {b : Int} {l : List (Int × Int)} (h : Norm b l) {q : Int} {k : Nat} (hk : k ≤ l.length) (h1 : ∀ i, i < k → (l.getD i (0, 0)).1 ≤ q) (h2 : ∀ i, k ≤ i → i < l.length → q < (l.getD i (0, 0)).1) :
    Lies l q ↔ 0 < k ∧ q < (l.getD (k - 1) (0, 0)).2 := by
  constructor
  · rintro ⟨r, hr, ha, hb⟩
    obtain ⟨i, hi, e⟩ := List.getElem_of_mem hr
    have e' : l.getD i (0, 0) = r := by rw [pget hi, e]
    have hik : i < k := by
      by_cases c : i < k
      · exact c
      · have := h2 i (by omega) hi; rw [e'] at this; omega
    refine ⟨by omega, ?_⟩
    by_cases c : i = k - 1
    · rw [← c, e']; exact hb
    · have a1 := norm_rise h (by omega : i < k - 1) (by omega)
      have a2 := h1 (k - 1) (by omega)
      rw [e'] at a1
      omega
  · rintro ⟨h0, hq⟩
    exact ⟨l.getD (k - 1) (0, 0), pget_mem (by omega), h1 (k - 1) (by omega), hq⟩

end Go.Proofs.Ytjnglghhcbdpmaa
