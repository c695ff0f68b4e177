import Derived.Test.YtaphkaodcdpcaaaDoorLines
namespace Go.Proofs.YtaphkaodcdpcaaaDoor

theorem endF_ge (rs : List Int) : ∀ n k, k ≤ endF rs n k
  | 0, k => Nat.le_refl _
  | n + 1, k => by
    rw [endF]
    have := endF_ge rs n (k + 1)
    split <;> omega
theorem endF_nl (rs : List Int) : ∀ n k, endF rs n k < k + n → rs.getD (endF rs n k) 0 = 10
  | 0, k, h => by simp [endF] at h
  | n + 1, k, h => by
    rw [endF] at h ⊢
    split
    · rename_i e; exact e
    · rename_i e
      rw [if_neg e] at h
      exact endF_nl rs n (k + 1) (by omega)
theorem endF_no (rs : List Int) : ∀ n k j, k ≤ j → j < endF rs n k → ¬ rs.getD j 0 = 10
  | 0, k, j, h, h2 => by simp [endF] at h2; omega
  | n + 1, k, j, h, h2 => by
    rw [endF] at h2
    split at h2
    · omega
    · rename_i e
      by_cases hj : j = k
      · subst hj; exact e
      · exact endF_no rs n (k + 1) j (by omega) h2
theorem endOf_le (rs : List Int) (k : Nat) (hk : k ≤ rs.length) : endOf rs k ≤ rs.length := by
  have := endF_le rs (rs.length - k) k
  unfold endOf; omega
theorem endOf_ge (rs : List Int) (k : Nat) : k ≤ endOf rs k := endF_ge rs _ k
/-- the end is one for all places of a stretch without a new line -/
theorem endF_on (rs : List Int) (k : Nat) : ∀ i, k + i ≤ rs.length → (∀ j, k ≤ j → j < k + i → ¬ rs.getD j 0 = 10) → endF rs (rs.length - k) k = endF rs (rs.length - (k + i)) (k + i)
  | 0, _, _ => rfl
  | i + 1, h, hn => by
    rw [endF_on rs k i (by omega) (fun j h1 h2 => hn j h1 (by omega))]
    rw [show rs.length - (k + i) = (rs.length - (k + (i + 1))) + 1 by omega, endF, if_neg (hn (k + i) (by omega) (by omega))]
    rfl
theorem endOf_home (rs : List Int) (k : Nat) (hk : k ≤ rs.length) : endF rs (rs.length - homeOf rs k) (homeOf rs k) = endOf rs k := by
  have h := homeOf_le rs k
  have := endF_on rs (homeOf rs k) (k - homeOf rs k) (by omega) (fun j h1 h2 => no_nl rs k j h1 (by omega))
  rw [show homeOf rs k + (k - homeOf rs k) = k by omega] at this
  exact this
/-- lines and homes along a stretch without a new line -/
theorem line_on (rs : List Int) (k : Nat) : ∀ i, (∀ j, k ≤ j → j < k + i → ¬ rs.getD j 0 = 10) → lineOf rs (k + i) = lineOf rs k ∧ homeOf rs (k + i) = homeOf rs k
  | 0, _ => ⟨rfl, rfl⟩
  | i + 1, hn => by
    have h1 := line_on rs k i (fun j h1 h2 => hn j h1 (by omega))
    have h2 := hn (k + i) (by omega) (by omega)
    show lineOf rs (k + i + 1) = _ ∧ homeOf rs (k + i + 1) = _
    rw [lineOf, homeOf, if_neg h2, if_neg h2]
    exact h1
theorem line_end (rs : List Int) (k : Nat) : lineOf rs (endOf rs k) = lineOf rs k ∧ homeOf rs (endOf rs k) = homeOf rs k := by
  have h := endOf_ge rs k
  have := line_on rs k (endOf rs k - k) (fun j h1 h2 => endF_no rs (rs.length - k) k j h1 (by unfold endOf at h2 h; omega))
  rw [show k + (endOf rs k - k) = endOf rs k by omega] at this
  exact this
/-- Find within a line. -/
theorem find_from (rs : List Int) : ∀ (n j : Nat) (c : Nat), findF rs n j 0 c = (((min (j + c) (endF rs n j) : Nat) : Int), 0)
  | 0, j, c => by
    rw [findF, endF, if_neg (by omega), Nat.min_eq_right (by omega)]
  | n + 1, j, c => by
    rw [findF, endF]
    have hg := endF_ge rs n (j + 1)
    by_cases h : rs.getD j 0 = 10
    · rw [if_pos ⟨rfl, .inr h⟩, if_pos h, Nat.min_eq_right (by omega)]
    · rw [show (if rs.getD j 0 = 10 then j else endF rs n (j + 1)) = endF rs n (j + 1) from if_neg h]
      by_cases hc : c = 0
      · subst hc
        rw [if_pos ⟨rfl, .inl rfl⟩, Nat.min_eq_left (by omega)]
        simp
      · rw [if_neg (by omega), if_pos rfl]
        obtain ⟨d, rfl⟩ : ∃ d, c = d + 1 := ⟨c - 1, by omega⟩
        rw [show ((d + 1 : Nat) : Int) - 1 = (d : Nat) by omega, find_from rs n (j + 1) d]
        rw [show j + 1 + d = j + (d + 1) by omega]
theorem find_at (rs : List Int) (k : Nat) (hk : k ≤ rs.length) (c : Nat) : findF rs rs.length 0 (lineOf rs k) c = (((min (homeOf rs k + c) (endOf rs k) : Nat) : Int), 0) := by
  rw [find_home rs k hk, find_from, endOf_home rs k hk]

/-- One line up, one line down. -/
def upOf (rs : List Int) (k : Nat) : Nat := if homeOf rs k = 0 then 0 else min (homeOf rs (homeOf rs k - 1) + (k - homeOf rs k)) (homeOf rs k - 1)
def downOf (rs : List Int) (k : Nat) : Nat := if endOf rs k < rs.length then min (endOf rs k + 1 + (k - homeOf rs k)) (endOf rs (endOf rs k + 1)) else rs.length
theorem home_nl (rs : List Int) : ∀ k, homeOf rs k ≠ 0 → rs.getD (homeOf rs k - 1) 0 = 10
  | 0, h => absurd rfl h
  | k + 1, h => by
    rw [homeOf] at h ⊢
    split
    · rename_i e; exact e
    · rename_i e
      rw [if_neg e] at h
      exact home_nl rs k h
theorem line_up (rs : List Int) (k : Nat) (h : homeOf rs k ≠ 0) : lineOf rs k = lineOf rs (homeOf rs k - 1) + 1 := by
  have h1 := home_nl rs k h
  rw [← homeOf_line rs k]
  obtain ⟨j, hj⟩ : ∃ j, homeOf rs k = j + 1 := ⟨homeOf rs k - 1, by omega⟩
  rw [hj, Nat.add_sub_cancel] at h1 ⊢
  rw [lineOf, if_pos h1]
theorem line_zero (rs : List Int) (k : Nat) (h : homeOf rs k = 0) : lineOf rs k = 0 := by
  rw [← homeOf_line rs k, h]; rfl
theorem find_up (rs : List Int) (k : Nat) (hk : k ≤ rs.length) (h : homeOf rs k ≠ 0) : findF rs rs.length 0 ((lineOf rs k : Int) - 1) ((k : Int) - homeOf rs k) = ((upOf rs k : Int), 0) := by
  have h0 := homeOf_le rs k
  have h1 := line_up rs k h
  have h2 := home_nl rs k h
  have h3 := find_at rs (homeOf rs k - 1) (by omega) (k - homeOf rs k)
  rw [show (lineOf rs k : Int) - 1 = (lineOf rs (homeOf rs k - 1) : Int) by omega, show (k : Int) - homeOf rs k = ((k - homeOf rs k : Nat) : Int) by omega, h3]
  have h4 : endOf rs (homeOf rs k - 1) = homeOf rs k - 1 := by
    unfold endOf
    rw [show rs.length - (homeOf rs k - 1) = (rs.length - homeOf rs k) + 1 by omega, endF, if_pos h2]
  rw [h4, upOf, if_neg h]
theorem find_down (rs : List Int) (k : Nat) (hk : k ≤ rs.length) (h : endOf rs k < rs.length) : findF rs rs.length 0 ((lineOf rs k : Int) + 1) ((k : Int) - homeOf rs k) = ((downOf rs k : Int), 0) := by
  have h0 := homeOf_le rs k
  have h1 := line_end rs k
  have h2 : rs.getD (endOf rs k) 0 = 10 := endF_nl rs _ k (by unfold endOf at h; omega)
  have h3 := find_at rs (endOf rs k + 1) (by omega) (k - homeOf rs k)
  rw [lineOf, if_pos h2, homeOf, if_pos h2, h1.1] at h3
  rw [show (lineOf rs k : Int) + 1 = ((lineOf rs k + 1 : Nat) : Int) by omega, show (k : Int) - homeOf rs k = ((k - homeOf rs k : Nat) : Int) by omega, h3]
  rw [downOf, if_pos h]
theorem find_down0 (rs : List Int) (k : Nat) (hk : k ≤ rs.length) (h : ¬ endOf rs k < rs.length) (c : Int) : findF rs rs.length 0 ((lineOf rs k : Int) + 1) c = (0, 12) := by
  have h1 := line_end rs k
  have h2 := endOf_le rs k hk
  rw [show endOf rs k = rs.length by omega] at h1
  rw [← h1.1]
  exact find_beyond rs c
theorem upOf_le (rs : List Int) (k : Nat) : upOf rs k ≤ k := by
  have := homeOf_le rs k
  unfold upOf
  split <;> omega
theorem downOf_le (rs : List Int) (k : Nat) : downOf rs k ≤ rs.length := by
  unfold downOf
  split
  · have := endOf_le rs (endOf rs k + 1) (by omega)
    omega
  · exact Nat.le_refl _
end Go.Proofs.YtaphkaodcdpcaaaDoor
