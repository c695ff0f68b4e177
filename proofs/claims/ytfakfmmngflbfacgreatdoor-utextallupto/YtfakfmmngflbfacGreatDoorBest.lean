import Derived.Test.YtfakfmmngflbfacGreatDoorRefLines
namespace Go.Proofs.YtfakfmmngflbfacGreatDoor

theorem home_home (rs : List Int) : ∀ k, homeOf rs (homeOf rs k) = homeOf rs k
  | 0 => rfl
  | k + 1 => by
    by_cases h : rs.getD k 0 = 10
    · have e : homeOf rs (k + 1) = k + 1 := by rw [homeOf, if_pos h]
      rw [e, e]
    · have e : homeOf rs (k + 1) = homeOf rs k := by rw [homeOf, if_neg h]
      rw [e, home_home rs k]
/-- a line's places -/
theorem line_place (rs : List Int) (k x : Nat) (h1 : homeOf rs k ≤ x) (h2 : x ≤ endOf rs k) : lineOf rs x = lineOf rs k ∧ homeOf rs x = homeOf rs k := by
  have hh := homeOf_le rs k
  have := line_on rs (homeOf rs k) (x - homeOf rs k) (fun j g1 g2 => by
    by_cases hj : j < k
    · exact no_nl rs k j g1 hj
    · exact endF_no rs (rs.length - k) k j (by omega) (by unfold endOf at h2; omega))
  rw [show homeOf rs k + (x - homeOf rs k) = x by omega, homeOf_line, home_home] at this
  exact this
theorem bestF_cases (rs : List Int) (line col : Int) : ∀ N, (bestF rs line col N = -1 ∧ ∀ i, i < N → ¬ ((lineOf rs i : Int) = line ∧ (i : Int) - homeOf rs i ≤ col)) ∨
    ∃ j : Nat, j < N ∧ bestF rs line col N = j ∧ ((lineOf rs j : Int) = line ∧ (j : Int) - homeOf rs j ≤ col) ∧ ∀ i : Nat, j < i → i < N → ¬ ((lineOf rs i : Int) = line ∧ (i : Int) - homeOf rs i ≤ col)
  | 0 => .inl ⟨rfl, fun i h => absurd h (Nat.not_lt_zero _)⟩
  | N + 1 => by
    rw [bestF]
    by_cases h : (lineOf rs N : Int) = line ∧ (N : Int) - homeOf rs N ≤ col
    · rw [if_pos h]
      exact .inr ⟨N, Nat.lt_succ_self _, rfl, h, fun i h1 h2 => by omega⟩
    · rw [if_neg h]
      rcases bestF_cases rs line col N with ⟨h1, h2⟩ | ⟨j, h1, h2, h3, h4⟩
      · refine .inl ⟨h1, fun i hi => ?_⟩
        by_cases e : i = N
        · subst e; exact h
        · exact h2 i (by omega)
      · refine .inr ⟨j, by omega, h2, h3, fun i hi hj => ?_⟩
        by_cases e : i = N
        · subst e; exact h
        · exact h4 i hi (by omega)
theorem best_at (rs : List Int) (k : Nat) (hk : k ≤ rs.length) (c : Nat) : bestF rs (lineOf rs k) c (rs.length + 1) = ((min (homeOf rs k + c) (endOf rs k) : Nat) : Int) := by
  have hh := homeOf_le rs k
  have he := endOf_ge rs k
  have hl := endOf_le rs k hk
  have hx := line_place rs k (min (homeOf rs k + c) (endOf rs k)) (by omega) (by omega)
  have hPx : ((lineOf rs (min (homeOf rs k + c) (endOf rs k)) : Nat) : Int) = lineOf rs k ∧ ((min (homeOf rs k + c) (endOf rs k) : Nat) : Int) - homeOf rs (min (homeOf rs k + c) (endOf rs k)) ≤ c := by
    rw [hx.1, hx.2]
    exact ⟨rfl, by omega⟩
  have hno : ∀ i : Nat, min (homeOf rs k + c) (endOf rs k) < i → i < rs.length + 1 → ¬ (((lineOf rs i : Nat) : Int) = lineOf rs k ∧ (i : Int) - homeOf rs i ≤ c) := by
    intro i h1 h2
    by_cases hi : i ≤ endOf rs k
    · have := line_place rs k i (by omega) hi
      rw [this.1, this.2]
      omega
    · have hz : rs.getD (endOf rs k) 0 = 10 := endF_nl rs _ k (by unfold endOf at hi; unfold endOf at *; omega)
      have h3 : lineOf rs (endOf rs k + 1) = lineOf rs k + 1 := by
        rw [lineOf, if_pos hz, (line_end rs k).1]
      have h4 := lineOf_mono rs (endOf rs k + 1) (i - (endOf rs k + 1))
      rw [show endOf rs k + 1 + (i - (endOf rs k + 1)) = i by omega, h3] at h4
      omega
  have hxn : min (homeOf rs k + c) (endOf rs k) < rs.length + 1 := by omega
  generalize min (homeOf rs k + c) (endOf rs k) = x at *
  rcases bestF_cases rs (lineOf rs k) c (rs.length + 1) with ⟨h1, h2⟩ | ⟨j, h1, h2, h3, h4⟩
  · exact absurd hPx (h2 x hxn)
  · rw [h2]
    rcases Nat.lt_trichotomy j x with h | h | h
    · exact absurd hPx (h4 x h hxn)
    · rw [h]
    · exact absurd h3 (hno j h h1)
theorem best_none (rs : List Int) (line col : Int) (h : (lineOf rs rs.length : Int) < line ∨ line < 0) : bestF rs line col (rs.length + 1) = -1 := by
  rcases bestF_cases rs line col (rs.length + 1) with ⟨h1, _⟩ | ⟨j, h1, _, h3, _⟩
  · exact h1
  · have h4 := lineOf_mono rs j (rs.length - j)
    rw [show j + (rs.length - j) = rs.length by omega] at h4
    omega
theorem line_all (rs : List Int) (L : Nat) : ∀ n, L ≤ lineOf rs n → ∃ k, k ≤ n ∧ lineOf rs k = L
  | 0, h => ⟨0, Nat.le_refl _, by simp [lineOf] at h ⊢; omega⟩
  | n + 1, h => by
    by_cases h1 : L ≤ lineOf rs n
    · obtain ⟨k, h2, h3⟩ := line_all rs L n h1
      exact ⟨k, by omega, h3⟩
    · exact ⟨n + 1, Nat.le_refl _, by have := (lineOf_step rs n).2; omega⟩
/-- the program's Find and the document's -/
theorem find_best (rs : List Int) (line col : Int) (hl : 0 ≤ line) (hc : 0 ≤ col) : findF rs rs.length 0 line col = if bestF rs line col (rs.length + 1) < 0 then (0, 12) else (bestF rs line col (rs.length + 1), 0) := by
  obtain ⟨L, rfl⟩ := Int.eq_ofNat_of_zero_le hl
  obtain ⟨c, rfl⟩ := Int.eq_ofNat_of_zero_le hc
  by_cases h : L ≤ lineOf rs rs.length
  · obtain ⟨k, hk, rfl⟩ := line_all rs L rs.length h
    rw [find_at rs k hk, best_at rs k hk, if_neg (by omega)]
  · rw [best_none rs _ _ (.inl (by omega)), if_pos (by omega)]
    have := find_none rs (c : Int) (L : Int) rs.length 0 (by omega) (by omega)
    simpa [lineOf] using this
theorem best_home (rs : List Int) (k : Nat) (hk : k ≤ rs.length) : bestF rs (lineOf rs k) 0 (rs.length + 1) = homeOf rs k := by
  have h := best_at rs k hk 0
  have hh := homeOf_le rs k
  have he := endOf_ge rs k
  rw [Nat.min_eq_left (by omega)] at h
  exact h
theorem best_end (rs : List Int) (k : Nat) (hk : k ≤ rs.length) : bestF rs (lineOf rs k) rs.length (rs.length + 1) = endOf rs k := by
  have h := best_at rs k hk rs.length
  have he := endOf_le rs k hk
  rw [Nat.min_eq_right (by omega)] at h
  exact h
theorem best_up (rs : List Int) (k : Nat) (hk : k ≤ rs.length) : max 0 (bestF rs ((lineOf rs k : Int) - 1) ((k : Int) - homeOf rs k) (rs.length + 1)) = upOf rs k := by
  have hh := homeOf_le rs k
  by_cases h : homeOf rs k = 0
  · rw [best_none rs _ _ (.inr (by have := line_zero rs k h; omega)), upOf, if_pos h]
    rfl
  · have h1 := line_up rs k h
    have h2 := find_up rs k hk h
    rw [find_best rs _ _ (by omega) (by omega)] at h2
    split at h2
    · simp at h2
    · simp only [Prod.mk.injEq, and_true] at h2
      rw [h2]
      omega
theorem best_down (rs : List Int) (k : Nat) (hk : k ≤ rs.length) : (if bestF rs ((lineOf rs k : Int) + 1) ((k : Int) - homeOf rs k) (rs.length + 1) < 0 then (rs.length : Int) else bestF rs ((lineOf rs k : Int) + 1) ((k : Int) - homeOf rs k) (rs.length + 1)) = downOf rs k := by
  have hh := homeOf_le rs k
  by_cases h : endOf rs k < rs.length
  · have h2 := find_down rs k hk h
    rw [find_best rs _ _ (by omega) (by omega)] at h2
    split at h2
    · simp at h2
    · rename_i h3
      rw [if_neg h3]
      simp only [Prod.mk.injEq, and_true] at h2
      exact h2
  · have h2 := find_down0 rs k hk h ((k : Int) - homeOf rs k)
    rw [find_best rs _ _ (by omega) (by omega)] at h2
    split at h2
    · rename_i h3
      rw [if_pos h3, downOf, if_neg h]
    · simp at h2
end Go.Proofs.YtfakfmmngflbfacGreatDoor
