import Derived.Test.YtaphkaodcdpcaaaDoorTxt
namespace Go.Proofs.YtaphkaodcdpcaaaDoor

/-! Lines and columns of a list of runes. -/
def lineOf (rs : List Int) : Nat → Nat
  | 0 => 0
  | k + 1 => if rs.getD k 0 = 10 then lineOf rs k + 1 else lineOf rs k
def homeOf (rs : List Int) : Nat → Nat
  | 0 => 0
  | k + 1 => if rs.getD k 0 = 10 then k + 1 else homeOf rs k
def endF (rs : List Int) : Nat → Nat → Nat
  | 0, k => k
  | n + 1, k => if rs.getD k 0 = 10 then k else endF rs n (k + 1)
def endOf (rs : List Int) (k : Nat) : Nat := endF rs (rs.length - k) k
/-- What Find answers from rune number j on (n runes are left). -/
def findF (rs : List Int) : Nat → Nat → Int → Int → Int × Int
  | 0, j, line, _ => if 0 < line then (0, 12) else (j, 0)
  | n + 1, j, line, col =>
    if line = 0 ∧ (col = 0 ∨ rs.getD j 0 = 10) then (j, 0)
    else if line = 0 then findF rs n (j + 1) line (col - 1)
    else if rs.getD j 0 = 10 then findF rs n (j + 1) (line - 1) col
    else findF rs n (j + 1) line col

theorem homeOf_le (rs : List Int) : ∀ k, homeOf rs k ≤ k
  | 0 => Nat.le_refl _
  | k + 1 => by
    unfold homeOf
    have := homeOf_le rs k
    split <;> omega
theorem lineOf_le (rs : List Int) : ∀ k, lineOf rs k ≤ k
  | 0 => Nat.le_refl _
  | k + 1 => by
    unfold lineOf
    have := lineOf_le rs k
    split <;> omega
theorem lineOf_step (rs : List Int) (k : Nat) : lineOf rs k ≤ lineOf rs (k + 1) ∧ lineOf rs (k + 1) ≤ lineOf rs k + 1 := by
  rw [lineOf]
  split <;> omega
theorem lineOf_mono (rs : List Int) (i : Nat) : ∀ d, lineOf rs i ≤ lineOf rs (i + d)
  | 0 => Nat.le_refl _
  | d + 1 => Nat.le_trans (lineOf_mono rs i d) (lineOf_step rs (i + d)).1
theorem homeOf_line (rs : List Int) : ∀ k, lineOf rs (homeOf rs k) = lineOf rs k
  | 0 => rfl
  | k + 1 => by
    unfold homeOf
    split
    · rfl
    · rename_i h
      rw [homeOf_line rs k, lineOf, if_neg h]
/-- ahead of its home there are fewer lines -/
theorem lineOf_before (rs : List Int) : ∀ k j, j < homeOf rs k → lineOf rs j < lineOf rs k
  | 0, j, h => by simp [homeOf] at h
  | k + 1, j, h => by
    unfold homeOf at h
    split at h
    · rename_i e
      rw [lineOf, if_pos e]
      have := lineOf_mono rs j (k - j)
      rw [show j + (k - j) = k by omega] at this
      omega
    · rename_i e
      have := lineOf_before rs k j h
      rw [lineOf, if_neg e]
      exact this
theorem no_nl (rs : List Int) : ∀ k j, homeOf rs k ≤ j → j < k → ¬ rs.getD j 0 = 10
  | 0, j, _, h => by omega
  | k + 1, j, h, h2 => by
    unfold homeOf at h
    split at h
    · omega
    · rename_i e
      by_cases hj : j = k
      · subst hj; exact e
      · exact no_nl rs k j h (by omega)

theorem find_lines (rs : List Int) (k : Nat) (hk : k ≤ rs.length) (c : Int) : ∀ j, j ≤ homeOf rs k → findF rs rs.length 0 (lineOf rs k) c = findF rs (rs.length - j) j ((lineOf rs k : Int) - lineOf rs j) c
  | 0, _ => by simp [lineOf]
  | j + 1, h => by
    rw [find_lines rs k hk c j (by omega)]
    have h1 := lineOf_before rs k j (by omega)
    have h2 := homeOf_le rs k
    rw [show rs.length - j = (rs.length - (j + 1)) + 1 by omega, findF, if_neg (by omega), if_neg (by omega), lineOf]
    split
    · congr 1; omega
    · rfl
theorem find_home (rs : List Int) (k : Nat) (hk : k ≤ rs.length) (c : Int) : findF rs rs.length 0 (lineOf rs k) c = findF rs (rs.length - homeOf rs k) (homeOf rs k) 0 c := by
  rw [find_lines rs k hk c (homeOf rs k) (Nat.le_refl _), homeOf_line]
  congr 1; omega
theorem find_in (rs : List Int) (k : Nat) (hk : k ≤ rs.length) (c : Int) : ∀ i, homeOf rs k + i ≤ k → (i : Int) ≤ c → findF rs (rs.length - homeOf rs k) (homeOf rs k) 0 c = findF rs (rs.length - (homeOf rs k + i)) (homeOf rs k + i) 0 (c - i)
  | 0, _, _ => by simp
  | i + 1, h, hc => by
    rw [find_in rs k hk c i (by omega) (by omega)]
    have h1 := no_nl rs k (homeOf rs k + i) (by omega) (by omega)
    rw [show rs.length - (homeOf rs k + i) = (rs.length - (homeOf rs k + (i + 1))) + 1 by omega, findF, if_neg (by omega), if_pos rfl]
    congr 1
    omega
theorem find_back (rs : List Int) (k : Nat) (hk : k ≤ rs.length) : findF rs rs.length 0 (lineOf rs k) ((k : Int) - homeOf rs k) = ((k : Int), 0) := by
  have h := homeOf_le rs k
  rw [find_home rs k hk, find_in rs k hk _ (k - homeOf rs k) (by omega) (by omega)]
  rw [show homeOf rs k + (k - homeOf rs k) = k by omega, show (k : Int) - homeOf rs k - (k - homeOf rs k : Nat) = 0 by omega]
  cases hn : rs.length - k with
  | zero => simp [findF]
  | succ n => rw [findF, if_pos ⟨rfl, .inl rfl⟩]
theorem find_end (rs : List Int) : ∀ (n k : Nat) (c : Int), (n : Int) < c → findF rs n k 0 c = ((endF rs n k : Int), 0)
  | 0, k, c, _ => by simp [findF, endF]
  | n + 1, k, c, h => by
    rw [findF, endF]
    by_cases e : rs.getD k 0 = 10
    · rw [if_pos ⟨rfl, .inr e⟩, if_pos e]
    · rw [if_neg (by omega), if_pos rfl, if_neg e]
      exact find_end rs n (k + 1) (c - 1) (by omega)
theorem find_far (rs : List Int) (k : Nat) (hk : k ≤ rs.length) (c : Int) (hc : (rs.length : Int) < c) : findF rs rs.length 0 (lineOf rs k) c = ((endOf rs k : Int), 0) := by
  have h := homeOf_le rs k
  rw [find_home rs k hk, find_in rs k hk _ (k - homeOf rs k) (by omega) (by omega)]
  rw [show homeOf rs k + (k - homeOf rs k) = k by omega]
  exact find_end rs _ k _ (by omega)
theorem find_none (rs : List Int) (c line : Int) : ∀ (n j : Nat), j + n = rs.length → (lineOf rs rs.length : Int) < line → findF rs n j (line - lineOf rs j) c = (0, 12)
  | 0, j, h, hl => by
    have : j = rs.length := by omega
    subst this
    rw [findF, if_pos (by omega)]
  | n + 1, j, h, hl => by
    have h1 := lineOf_mono rs j (n + 1)
    rw [h] at h1
    rw [findF, if_neg (by omega), if_neg (by omega)]
    have h2 := find_none rs c line n (j + 1) (by omega) hl
    rw [lineOf] at h2
    split
    · rename_i e
      rw [if_pos e] at h2
      rw [← h2]; congr 1; omega
    · rename_i e
      rw [if_neg e] at h2
      exact h2
theorem find_beyond (rs : List Int) (c : Int) : findF rs rs.length 0 ((lineOf rs rs.length : Int) + 1) c = (0, 12) := by
  have := find_none rs c ((lineOf rs rs.length : Int) + 1) rs.length 0 (by omega) (by omega)
  simpa [lineOf] using this
theorem endF_le (rs : List Int) : ∀ n k, endF rs n k ≤ k + n
  | 0, k => Nat.le_refl _
  | n + 1, k => by
    rw [endF]
    have := endF_le rs n (k + 1)
    split <;> omega
theorem findF_le (rs : List Int) : ∀ n j line col, 0 ≤ (findF rs n j line col).1 ∧ (findF rs n j line col).1 ≤ j + n
  | 0, j, line, col => by
    rw [findF]
    split
    · exact ⟨Int.le_refl _, by show (0 : Int) ≤ _; omega⟩
    · exact ⟨by show (0 : Int) ≤ (j : Int); omega, by show (j : Int) ≤ _; omega⟩
  | n + 1, j, line, col => by
    rw [findF]
    have h1 := findF_le rs n (j + 1) line (col - 1)
    have h2 := findF_le rs n (j + 1) (line - 1) col
    have h3 := findF_le rs n (j + 1) line col
    repeat' split
    all_goals first | omega | exact ⟨by show (0 : Int) ≤ (j : Int); omega, by show (j : Int) ≤ _; omega⟩
end Go.Proofs.YtaphkaodcdpcaaaDoor
