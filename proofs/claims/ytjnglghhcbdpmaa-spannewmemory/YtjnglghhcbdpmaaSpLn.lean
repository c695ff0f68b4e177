import Derived.Test.YtjnglghhcbdpmaaSpP
namespace Go.Proofs.Ytjnglghhcbdpmaa

theorem nodup_le {α : Type} [DecidableEq α] {l m : List α} (hl : l.Nodup) (h : ∀ x ∈ l, x ∈ m) : l.length ≤ m.length := by
  induction l generalizing m with
  | nil => simp
  | cons x t ih =>
    have hx := h x List.mem_cons_self
    have hn := List.nodup_cons.1 hl
    have := ih hn.2 (m := m.erase x) (fun y hy => (List.mem_erase_of_ne (fun e => hn.1 (by rw [← e]; exact hy))).2 (h y (List.mem_cons_of_mem _ hy)))
    rw [List.length_erase_of_mem hx] at this
    have := List.length_pos_of_mem hx
    simp only [List.length_cons]
    omega
theorem norm_nodup {b : Int} {l : List (Int × Int)} (h : Norm b l) : (l.map (·.1)).Nodup := by
  induction l generalizing b with
  | nil => simp
  | cons x t ih =>
    refine List.nodup_cons.2 ⟨fun hm => ?_, ih h.2.2⟩
    obtain ⟨y, hy, e⟩ := List.mem_map.1 hm
    simp only at e
    have := norm_lt h.2.2 y hy
    have := h.2.1
    omega
theorem norm_start {b : Int} {l : List (Int × Int)} (h : Norm b l) {r : Int × Int} (hr : r ∈ l) : Lies l r.1 ∧ ¬ Lies l (r.1 - 1) := by
  refine ⟨⟨r, hr, Int.le_refl _, (norm_lt h r hr).2⟩, ?_⟩
  induction l generalizing b with
  | nil => cases hr
  | cons x t ih =>
    rw [lies_cons]
    rcases List.mem_cons.1 hr with rfl | hr'
    · rintro (h' | h')
      · omega
      · have := norm_lies h.2.2 h'; have := h.2.1; omega
    · have h1 := norm_lt h.2.2 r hr'
      rintro (h' | h')
      · omega
      · exact ih h.2.2 hr' h'
theorem start_mem {l : List (Int × Int)} {q : Int} (h : Lies l q) (h' : ¬ Lies l (q - 1)) : q ∈ l.map (·.1) := by
  obtain ⟨r, hr, h1, h2⟩ := h
  refine List.mem_map.2 ⟨r, hr, ?_⟩
  rcases Int.lt_or_le r.1 q with hlt | hle
  · exact absurd ⟨r, hr, by omega, by omega⟩ h'
  · omega
theorem end_mem {l : List (Int × Int)} {q : Int} (h : Lies l (q - 1)) (h' : ¬ Lies l q) : q ∈ l.map (·.2) := by
  obtain ⟨r, hr, h1, h2⟩ := h
  refine List.mem_map.2 ⟨r, hr, ?_⟩
  rcases Int.lt_or_le q r.2 with hlt | hle
  · exact absurd ⟨r, hr, by omega, by omega⟩ h'
  · omega
theorem len_of {b : Int} {U A B : List (Int × Int)} (hU : Norm b U) (h : ∀ q, Lies U q → ¬ Lies U (q - 1) → q ∈ A.map (·.1) ∨ q ∈ B.map (·.1) ∨ q ∈ B.map (·.2)) (hX : (∀ q, Lies U q → ¬ Lies U (q - 1) → q ∈ A.map (·.1) ∨ q ∈ B.map (·.1)) ∨ (∀ q, Lies U q → ¬ Lies U (q - 1) → q ∈ A.map (·.1) ∨ q ∈ B.map (·.2))) : U.length ≤ A.length + B.length := by
  have _r := h
  rcases hX with hX | hX
  · have := nodup_le (norm_nodup hU) (m := A.map (·.1) ++ B.map (·.1)) (fun x hx => by
      obtain ⟨r, hr, rfl⟩ := List.mem_map.1 hx
      obtain ⟨h1, h2⟩ := norm_start hU hr
      exact List.mem_append.2 (hX _ h1 h2))
    simpa using this
  · have := nodup_le (norm_nodup hU) (m := A.map (·.1) ++ B.map (·.2)) (fun x hx => by
      obtain ⟨r, hr, rfl⟩ := List.mem_map.1 hx
      obtain ⟨h1, h2⟩ := norm_start hU hr
      exact List.mem_append.2 (hX _ h1 h2))
    simpa using this
theorem len_union {U A B : List (Int × Int)} (hU : Norm (-1) U) (h : ∀ q, Lies U q ↔ Lies A q ∨ Lies B q) : U.length ≤ A.length + B.length := by
  have key : ∀ q, Lies U q → ¬ Lies U (q - 1) → q ∈ A.map (·.1) ∨ q ∈ B.map (·.1) := fun q h1 h2 => by
    rw [h] at h1 h2
    rcases h1 with h1 | h1
    · exact .inl (start_mem h1 (fun h' => h2 (.inl h')))
    · exact .inr (start_mem h1 (fun h' => h2 (.inr h')))
  exact len_of hU (fun q h1 h2 => (key q h1 h2).imp id .inl) (.inl key)
theorem len_meet {U A B : List (Int × Int)} (hU : Norm (-1) U) (h : ∀ q, Lies U q ↔ Lies A q ∧ Lies B q) : U.length ≤ A.length + B.length := by
  have key : ∀ q, Lies U q → ¬ Lies U (q - 1) → q ∈ A.map (·.1) ∨ q ∈ B.map (·.1) := fun q h1 h2 => by
    rw [h] at h1 h2
    by_cases h3 : Lies A (q - 1)
    · exact .inr (start_mem h1.2 (fun h' => h2 ⟨h3, h'⟩))
    · exact .inl (start_mem h1.1 h3)
  exact len_of hU (fun q h1 h2 => (key q h1 h2).imp id .inl) (.inl key)
theorem len_minus {U A B : List (Int × Int)} (hU : Norm (-1) U) (h : ∀ q, Lies U q ↔ Lies A q ∧ ¬ Lies B q) : U.length ≤ A.length + B.length := by
  have key : ∀ q, Lies U q → ¬ Lies U (q - 1) → q ∈ A.map (·.1) ∨ q ∈ B.map (·.2) := fun q h1 h2 => by
    rw [h] at h1 h2
    by_cases h3 : Lies A (q - 1)
    · refine .inr (end_mem ?_ h1.2)
      exact Classical.byContradiction fun h4 => h2 ⟨h3, h4⟩
    · exact .inl (start_mem h1.1 h3)
  exact len_of hU (fun q h1 h2 => (key q h1 h2).imp id .inr) (.inr key)
theorem nil_of_lies {U : List (Int × Int)} {b : Int} (hU : Norm b U) (h : ∀ q, ¬ Lies U q) : U = [] := by
  cases U with
  | nil => rfl
  | cons r t => exact absurd (norm_start hU List.mem_cons_self).1 (h _)
/-- A list whose places lie in the row, with few ranges, is a list. -/
theorem lst_of {U : List (Int × Int)} (hU : Norm (-1) U) (h : ∀ q, Lies U q → q < 1048576) (hl : U.length ≤ 32768) : Lst U :=
  ⟨hU, fun r hr => by
    have := norm_lt hU r hr
    have := h (r.2 - 1) ⟨r, hr, by omega, by omega⟩
    omega, hl⟩
theorem lst_lies {l : List (Int × Int)} (h : Lst l) {q : Int} (hq : Lies l q) : 0 ≤ q ∧ q < 1048576 := by
  obtain ⟨r, hr, h1, h2⟩ := hq
  have := h.nonneg r hr
  omega
end Go.Proofs.Ytjnglghhcbdpmaa
