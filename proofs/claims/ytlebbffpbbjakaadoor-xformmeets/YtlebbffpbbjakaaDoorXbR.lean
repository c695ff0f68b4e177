import Derived.Test.YtlebbffpbbjakaaDoorXbQ
namespace Go.Proofs.YtlebbffpbbjakaaDoor
open Go.RowKit Go.Lib
set_option maxRecDepth 100000
theorem Right.few {o : OpV} (h : Right o) : o.l.length ≤ 32768 := by
  by_cases h1 : o.k = 1
  · have := h.extra
    unfold Go.Proofs.YtlebbffpbbjakaaDoor.extra at this
    rw [if_pos h1] at this
    simp [ext0] at this
    rw [this.1]; simp
  · by_cases h4 : o.k = 4
    · have := h.extra
      unfold Go.Proofs.YtlebbffpbbjakaaDoor.extra at this
      rw [if_neg h1, if_pos h4] at this
      simp [ext0] at this
      rw [this.2]; simp
    · exact (h.lst h1 h4).few
theorem inclP_few {o o2 : OpV} (e : Bool) (h : Right o) : (inclP o o2 e).1.l.length ≤ 32768 := by
  have hf := h.few
  unfold inclP thrP shiftP
  repeat' split
  all_goals first
    | exact hf
    | simp [op0]
    | skip
  rename_i hz
  simp only [thrE] at hz
  split at hz
  · simp at hz
  · split at hz
    · simp at hz
    · exact Nat.le_of_not_lt (by assumption)
theorem inclP_s (o o2 : OpV) (e : Bool) : (inclP o o2 e).1.s.size ≤ o.s.size := by
  unfold inclP thrP shiftP
  repeat' split
  all_goals first
    | exact Nat.le_refl _
    | exact Nat.zero_le _
theorem exclP_few {o o2 : OpV} (h : Right o) : (exclP o o2).1.l.length ≤ 65536 := by
  have hf := h.few
  have h1 : (Sp.backOldL o.l o2.p (widthP o2)).length ≤ 65536 := by
    unfold Sp.backOldL
    have h1 := Sp.takenL_length (Sp.takenL [] o.l 0 o2.p 0) o.l (o2.p + widthP o2) 1048576 (-widthP o2)
    have h2 := Sp.takenL_length [] o.l 0 o2.p 0
    simp only [List.length_nil] at h2
    omega
  unfold exclP backP outP
  repeat' split
  all_goals first
    | exact Nat.le_trans hf (by omega)
    | exact h1
    | exact Nat.zero_le _
theorem exclP_s (o o2 : OpV) : (exclP o o2).1.s.size ≤ o.s.size := by
  unfold exclP backP outP
  repeat' split
  all_goals first
    | exact Nat.le_refl _
    | exact Nat.zero_le _
end Go.Proofs.YtlebbffpbbjakaaDoor
