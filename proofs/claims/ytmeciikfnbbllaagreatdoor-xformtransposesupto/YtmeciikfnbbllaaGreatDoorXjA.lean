import Derived.Test.YtmeciikfnbbllaaGreatDoorXiB
namespace Go.Proofs.YtmeciikfnbbllaaGreatDoor
open Go.RowKit Go.Lib
set_option maxRecDepth 100000
def ctxJ (p n : Int) : List Sth := withL 1 p n ctxL 0
theorem ctxJ_eq {p n : Int} (h0 : 0 ≤ p) (h1 : p ≤ 1048576) : ctxJ p n = preS (decide (0 < p)) (0, 0, p) ++ [(1, 0, n), (0, p, 2097152)] := by
  unfold ctxJ ctxL withL withL withOne
  rw [if_pos ⟨h0, by simp only [wid]; omega⟩]
  by_cases h : 0 < p
  · rw [if_pos h, decide_eq_true h, preS_t]
    simp
  · rw [if_neg h, decide_eq_false h, preS_f]
    simp
theorem ctxJ_ok {p n : Int} (h2 : 0 ≤ n) (h3 : n ≤ 4194304) : SthOk (ctxJ p n) := withL_ok ⟨h2, h3⟩ ctx_ok
def turnI (p n p2 n2 : Int) : List Sth := withL 2 p2 n2 (ctxJ p n) 0
theorem turn_place {p n p2 n2 : Int} (h0 : 0 ≤ p) (h1 : p ≤ 1048576) (h2 : 0 ≤ p2) (h3 : p2 ≤ 1048576) (hn : 0 < n) (hno : ¬ (p < p2 ∧ p2 < p + n)) : placeL 1 0 (turnI p n p2 n2) 0 = if p2 ≤ p then p + n2 else p := by
  unfold turnI
  rw [ctxJ_eq h0 h1]
  by_cases hp : 0 < p
  · rw [decide_eq_true hp, preS_t]
    simp only [List.cons_append, List.nil_append]
    by_cases q1 : p2 < p
    · rw [if_pos (by omega)]
      by_cases q2 : 0 < p2
      · rw [withL_one (wOne_in (by simp only [wid]; omega)) rfl, withL_one (wOne_no (by simp only [wid]; omega)) rfl]
        simp [placeL, hn]
        omega
      · obtain rfl : p2 = 0 := by omega
        rw [withL_one (wOne_at ⟨rfl, by simp only [wid]; omega⟩) rfl, withL_one (wOne_no (by simp only [wid]; omega)) rfl]
        simp [placeL, hn]
        omega
    · rw [withL_one (wOne_no (by simp only [wid]; omega)) rfl]
      by_cases q2 : p2 = p
      · subst q2
        rw [if_pos (by omega), withL_one (wOne_at (by simp only [wid]; omega)) rfl]
        simp [placeL, hn]
      · rw [if_neg (by omega), withL_one (wOne_no (by simp only [wid]; omega)) rfl]
        simp [placeL, hn]
  · obtain rfl : p = 0 := by omega
    rw [decide_eq_false hp, preS_f]
    simp only [List.nil_append]
    by_cases q2 : p2 = 0
    · subst q2
      rw [if_pos (by omega), withL_one (wOne_at ⟨rfl, by simp only [wid]; omega⟩) rfl]
      simp [placeL, hn]
    · rw [if_neg (by omega), withL_one (wOne_no (by simp only [wid]; omega)) rfl]
      simp [placeL, hn]
end Go.Proofs.YtmeciikfnbbllaaGreatDoor
