import Derived.Test.YtjnglghhcbdpmaaSpT
namespace Go.Proofs.Ytjnglghhcbdpmaa
open Go.RowKit Go.Lib
set_option maxRecDepth 100000

/-- Nth finds no place just where k is not below the count. -/
theorem nthL_none {l : List (Int × Int)} (h : ∀ r ∈ l, 0 ≤ r.1 ∧ r.1 < r.2 ∧ r.2 ≤ 1048576) (k : Int) : nthL l k = none ↔ belowL l 1048576 ≤ k ∧ (l = [] ∨ 0 ≤ k) ∨ (l = []) := by
  induction l generalizing k with
  | nil => simp [nthL]
  | cons r t ih =>
    have h1 := h r List.mem_cons_self
    have hb := belowL_bounds t 1048576 (fun x hx => h x (List.mem_cons_of_mem _ hx))
    have ih' := ih (fun x hx => h x (List.mem_cons_of_mem _ hx)) (k - (r.2 - r.1))
    simp only [nthL, belowL]
    rw [if_pos (show r.1 < 1048576 by omega), show min r.2 1048576 = r.2 by omega]
    by_cases hk : k < r.2 - r.1
    · rw [if_pos hk]
      simp
      omega
    · rw [if_neg hk, ih']
      simp
      cases t with
      | nil => simp [belowL]; omega
      | cons y u => simp; omega

end Go.Proofs.Ytjnglghhcbdpmaa
