import Derived.Test.YtlebbffpbbjakaaDoorXcBG
namespace Go.Proofs.YtlebbffpbbjakaaDoor
open Go.RowKit Go.Lib
set_option maxRecDepth 100000

/-- An Ins of the sentences. -/
def insV (c n : Int) (p : Int) (i : Nat) : OpV := ⟨c, n, 1, p, txt i, [], 0, 0, false⟩
theorem insV_width (c n p : Int) (i : Nat) (hi : i < 5) : widthP (insV c n p i) = ((i + 1 : Nat) : Int) := by
  unfold widthP insV
  rw [if_pos rfl, txt_check i hi]
theorem insV_wdL (c n p : Int) (i : Nat) (hi : i < 5) : wdL (insV c n p i) = i + 1 := by
  unfold wdL insV
  rw [if_pos rfl]
  exact txt_lawW i hi
theorem insV_own {c n p : Int} {i : Nat} (hi : i < 5) (hid : isIdP c n = true) (h0 : 0 ≤ p) (h1 : p ≤ 1000) : ownP (insV c n p i) = 0 := by
  have hc := txt_check i hi
  have e1 : insP (insV c n p i) p = 0 := by
    unfold insP insV
    simp only [hc]
    rw [if_neg (by simp), if_neg (by omega), if_neg (by omega), if_neg (by omega), if_neg (by omega)]
  unfold ownP
  rw [if_pos ⟨rfl, h0, by simp only [insV]; omega⟩]
  unfold opCheck
  rw [if_neg (by simp only [insV]; omega), if_neg (by simp [insV]), if_neg (by simp [insV, hid]), if_neg (by simp [insV, extra, ext0, extT]), if_pos (show (insV c n p i).k = 1 from rfl)]
  exact e1
theorem firstErr2 {o o2 : OpV} (h1 : ownP o = 0) (h2 : ownP o2 = 0) : firstErr [o, o2] = 0 := by simp [firstErr, h1, h2]
theorem insL_two (R : List CellW) (p : Nat) (N M : List CellW) (h : p ≤ R.length) : insL (insL R p N) (p + N.length) M = R.take p ++ N ++ M ++ R.drop p := by
  have e1 : (R.take p ++ N).length = p + N.length := by rw [List.length_append, List.length_take]; omega
  unfold insL
  rw [show (R.take p ++ N ++ R.drop p).take (p + N.length) = R.take p ++ N from by rw [← e1]; exact List.take_left, show (R.take p ++ N ++ R.drop p).drop (p + N.length) = R.drop p from by rw [← e1]; exact List.drop_left]
theorem insL_at (R : List CellW) (p : Nat) (N M : List CellW) (h : p ≤ R.length) : insL (insL R p M) p N = R.take p ++ N ++ M ++ R.drop p := by
  have e1 : (R.take p).length = p := by rw [List.length_take]; omega
  unfold insL
  rw [List.append_assoc (R.take p) M, List.take_left' e1, List.drop_left' e1]
  simp [List.append_assoc]
end Go.Proofs.YtlebbffpbbjakaaDoor
