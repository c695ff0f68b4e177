import Derived.Test.YtkfcbknkkoempaaDoorRqA
/-! The pieces among some places of a row. -/
namespace Go.Proofs.YtkfcbknkkoempaaDoor
set_option maxRecDepth 100000

/-- What 'give' hands out: the place, the runes, the counter. -/
def one (p : List Int × Int) (f lo hi : Int) : List (Int × List Int × Int) :=
  if max lo f < min hi (f + p.1.length) then [(max lo f, (p.1.take (min hi (f + p.1.length) - f).toNat).drop (max lo f - f).toNat, p.2)] else []
def gv : List (List Int × Int) → Int → Int → Int → List (Int × List Int × Int)
  | [], _, _, _ => []
  | p :: t, f, lo, hi => one p f lo hi ++ gv t (f + p.1.length) lo hi
theorem gv_append : ∀ (l k : List (List Int × Int)) (f lo hi : Int), gv (l ++ k) f lo hi = gv l f lo hi ++ gv k (f + (rowOf l).length) lo hi
  | [], k, f, lo, hi => by simp [gv, rowOf]
  | p :: t, k, f, lo, hi => by
    have ih := gv_append t k (f + p.1.length) lo hi
    have e : ((rowOf (p :: t)).length : Int) = p.1.length + (rowOf t).length := by rw [rowOf_cons, List.length_append, List.length_map]; omega
    rw [List.cons_append]
    simp only [gv]
    rw [ih, e, List.append_assoc, Int.add_assoc]
theorem gv_none : ∀ (l : List (List Int × Int)) (f lo hi : Int), min hi (f + (rowOf l).length) ≤ max lo f → gv l f lo hi = []
  | [], _, _, _, _ => rfl
  | p :: t, f, lo, hi, h => by
    have e : ((rowOf (p :: t)).length : Int) = p.1.length + (rowOf t).length := by rw [rowOf_cons, List.length_append, List.length_map]; omega
    rw [e] at h
    simp only [gv]
    rw [gv_none t (f + p.1.length) lo hi (by omega)]
    unfold one
    rw [if_neg (by omega)]
    rfl
/-- Cut down to the row's own places it is the same. -/
theorem gv_clip : ∀ (l : List (List Int × Int)) (f lo hi F H : Int), F ≤ f → f + (rowOf l).length ≤ H → gv l f (max lo F) (min hi H) = gv l f lo hi
  | [], _, _, _, _, _, _, _ => rfl
  | p :: t, f, lo, hi, F, H, h1, h2 => by
    have e : ((rowOf (p :: t)).length : Int) = p.1.length + (rowOf t).length := by rw [rowOf_cons, List.length_append, List.length_map]; omega
    rw [e] at h2
    simp only [gv]
    rw [gv_clip t (f + p.1.length) lo hi F H (by omega) (by omega)]
    congr 1
    unfold one
    rw [show max (max lo F) f = max lo f by omega, show min (min hi H) (f + p.1.length) = min hi (f + p.1.length) by omega]
/-- All of a row's cells that lie among the places. -/
def cellsG (ys : List (Int × List Int × Int)) : List (Int × Int) := ys.flatMap fun y => y.2.1.map fun c => (c, y.2.2)
theorem cellsG_append (l k : List (Int × List Int × Int)) : cellsG (l ++ k) = cellsG l ++ cellsG k := by simp [cellsG]
theorem gv_cells : ∀ (l : List (List Int × Int)) (f lo hi : Int), cellsG (gv l f lo hi) = ((rowOf l).take (hi - f).toNat).drop (lo - f).toNat
  | [], _, _, _ => by simp [gv, cellsG, rowOf]
  | p :: t, f, lo, hi => by
    have ih := gv_cells t (f + p.1.length) lo hi
    have hone : cellsG (one p f lo hi) = ((p.1.take (hi - f).toNat).drop (lo - f).toNat).map fun c => (c, p.2) := by
      unfold one
      by_cases h : max lo f < min hi (f + p.1.length)
      · rw [if_pos h]
        simp only [cellsG, List.flatMap_cons, List.flatMap_nil, List.append_nil]
        congr 1
        rw [show (max lo f - f).toNat = (lo - f).toNat by omega]
        by_cases h2 : hi ≤ f + p.1.length
        · rw [show (min hi (f + p.1.length) - f).toNat = (hi - f).toNat by omega]
        · rw [List.take_of_length_le (by omega), List.take_of_length_le (by omega)]
      · rw [if_neg h]
        symm
        simp only [cellsG, List.flatMap_nil, List.map_eq_nil_iff, List.drop_eq_nil_iff, List.length_take]
        omega
    simp only [gv]
    rw [cellsG_append, ih, hone, rowOf_cons, List.take_append, List.drop_append, List.length_map]
    congr 1
    · simp [List.map_take, List.map_drop]
    · simp only [List.length_take, List.length_map]
      by_cases h : (hi - f).toNat ≤ p.1.length
      · rw [show (hi - f).toNat - p.1.length = 0 by omega, show (hi - (f + p.1.length)).toNat = 0 by omega]
        simp
      · rw [show (hi - f).toNat - p.1.length = (hi - (f + p.1.length)).toNat by omega, show (lo - f).toNat - min (hi - f).toNat p.1.length = (lo - (f + p.1.length)).toNat by omega]
end Go.Proofs.YtkfcbknkkoempaaDoor
