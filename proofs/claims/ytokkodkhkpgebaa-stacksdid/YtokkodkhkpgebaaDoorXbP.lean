import Derived.Test.YtokkodkhkpgebaaDoorXaB
import Derived.Test.YtokkodkhkpgebaaDoorSpFX
namespace Go.Proofs.YtokkodkhkpgebaaDoor
open Go.RowKit Go.Lib
set_option maxRecDepth 100000

/-! The document's answers of package xform, as plain functions. -/
def roomP (o : OpV) : Int := if o.k = 1 ∧ 0 ≤ o.p ∧ o.p < 1048576 then o.p else 1048576
def ownX (o : OpV) : Int := opCheck o (roomP o)
theorem ownX_eq (o : OpV) : ownX o = ownP o := by
  unfold ownX ownP roomP
  by_cases h1 : o.k = 1
  · by_cases h2 : 0 ≤ o.p
    · by_cases h3 : o.p < 1048576
      · rw [if_pos ⟨h1, h2, h3⟩, if_pos ⟨h1, h2, by omega⟩]
      · rw [if_neg (by omega)]
        by_cases h4 : o.p ≤ 1048576
        · rw [if_pos ⟨h1, h2, h4⟩, show o.p = 1048576 by omega]
        · rw [if_neg (by omega)]
    · rw [if_neg (by omega), if_neg (by omega)]
  · rw [if_neg (by omega), if_neg (by omega)]
def clashP (a b : OpV) : Bool := (a.c == b.c && a.n == b.n) && !(a.c == 0 && a.n == 0)
def shiftP (a : OpV) (n : Int) : OpV × Int := if 1048576 < a.p + n + widthP a then (op0, 24) else ({ a with p := a.p + n }, 0)
def growB (l : List (Int × Int)) (at_ n : Int) : Bool := match l.getLast? with
  | some r => decide (at_ < r.2 ∧ 1048576 < r.2 + n)
  | none => false
theorem growB_iff (l : List (Int × Int)) (at_ n : Int) : growB l at_ n = true ↔ Sp.grows l at_ n := by
  unfold growB Sp.grows
  cases h : l.getLast? with
  | none => simp
  | some r => simp
/-- The error of span.Through where the list and the places are right. -/
def thrE (l : List (Int × Int)) (at_ n : Int) : Int := if growB l at_ n = true then 24 else if 32768 < (Sp.throughL l at_ n).length then 21 else 0
def thrP (a b : OpV) : OpV × Int :=
  if thrE a.l b.p (widthP b) ≠ 0 then (op0, thrE a.l b.p (widthP b)) else ({ a with l := Sp.throughL a.l b.p (widthP b) }, 0)
def inclP (a b : OpV) (e : Bool) : OpV × Int :=
  if clashP a b = true then (op0, 50) else if b.k ≠ 1 ∨ a.k = 4 then (a, 0) else if a.k ≠ 1 then thrP a b
  else if b.p < a.p ∨ (b.p = a.p ∧ e = true) then shiftP a (widthP b) else (a, 0)
def backP (a b : OpV) : OpV × Int :=
  if Sp.backInL a.l b.p (widthP b) ≠ [] then (op0, 23) else ({ a with l := Sp.backOldL a.l b.p (widthP b) }, 0)
def outP (a b : OpV) : OpV × Int :=
  if b.p + widthP b ≤ a.p then ({ a with p := a.p - widthP b }, 0) else if b.p < a.p then (op0, 23) else (a, 0)
def exclP (a b : OpV) : OpV × Int :=
  if clashP a b = true then (op0, 50) else if a.k = 4 ∧ (a.tc = b.c ∧ a.tn = b.n) then (op0, 23) else if b.k ≠ 1 ∨ a.k = 4 then (a, 0)
  else if a.k ≠ 1 then backP a b else outP a b
def orderedP (a b : OpV) : Bool := decide (a.k = 4) && ((a.tc == b.c && a.tn == b.n) || (decide (b.k = 4) && ((a.tc == b.tc && a.tn == b.tn) && (a.on != b.on))))
/-- (b1, a1), and the error. -/
def transP (a b : OpV) : (OpV × OpV) × Int :=
  if (exclP b a).2 ≠ 0 then ((op0, op0), (exclP b a).2) else if orderedP a b = true then ((op0, op0), 50)
  else if (inclP a b true).2 ≠ 0 then ((op0, op0), (inclP a b true).2) else (((exclP b a).1, (inclP a b true).1), 0)
def firstErr : List OpV → Int
  | [] => 0
  | o :: t => if ownP o ≠ 0 then ownP o else firstErr t
end Go.Proofs.YtokkodkhkpgebaaDoor
