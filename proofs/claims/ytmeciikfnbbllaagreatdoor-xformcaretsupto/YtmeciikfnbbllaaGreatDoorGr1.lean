import Derived.Test.YtmeciikfnbbllaaGreatDoorXaB
import Derived.Test.YtmeciikfnbbllaaGreatDoorSpX
namespace Go.Proofs.YtmeciikfnbbllaaGreatDoor
open Go.RowKit Go.Lib
set_option maxRecDepth 100000
def roomP (o : OpV) : Int := if o.k = 1 ∧ 0 ≤ o.p ∧ o.p < 1048576 then o.p else 1048576
def ownX (o : OpV) : Int := opCheck o (roomP o)
theorem ownX_eq (o : OpV) : ownX o = ownP o := by
  unfold ownX ownP roomP
  by_cases h1 : o.k = 1
  · by_cases h2 : 0 ≤ o.p
    · by_cases h3 : o.p < 1048576
      · rw [if_pos ⟨h1, h2, h3⟩, if_pos ⟨h1, h2, by omega⟩]
      · rw [if_neg (by omega)]
        by_cases h4 : o.p ≤ 1048576
        · rw [if_pos ⟨h1, h2, h4⟩, show o.p = 1048576 by omega]
        · rw [if_neg (by omega)]
    · rw [if_neg (by omega), if_neg (by omega)]
  · rw [if_neg (by omega), if_neg (by omega)]
def clashP (a b : OpV) : Bool := (a.c == b.c && a.n == b.n) && !(a.c == 0 && a.n == 0)
def shiftP (a : OpV) (n : Int) : OpV × Int := if 1048576 < a.p + n + widthP a then (op0, 24) else ({ a with p := a.p + n }, 0)
def growB (l : List (Int × Int)) (at_ n : Int) : Bool := match l.getLast? with
  | some r => decide (at_ < r.2 ∧ 1048576 < r.2 + n)
  | none => false
theorem growB_iff (l : List (Int × Int)) (at_ n : Int) : growB l at_ n = true ↔ Sp.grows l at_ n := by
  unfold growB Sp.grows
  cases h : l.getLast? with
  | none => simp
  | some r => simp
def thrE (l : List (Int × Int)) (at_ n : Int) : Int := if growB l at_ n = true then 24 else if 32768 < (Sp.throughL l at_ n).length then 21 else 0
def thrP (a b : OpV) : OpV × Int :=
  if thrE a.l b.p (widthP b) ≠ 0 then (op0, thrE a.l b.p (widthP b)) else ({ a with l := Sp.throughL a.l b.p (widthP b) }, 0)
def inclP (a b : OpV) (e : Bool) : OpV × Int :=
  if clashP a b = true then (op0, 50) else if b.k ≠ 1 ∨ a.k = 4 then (a, 0) else if a.k ≠ 1 then thrP a b
  else if b.p < a.p ∨ (b.p = a.p ∧ e = true) then shiftP a (widthP b) else (a, 0)
def backP (a b : OpV) : OpV × Int :=
  if Sp.backInL a.l b.p (widthP b) ≠ [] then (op0, 23) else ({ a with l := Sp.backOldL a.l b.p (widthP b) }, 0)
def outP (a b : OpV) : OpV × Int :=
  if b.p + widthP b ≤ a.p then ({ a with p := a.p - widthP b }, 0) else if b.p < a.p then (op0, 23) else (a, 0)
def exclP (a b : OpV) : OpV × Int :=
  if clashP a b = true then (op0, 50) else if a.k = 4 ∧ (a.tc = b.c ∧ a.tn = b.n) then (op0, 23) else if b.k ≠ 1 ∨ a.k = 4 then (a, 0)
  else if a.k ≠ 1 then backP a b else outP a b
def orderedP (a b : OpV) : Bool := decide (a.k = 4) && ((a.tc == b.c && a.tn == b.n) || (decide (b.k = 4) && ((a.tc == b.tc && a.tn == b.tn) && (a.on != b.on))))
def transP (a b : OpV) : (OpV × OpV) × Int :=
  if (exclP b a).2 ≠ 0 then ((op0, op0), (exclP b a).2) else if orderedP a b = true then ((op0, op0), 50)
  else if (inclP a b true).2 ≠ 0 then ((op0, op0), (inclP a b true).2) else (((exclP b a).1, (inclP a b true).1), 0)
def firstErr : List OpV → Int
  | [] => 0
  | o :: t => if ownP o ≠ 0 then ownP o else firstErr t
end Go.Proofs.YtmeciikfnbbllaaGreatDoor

namespace Go.Proofs.YtmeciikfnbbllaaGreatDoor
open Go.RowKit Go.Lib
set_option maxRecDepth 100000
set_option maxHeartbeats 1000000 in
theorem roomFor_any {o : OpV} {v : Value} {w : World} : Calls Tryz.prog 24 #[opVal o v] w fun e w' => e = .returned (.int .i64 (roomP o)) ∧ Below w.heap.size w w' := by
  obtain ⟨c, n, k, p, s, l, tc, tn, on⟩ := o
  have hw2 := (Below.refl w.heap.size w).alloc (Nat.le_refl _) (Obj.cells #[.int .i64 c, .int .i64 n, .int .i64 k, .int .i64 p, .string s, v, .int .i64 tc, .int .i64 tn, .bool on] 33)
  obtain ⟨r, hr⟩ : ∃ r, roomP ⟨c, n, k, p, s, l, tc, tn, on⟩ = r := ⟨_, rfl⟩
  rw [hr]
  simp only [roomP] at hr
  simp only [opVal]
  by_cases h1 : k = 1
  · subst h1
    by_cases h2 : 0 ≤ p
    · by_cases h3 : p < 1048576
      · rw [if_pos ⟨rfl, h2, h3⟩] at hr; subst hr
        go_enter Tryz.func24, Tryz.ntmps24
        go_wp2_with fail
        go_ret
        exact ⟨rfl, hw2⟩
      · rw [if_neg (by omega)] at hr; subst hr
        have t3 : decide (p < 1048576) = false := decide_eq_false h3
        clear h3
        go_enter Tryz.func24, Tryz.ntmps24
        go_wp2_with fail
        go_ret
        exact ⟨rfl, hw2⟩
    · rw [if_neg (by omega)] at hr; subst hr
      have t3 : decide (0 ≤ p) = false := decide_eq_false h2
      clear h2
      go_enter Tryz.func24, Tryz.ntmps24
      go_wp2_with fail
      go_ret
      exact ⟨rfl, hw2⟩
  · rw [if_neg (by omega)] at hr; subst hr
    have t1 : (k == 1) = false := beq_eq_false_iff_ne.2 h1
    clear h1
    go_enter Tryz.func24, Tryz.ntmps24
    go_wp2_with fail
    go_ret
    exact ⟨rfl, hw2⟩
set_option maxHeartbeats 1000000 in
theorem clash_any {a b : OpV} {va vb : Value} {w : World} : Calls Tryz.prog 37 #[opVal a va, opVal b vb] w fun e w' => e = .returned (.bool (clashP a b)) ∧ Below w.heap.size w w' := by
  have HG : Tryz.prog.eqGuardType Tryz.prog.depth 27 = false := by kernel_rfl
  obtain ⟨c, n, k, p, s, l, tc, tn, on⟩ := a
  obtain ⟨c2, n2, k2, p2, s2, l2, tc2, tn2, on2⟩ := b
  have hw2 := ((Below.refl w.heap.size w).alloc (Nat.le_refl _) (Obj.cells #[.int .i64 c, .int .i64 n, .int .i64 k, .int .i64 p, .string s, va, .int .i64 tc, .int .i64 tn, .bool on] 33)).alloc (by simp) (Obj.cells #[.int .i64 c2, .int .i64 n2, .int .i64 k2, .int .i64 p2, .string s2, vb, .int .i64 tc2, .int .i64 tn2, .bool on2] 33)
  have e1 := fun W => run_eqID W c n c2 n2
  have e2 := fun W => run_eqID W c n 0 0
  obtain ⟨r1, h1⟩ : ∃ r1, (c == c2 && n == n2) = r1 := ⟨_, rfl⟩
  obtain ⟨r2, h2⟩ : ∃ r2, (c == 0 && n == 0) = r2 := ⟨_, rfl⟩
  simp only [clashP, h1, h2]
  simp only [h1] at e1
  simp only [h2] at e2
  clear h1 h2
  simp only [opVal]
  cases r1 <;> cases r2
  all_goals
    go_enter Tryz.func37, Tryz.ntmps37
    go_wp2_with fail
    go_ret
    exact ⟨rfl, hw2⟩
end Go.Proofs.YtmeciikfnbbllaaGreatDoor
