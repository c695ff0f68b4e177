import Derived.Test.YtmdnmhdimfglaaaGreatDoorGaB
import Derived.Test.YtmdnmhdimfglaaaGreatDoorGaL
import Derived.Deep.RegionHeld3
namespace Go.Proofs.YtmdnmhdimfglaaaGreatDoor
open Go.RowKit Go.Lib
set_option maxRecDepth 100000
def roomP (o : OpV) : Int := if o.k = 1 ∧ 0 ≤ o.p ∧ o.p < 1048576 then o.p else 1048576
def ownX (o : OpV) : Int := opCheck o (roomP o)
theorem ownX_eq (o : OpV) : ownX o = ownP o := by
  unfold ownX ownP roomP
  by_cases h1 : o.k = 1
  · by_cases h2 : 0 ≤ o.p
    · by_cases h3 : o.p < 1048576
      · rw [if_pos ⟨h1, h2, h3⟩, if_pos ⟨h1, h2, by omega⟩]
      · rw [if_neg (by omega)]
        by_cases h4 : o.p ≤ 1048576
        · rw [if_pos ⟨h1, h2, h4⟩, show o.p = 1048576 by omega]
        · rw [if_neg (by omega)]
    · rw [if_neg (by omega), if_neg (by omega)]
  · rw [if_neg (by omega), if_neg (by omega)]
def clashP (a b : OpV) : Bool := (a.c == b.c && a.n == b.n) && !(a.c == 0 && a.n == 0)
def shiftP (a : OpV) (n : Int) : OpV × Int := if 1048576 < a.p + n + widthP a then (op0, 24) else ({ a with p := a.p + n }, 0)
def growB (l : List (Int × Int)) (at_ n : Int) : Bool := match l.getLast? with
  | some r => decide (at_ < r.2 ∧ 1048576 < r.2 + n)
  | none => false
theorem growB_iff (l : List (Int × Int)) (at_ n : Int) : growB l at_ n = true ↔ Sp.grows l at_ n := by
  unfold growB Sp.grows
  cases h : l.getLast? with
  | none => simp
  | some r => simp
def thrE (l : List (Int × Int)) (at_ n : Int) : Int := if growB l at_ n = true then 24 else if 32768 < (Sp.throughL l at_ n).length then 21 else 0
def thrP (a b : OpV) : OpV × Int :=
  if thrE a.l b.p (widthP b) ≠ 0 then (op0, thrE a.l b.p (widthP b)) else ({ a with l := Sp.throughL a.l b.p (widthP b) }, 0)
def inclP (a b : OpV) (e : Bool) : OpV × Int :=
  if clashP a b = true then (op0, 50) else if b.k ≠ 1 ∨ a.k = 4 then (a, 0) else if a.k ≠ 1 then thrP a b
  else if b.p < a.p ∨ (b.p = a.p ∧ e = true) then shiftP a (widthP b) else (a, 0)
def backP (a b : OpV) : OpV × Int :=
  if Sp.backInL a.l b.p (widthP b) ≠ [] then (op0, 23) else ({ a with l := Sp.backOldL a.l b.p (widthP b) }, 0)
def outP (a b : OpV) : OpV × Int :=
  if b.p + widthP b ≤ a.p then ({ a with p := a.p - widthP b }, 0) else if b.p < a.p then (op0, 23) else (a, 0)
def exclP (a b : OpV) : OpV × Int :=
  if clashP a b = true then (op0, 50) else if a.k = 4 ∧ (a.tc = b.c ∧ a.tn = b.n) then (op0, 23) else if b.k ≠ 1 ∨ a.k = 4 then (a, 0)
  else if a.k ≠ 1 then backP a b else outP a b
def orderedP (a b : OpV) : Bool := decide (a.k = 4) && ((a.tc == b.c && a.tn == b.n) || (decide (b.k = 4) && ((a.tc == b.tc && a.tn == b.tn) && (a.on != b.on))))
def transP (a b : OpV) : (OpV × OpV) × Int :=
  if (exclP b a).2 ≠ 0 then ((op0, op0), (exclP b a).2) else if orderedP a b = true then ((op0, op0), 50)
  else if (inclP a b true).2 ≠ 0 then ((op0, op0), (inclP a b true).2) else (((exclP b a).1, (inclP a b true).1), 0)
def firstErr : List OpV → Int
  | [] => 0
  | o :: t => if ownP o ≠ 0 then ownP o else firstErr t
end Go.Proofs.YtmdnmhdimfglaaaGreatDoor

namespace Go.Proofs.YtmdnmhdimfglaaaGreatDoor
open Go.RowKit Go.Lib
set_option maxRecDepth 100000
set_option maxHeartbeats 1000000 in
theorem roomFor_any {o : OpV} {v : Value} {w : World} : Calls Tryz.prog 18 #[opVal o v] w fun e w' => e = .returned (.int .i64 (roomP o)) ∧ Below w.heap.size w w' := by
  obtain ⟨c, n, k, p, s, l, tc, tn, on⟩ := o
  have hw2 := (Below.refl w.heap.size w).alloc (Nat.le_refl _) (Obj.cells #[.int .i64 c, .int .i64 n, .int .i64 k, .int .i64 p, .string s, v, .int .i64 tc, .int .i64 tn, .bool on] 34)
  obtain ⟨r, hr⟩ : ∃ r, roomP ⟨c, n, k, p, s, l, tc, tn, on⟩ = r := ⟨_, rfl⟩
  rw [hr]
  simp only [roomP] at hr
  simp only [opVal]
  by_cases h1 : k = 1
  · subst h1
    by_cases h2 : 0 ≤ p
    · by_cases h3 : p < 1048576
      · rw [if_pos ⟨rfl, h2, h3⟩] at hr; subst hr
        go_enter Tryz.func18, Tryz.ntmps18
        go_wp2_with fail
        go_ret
        exact ⟨rfl, hw2⟩
      · rw [if_neg (by omega)] at hr; subst hr
        have t3 : decide (p < 1048576) = false := decide_eq_false h3
        clear h3
        go_enter Tryz.func18, Tryz.ntmps18
        go_wp2_with fail
        go_ret
        exact ⟨rfl, hw2⟩
    · rw [if_neg (by omega)] at hr; subst hr
      have t3 : decide (0 ≤ p) = false := decide_eq_false h2
      clear h2
      go_enter Tryz.func18, Tryz.ntmps18
      go_wp2_with fail
      go_ret
      exact ⟨rfl, hw2⟩
  · rw [if_neg (by omega)] at hr; subst hr
    have t1 : (k == 1) = false := beq_eq_false_iff_ne.2 h1
    clear h1
    go_enter Tryz.func18, Tryz.ntmps18
    go_wp2_with fail
    go_ret
    exact ⟨rfl, hw2⟩
set_option maxHeartbeats 1000000 in
theorem clash_any {a b : OpV} {va vb : Value} {w : World} : Calls Tryz.prog 41 #[opVal a va, opVal b vb] w fun e w' => e = .returned (.bool (clashP a b)) ∧ Below w.heap.size w w' := by
  have HG : Tryz.prog.eqGuardType Tryz.prog.depth 28 = false := by kernel_rfl
  obtain ⟨c, n, k, p, s, l, tc, tn, on⟩ := a
  obtain ⟨c2, n2, k2, p2, s2, l2, tc2, tn2, on2⟩ := b
  have hw2 := ((Below.refl w.heap.size w).alloc (Nat.le_refl _) (Obj.cells #[.int .i64 c, .int .i64 n, .int .i64 k, .int .i64 p, .string s, va, .int .i64 tc, .int .i64 tn, .bool on] 34)).alloc (by simp) (Obj.cells #[.int .i64 c2, .int .i64 n2, .int .i64 k2, .int .i64 p2, .string s2, vb, .int .i64 tc2, .int .i64 tn2, .bool on2] 34)
  have e1 := fun W => run_eqID W c n c2 n2
  have e2 := fun W => run_eqID W c n 0 0
  obtain ⟨r1, h1⟩ : ∃ r1, (c == c2 && n == n2) = r1 := ⟨_, rfl⟩
  obtain ⟨r2, h2⟩ : ∃ r2, (c == 0 && n == 0) = r2 := ⟨_, rfl⟩
  simp only [clashP, h1, h2]
  simp only [h1] at e1
  simp only [h2] at e2
  clear h1 h2
  simp only [opVal]
  cases r1 <;> cases r2
  all_goals
    go_enter Tryz.func41, Tryz.ntmps41
    go_wp2_with fail
    go_ret
    exact ⟨rfl, hw2⟩
end Go.Proofs.YtmdnmhdimfglaaaGreatDoor

namespace Go.Proofs.YtmdnmhdimfglaaaGreatDoor
open Go.RowKit Go.Lib
set_option maxRecDepth 100000
abbrev OpM := OpV × (Option Addr × Nat × Nat)
def opF (x : OpM) : List Value := [.int .i64 x.1.c, .int .i64 x.1.n, .int .i64 x.1.k, .int .i64 x.1.p, .string x.1.s, .slice x.2.1 x.2.2.1 x.2.2.2, .int .i64 x.1.tc, .int .i64 x.1.tn, .bool x.1.on]
theorem layO : Lay opF 9 := ⟨fun _ => rfl, by decide, fun x u hu => by simp [opF] at hu; rcases hu with rfl | rfl | rfl | rfl | rfl | rfl | rfl | rfl | rfl <;> rfl⟩
theorem Rw.at9 {w W : World} {a : Option Addr} {n cap : Nat} {L : List OpM} (h : Rw opF 9 w a n cap L) (hb : Below w.heap.size w W) (j : Nat) (hj : j < n) :
    ∃ g off x, a = some ⟨g, off, none⟩ ∧ g < w.heap.size ∧ L[j]? = some x ∧ W.cell? ⟨g, off + j * 9, none⟩ = some (.int .i64 x.1.c) ∧ W.cell? ⟨g, off + j * 9 + 1, none⟩ = some (.int .i64 x.1.n) ∧ W.cell? ⟨g, off + j * 9 + 2, none⟩ = some (.int .i64 x.1.k) ∧ W.cell? ⟨g, off + j * 9 + 3, none⟩ = some (.int .i64 x.1.p) ∧ W.cell? ⟨g, off + j * 9 + 4, none⟩ = some (.string x.1.s) ∧ W.cell? ⟨g, off + j * 9 + 5, none⟩ = some (.slice x.2.1 x.2.2.1 x.2.2.2) ∧ W.cell? ⟨g, off + j * 9 + 6, none⟩ = some (.int .i64 x.1.tc) ∧ W.cell? ⟨g, off + j * 9 + 7, none⟩ = some (.int .i64 x.1.tn) ∧ W.cell? ⟨g, off + j * 9 + 8, none⟩ = some (.bool x.1.on) := by
  obtain ⟨g, off, x, ha, hg, hx, hc⟩ := h.at j hj
  have h2 : ∀ i v, (opF x)[i]? = some v → W.cell? ⟨g, off + j * 9 + i, none⟩ = some v := fun i v hv => (hb.cell (p := ⟨g, off + j * 9 + i, none⟩) hg).trans (hc i v hv)
  exact ⟨g, off, x, ha, hg, hx, h2 0 _ rfl, h2 1 _ rfl, h2 2 _ rfl, h2 3 _ rfl, h2 4 _ rfl, h2 5 _ rfl, h2 6 _ rfl, h2 7 _ rfl, h2 8 _ rfl⟩
def OkOps (w : World) (L : List OpM) : Prop := ∀ x ∈ L, Sp.Rng w x.2.1 x.2.2.1 x.2.2.2 x.1.l ∧ x.1.s.size ≤ 9223372036854775807
theorem OkOps.below {w w' : World} {L : List OpM} (h : OkOps w L) (hb : Below w.heap.size w w') : OkOps w' L := fun x hx => ⟨(h x hx).1.below hb, (h x hx).2⟩
def errs (L : List OpM) : Int := firstErr (L.map (·.1))
theorem errs_drop (L : List OpM) (j : Nat) (x : OpM) (h : L[j]? = some x) : errs (L.drop j) = if ownP x.1 ≠ 0 then ownP x.1 else errs (L.drop (j + 1)) := by
  obtain ⟨hj, hx⟩ := List.getElem?_eq_some_iff.1 h
  rw [List.drop_eq_getElem_cons hj, hx]
  rfl
set_option maxHeartbeats 2000000 in
theorem ownErrors_any {w : World} {a : Option Addr} {n cap : Nat} {L : List OpM} (h : Rw opF 9 w a n cap L) (hL : OkOps w L) (hw : Bar w) :
    Calls Tryz.prog 10 #[.slice a n cap] w fun e w' => e = .returned (.int .i64 (errs L)) ∧ Below w.heap.size w w' := by
  have hln := h.len
  have hnb : n ≤ 9223372036854775807 := by have := h.room; simp only [maxLen] at this; omega
  have HC : Hid (∀ (x : OpM) (W : World) (r : Int), x ∈ L → Below w.heap.size w W → Calls Tryz.prog 17 #[opVal x.1 (.slice x.2.1 x.2.2.1 x.2.2.2), .int .i64 r] W fun e w' => e = .returned (.int .i64 (opCheck x.1 r)) ∧ Below W.heap.size W w') := fun x W r hx hb => opCheck_any ((hL x hx).1.below hb) (hL x hx).2 (hw.below hb)
  have HRm : Hid (∀ (o : OpV) (v : Value) (W : World), Calls Tryz.prog 18 #[opVal o v] W fun e w' => e = .returned (.int .i64 (roomP o)) ∧ Below W.heap.size W w') := fun o v W => roomFor_any
  obtain ⟨r, hr⟩ : ∃ r, errs L = r := ⟨_, rfl⟩
  have HR : Hid (errs (L.drop 0) = r) := hr
  rw [hr]
  clear hr hL hw
  go_enter Tryz.func10, Tryz.ntmps10
  go_wp2_with fail
  go_loopw [4, 5, 8] (fun u4 u5 i w' => ∃ j : Nat, j ≤ n ∧ i = .int .i64 j ∧ Below w.heap.size w w' ∧ Hid (errs (L.drop j) = r)) (fun _ _ i _ => n - (RowKit.intOf i).toNat)
  case atStart => exact ⟨0, Nat.zero_le _, rfl, Below.refl _ _, HR⟩
  case round =>
    obtain ⟨j, hjn, rfl, hb, HE⟩ := hrel
    by_cases hj : j < n
    · obtain ⟨g, off, x, rfl, hg, hx, c0, c1, c2, c3, c4, c5, c6, c7, c8⟩ := h.at9 hb j hj
      have hxm : x ∈ L := List.mem_of_getElem? hx
      have he := errs_drop L j x hx
      rw [HE.out] at he
      have HC2 := fun W r hb => HC.out x W r hxm hb
      obtain ⟨⟨c, n0, k, p, s, l, tc, tn, on⟩, xa, xm, xc⟩ := x
      simp only at c0 c1 c2 c3 c4 c5 c6 c7 c8 HC2
      clear HE HC h hx hxm
      obtain ⟨W0, hW0⟩ : ∃ W0, wr.alloc (Obj.cells #[.int .i64 c, .int .i64 n0, .int .i64 k, .int .i64 p, .string s, .slice xa xm xc, .int .i64 tc, .int .i64 tn, .bool on] 34) = W0 := ⟨_, rfl⟩
      have hX : W0.heap[wr.heap.size]? = some (Obj.cells #[.int .i64 c, .int .i64 n0, .int .i64 k, .int .i64 p, .string s, .slice xa xm xc, .int .i64 tc, .int .i64 tn, .bool on] 34) := by rw [← hW0]; exact alloc_last _ _ _ rfl
      have hB0 : Below w.heap.size w W0 := by rw [← hW0]; exact hb.alloc hb.size _
      have hsz : wr.heap.size < W0.heap.size := by rw [← hW0]; simp
      obtain ⟨k0, k1, k2, k3, k4, k5, k6, k7, k8⟩ := box9 hX
      go_wp2_with fail
      try rw [hW0]
      have hcur : Below W0.heap.size W0 W0 := Below.refl _ _
      clear hW0 hX c0 c1 c2 c3 c4 c5 c6 c7 c8 hb
      simp only [opVal] at *
      go_region_held3 (fun W => W.cell? ⟨wr.heap.size, 0, none⟩ = some (.int .i64 c) ∧ W.cell? ⟨wr.heap.size, 1, none⟩ = some (.int .i64 n0) ∧ W.cell? ⟨wr.heap.size, 2, none⟩ = some (.int .i64 k) ∧ W.cell? ⟨wr.heap.size, 3, none⟩ = some (.int .i64 p) ∧ W.cell? ⟨wr.heap.size, 4, none⟩ = some (.string s) ∧ W.cell? ⟨wr.heap.size, 5, none⟩ = some (.slice xa xm xc) ∧ W.cell? ⟨wr.heap.size, 6, none⟩ = some (.int .i64 tc) ∧ W.cell? ⟨wr.heap.size, 7, none⟩ = some (.int .i64 tn) ∧ W.cell? ⟨wr.heap.size, 8, none⟩ = some (.bool on)) (first | exact ⟨k0, k1, k2, k3, k4, k5, k6, k7, k8⟩ | exact ⟨e0, e1, e2, e3, e4, e5, e6, e7, e8⟩)
        (first
          | (go_at_call 18; refine (HRm.out ⟨c, n0, k, p, s, l, tc, tn, on⟩ (.slice xa xm xc) _).mono ?_; rintro e w1 ⟨rfl, hb1⟩; have hcur : Below W0.heap.size W0 w1 := (by first | exact hcur.trans (hb1.mono hcur.size) | exact hcur.drew.trans (hb1.mono hcur.size)); have e0 := (hcur.cell (p := ⟨wr.heap.size, 0, none⟩) hsz).trans k0; have e1 := (hcur.cell (p := ⟨wr.heap.size, 1, none⟩) hsz).trans k1; have e2 := (hcur.cell (p := ⟨wr.heap.size, 2, none⟩) hsz).trans k2; have e3 := (hcur.cell (p := ⟨wr.heap.size, 3, none⟩) hsz).trans k3; have e4 := (hcur.cell (p := ⟨wr.heap.size, 4, none⟩) hsz).trans k4; have e5 := (hcur.cell (p := ⟨wr.heap.size, 5, none⟩) hsz).trans k5; have e6 := (hcur.cell (p := ⟨wr.heap.size, 6, none⟩) hsz).trans k6; have e7 := (hcur.cell (p := ⟨wr.heap.size, 7, none⟩) hsz).trans k7; have e8 := (hcur.cell (p := ⟨wr.heap.size, 8, none⟩) hsz).trans k8)
          | (go_at_call 17; refine (HC2 _ _ ?_).mono ?_; (first | exact hB0.trans (hcur.mono hB0.size) | exact hB0.trans (hcur.drew.mono hB0.size)); rintro e w1 ⟨rfl, hb1⟩; have hcur : Below W0.heap.size W0 w1 := (by first | exact hcur.trans (hb1.mono hcur.size) | exact hcur.drew.trans (hb1.mono hcur.size)); have e0 := (hcur.cell (p := ⟨wr.heap.size, 0, none⟩) hsz).trans k0; have e1 := (hcur.cell (p := ⟨wr.heap.size, 1, none⟩) hsz).trans k1; have e2 := (hcur.cell (p := ⟨wr.heap.size, 2, none⟩) hsz).trans k2; have e3 := (hcur.cell (p := ⟨wr.heap.size, 3, none⟩) hsz).trans k3; have e4 := (hcur.cell (p := ⟨wr.heap.size, 4, none⟩) hsz).trans k4; have e5 := (hcur.cell (p := ⟨wr.heap.size, 5, none⟩) hsz).trans k5; have e6 := (hcur.cell (p := ⟨wr.heap.size, 6, none⟩) hsz).trans k6; have e7 := (hcur.cell (p := ⟨wr.heap.size, 7, none⟩) hsz).trans k7; have e8 := (hcur.cell (p := ⟨wr.heap.size, 8, none⟩) hsz).trans k8))
      all_goals
        have hB1 := hB0.trans (hcur.mono hB0.size)
        have hv : opCheck ⟨c, n0, k, p, s, l, tc, tn, on⟩ (roomP ⟨c, n0, k, p, s, l, tc, tn, on⟩) = ownP ⟨c, n0, k, p, s, l, tc, tn, on⟩ := ownX_eq _
        rw [hv]
        generalize ownP ⟨c, n0, k, p, s, l, tc, tn, on⟩ = z at *
        clear HC2 HRm hv HR
        by_cases hz : z = 0
        · rw [if_neg (by simp [hz])] at he
          subst hz
          have HE2 : Hid (errs (L.drop (j + 1)) = r) := he.symm
          clear he
          go_wp2_with fail
          go_roundw
          case rel => exact ⟨j + 1, by omega, by go_num, (by first | exact hB1 | exact below_drewN hB1 _), HE2⟩
          case measure => simp [RowKit.intOf]; omega
        · rw [if_pos hz] at he
          subst he
          have t1 : (r == 0) = false := beq_eq_false_iff_ne.2 hz
          clear hz
          go_wp2_with fail
          go_ret
          exact ⟨rfl, by first | exact hB1 | exact below_drewN hB1 _⟩
    · have hr : r = 0 := by
        rw [← HE.out, List.drop_eq_nil_of_le (by omega)]
        rfl
      subst hr
      clear HR HE HC HRm
      go_wp2_with fail
      go_ret
      exact ⟨rfl, hb⟩
end Go.Proofs.YtmdnmhdimfglaaaGreatDoor

namespace Go.Proofs.YtmdnmhdimfglaaaGreatDoor
open Go.RowKit Go.Lib
set_option maxRecDepth 100000
structure Right (o : OpV) : Prop where
  kind : 1 ≤ o.k ∧ o.k ≤ 4
  id : (o.c = 0 ∧ o.n = 0) ∨ isIdP o.c o.n = true
  extra : extra o = false
  ins : o.k = 1 → 0 ≤ o.p ∧ o.p ≤ 1048576 ∧ insP o o.p = 0
  rng : o.k = 2 ∨ o.k = 3 → o.l ≠ [] ∧ Sp.Lst o.l
  tgt : o.k = 4 → isIdP o.tc o.tn = true ∧ ¬ (o.tc = o.c ∧ o.tn = o.n)
theorem insP_code (o : OpV) (t : Int) (h : insP o t = 0) : 0 ≤ o.p ∧ o.p ≤ t ∧ (check o.s).2.2 = 0 ∧ (check o.s).1 ≠ 0 ∧ (check o.s).1 ≤ 256 ∧ t + (check o.s).1 ≤ 1048576 := by
  unfold insP at h
  split at h
  · exact absurd h (by assumption)
  split at h
  · cases h
  split at h
  · cases h
  split at h
  · cases h
  split at h
  · cases h
  omega
theorem opCheck_zero {o : OpV} {t : Int} (h : opCheck o t = 0) : 0 ≤ t ∧ t ≤ 1048576 ∧ (1 ≤ o.k ∧ o.k ≤ 4) ∧ ((o.c = 0 ∧ o.n = 0) ∨ isIdP o.c o.n = true) ∧ Go.Proofs.YtmdnmhdimfglaaaGreatDoor.extra o = false ∧ (o.k = 1 → insP o t = 0) ∧ (o.k = 2 ∨ o.k = 3 → rngP o t = 0) ∧ (o.k = 4 → tgtP o = 0) := by
  unfold opCheck at h
  split at h
  · cases h
  split at h
  · cases h
  split at h
  · cases h
  rename_i h1 h2 h3
  have hI : (o.c = 0 ∧ o.n = 0) ∨ isIdP o.c o.n = true := by
    by_cases hz : o.c = 0 ∧ o.n = 0
    · exact .inl hz
    · right
      cases hb : isIdP o.c o.n with
      | true => rfl
      | false => exact absurd ⟨hz, hb⟩ h3
  split at h
  · cases h
  rename_i h4
  refine ⟨by omega, by omega, by omega, hI, by simpa using h4, fun e => ?_, fun e => ?_, fun e => ?_⟩
  · rw [if_pos e] at h; exact h
  · rw [if_neg (by omega), if_neg (by omega)] at h; exact h
  · rw [if_neg (by omega), if_pos e] at h; exact h
theorem right_of {o : OpV} (h : ownP o = 0) : Right o := by
  unfold ownP at h
  have key : ∀ t, opCheck o t = 0 → (o.k = 1 → 0 ≤ o.p ∧ o.p ≤ 1048576 ∧ insP o o.p = 0) → Right o := fun t ht hi => by
    obtain ⟨_, _, h2, h3, h4, h5, h6, h7⟩ := opCheck_zero ht
    refine ⟨h2, h3, h4, hi, fun e => ?_, fun e => ?_⟩
    · have := h6 e
      unfold rngP at this
      split at this
      · cases this
      rename_i hn
      split at this
      · rename_i hc; exact absurd this hc
      rename_i hc
      exact ⟨hn, Sp.checkL_ok (by simpa using hc)⟩
    · have := h7 e
      unfold tgtP at this
      split at this
      · cases this
      rename_i hn
      refine ⟨?_, fun hh => hn (.inr hh)⟩
      cases hb : isIdP o.tc o.tn with
      | true => rfl
      | false => exact absurd (.inl hb) hn
  split at h
  · rename_i hc
    refine key _ h fun e => ⟨hc.2.1, hc.2.2, ?_⟩
    exact (opCheck_zero h).2.2.2.2.2.1 e
  · rename_i hc
    refine key _ h fun e => ?_
    have h1 := (opCheck_zero h).2.2.2.2.2.1 e
    have h2 := insP_code _ _ h1
    exact absurd ⟨e, h2.1, h2.2.1⟩ hc
theorem Right.wd {o : OpV} (h : Right o) : 0 ≤ widthP o ∧ widthP o ≤ 256 := by
  unfold widthP
  split
  · rename_i e
    have h1 := insP_code _ _ (h.ins e).2.2
    have h2 := check_nonneg o.s
    omega
  · omega
theorem Right.pos {o : OpV} (h : Right o) (e : o.k = 1) : 0 ≤ o.p ∧ o.p ≤ 1048576 ∧ 1 ≤ widthP o ∧ o.p + widthP o ≤ 1048576 := by
  have h1 := insP_code _ _ (h.ins e).2.2
  have h2 := check_nonneg o.s
  have h3 : widthP o = (check o.s).1 := by unfold widthP; rw [if_pos e]
  have := (h.ins e).2.1
  omega
theorem Right.lst {o : OpV} (h : Right o) (e1 : o.k ≠ 1) (e4 : o.k ≠ 4) : Sp.Lst o.l := (h.rng (by have := h.kind; omega)).2
end Go.Proofs.YtmdnmhdimfglaaaGreatDoor
