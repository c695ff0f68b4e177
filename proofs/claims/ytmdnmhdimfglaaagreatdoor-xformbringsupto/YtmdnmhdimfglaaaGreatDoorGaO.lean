import Derived.Test.YtmdnmhdimfglaaaGreatDoorGaS
import Derived.Test.YtmdnmhdimfglaaaGreatDoorGaT
namespace Go.Proofs.YtmdnmhdimfglaaaGreatDoor
open Go.RowKit Go.Lib Sp
set_option maxRecDepth 100000
set_option maxHeartbeats 2000000 in
theorem slicesEq_any {w : World} {a : Option Addr} {n cap : Nat} {l : List (Int × Int)} (h : Rng w a n cap l) {b : Option Addr} {m capb : Nat} {k : List (Int × Int)} (hk : Rng w b m capb k) :
    Calls Tryz.prog 81 #[.slice a n cap, .slice b m capb] w fun e w' => e = .returned (.bool (decide (l = k))) ∧ Below w.heap.size w w' := by
  have hln := h.len
  have hkn := hk.len
  have hnb : n ≤ 9223372036854775807 := by have := h.room; simp only [maxLen] at this; omega
  by_cases hnm : n = m
  · subst hnm
    obtain ⟨r, hr⟩ : ∃ r, decide (l = k) = r := ⟨_, rfl⟩
    have HR : Hid (decide (l = k) = r) := hr
    rw [hr]
    clear hr
    go_enter Tryz.func81, Tryz.ntmps81
    go_wp2_with fail
    go_loopw [5, 13] (fun u i w' => ∃ j : Nat, j ≤ n ∧ i = .int .i64 j ∧ Below w.heap.size w w' ∧ Hid (∀ i, i < j → l.getD i (0, 0) = k.getD i (0, 0))) (fun _ i _ => n - (RowKit.intOf i).toNat)
    case atStart => exact ⟨0, Nat.zero_le _, rfl, Below.refl _ _, fun i hi => by omega⟩
    case round =>
      obtain ⟨j, hjn, rfl, hb, HE⟩ := hrel
      by_cases hj : j < n
      · obtain ⟨g, off, rfl, hg, hc, hd⟩ := h.cells j hj
        obtain ⟨g2, off2, rfl, hg2, hc2, hd2⟩ := hk.cells j hj
        have c0 := (hb.cell (p := ⟨g, off + j * 2, none⟩) hg).trans hc
        have c1 := (hb.cell (p := ⟨g, off + j * 2 + 1, none⟩) hg).trans hd
        have c2 := (hb.cell (p := ⟨g2, off2 + j * 2, none⟩) hg2).trans hc2
        have c3 := (hb.cell (p := ⟨g2, off2 + j * 2 + 1, none⟩) hg2).trans hd2
        clear hc hd hc2 hd2
        by_cases he : l.getD j (0, 0) = k.getD j (0, 0)
        · have HE2 : Hid (∀ i, i < j + 1 → l.getD i (0, 0) = k.getD i (0, 0)) := fun i hi => by
            by_cases e : i = j
            · subst e; exact he
            · exact HE.out i (by omega)
          rw [← he] at c2 c3
          generalize (l.getD j (0, 0)).1 = x at *
          generalize (l.getD j (0, 0)).2 = y at *
          clear he HE
          go_wp2_with fail
          go_quiet (fail)
          go_wp2_with fail
          go_roundw
          case rel => exact ⟨j + 1, by omega, by go_num, below_drewN hb _, HE2⟩
          case measure => simp [RowKit.intOf]; omega
        · have hne : r = false := by
            rw [← HR.out]
            exact decide_eq_false (fun e => he (by rw [e]))
          subst hne
          clear HE HR
          obtain ⟨x, y, hxy⟩ : ∃ x y, l.getD j (0, 0) = (x, y) := ⟨_, _, rfl⟩
          obtain ⟨x2, y2, hxy2⟩ : ∃ x y, k.getD j (0, 0) = (x, y) := ⟨_, _, rfl⟩
          rw [hxy] at c0 c1 he
          rw [hxy2] at c2 c3 he
          simp only at c0 c1 c2 c3
          clear hxy hxy2
          by_cases hx : x = x2
          · subst hx
            have t1 : (y == y2) = false := beq_eq_false_iff_ne.2 (fun e => he (by rw [e]))
            clear he
            go_wp2_with fail
            go_quiet (fail)
            go_wp2_with fail
            go_ret
            exact ⟨rfl, below_drewN hb _⟩
          · have t1 : (x == x2) = false := beq_eq_false_iff_ne.2 hx
            clear he hx
            go_wp2_with fail
            go_quiet (fail)
            go_wp2_with fail
            go_ret
            exact ⟨rfl, below_drewN hb _⟩
      · have hr : r = true := by
          rw [← HR.out]
          refine decide_eq_true (List.ext_getElem (by omega) fun i h1 h2 => ?_)
          have := HE.out i (by omega)
          simpa [List.getD_eq_getElem?_getD, h1, h2] using this
        subst hr
        clear HR HE
        go_wp2_with fail
        go_ret
        exact ⟨rfl, hb⟩
  · have e0 : decide (l = k) = false := decide_eq_false (fun e => by subst e; omega)
    rw [e0]
    have t1 : ((n : Int) == (m : Int)) = false := by simp; omega
    clear e0 hln hkn
    go_enter Tryz.func81, Tryz.ntmps81
    go_wp2_with fail
    go_ret
    exact ⟨rfl, Below.refl _ _⟩
end Go.Proofs.YtmdnmhdimfglaaaGreatDoor

namespace Go.Proofs.YtmdnmhdimfglaaaGreatDoor
open Go.RowKit Go.Lib Sp
set_option maxRecDepth 100000
def opVal (o : OpV) (v : Value) : Value := .agg #[.int .i64 o.c, .int .i64 o.n, .int .i64 o.k, .int .i64 o.p, .string o.s, v, .int .i64 o.tc, .int .i64 o.tn, .bool o.on]
theorem run_eqID (w : World) (a b c d : Int) : (Op.equalIn 10000 28 (.agg #[.int .i64 a, .int .i64 b]) (.agg #[.int .i64 c, .int .i64 d])).run Tryz.prog w = .ok (a == c && b == d) w := by
  show (Op.equalIn (9998 + 1 + 1) _ _ _).run _ _ = _
  rw [Op.equalIn]
  simp only [Sem.run_bind, run_underlying Tryz.underlying28, Result.andThen_ok, Tryz.sizeOf3]
  simp [List.range', part, Tryz.isAgg3, Tryz.sizeOf3, run_equalIn_int w _ _ _ _ _ _ Tryz.underlying3, Sem.run_bind, Result.andThen_ok, Sem.run_ite]
  by_cases h1 : a = c <;> by_cases h2 : b = d <;> simp [h1, h2]
set_option maxHeartbeats 400000 in
theorem isID_any (c n : Int) (w : World) : Calls Tryz.prog 36 #[.agg #[.int .i64 c, .int .i64 n]] w fun e w' => e = .returned (.bool (isIdP c n)) ∧ Below w.heap.size w w' := by
  obtain ⟨r, hr⟩ : ∃ r, isIdP c n = r := ⟨_, rfl⟩
  rw [hr]
  unfold isIdP at hr
  by_cases h1 : 1 ≤ c
  · by_cases h2 : c ≤ 8
    · by_cases h3 : 1 ≤ n
      · by_cases h4 : n ≤ 1024
        · rw [decide_eq_true ⟨h1, h2, h3, h4⟩] at hr; subst hr
          go_enter Tryz.func36, Tryz.ntmps36
          go_wp2_with fail
          go_ret
          exact ⟨rfl, (Below.refl _ _).alloc (Nat.le_refl _) _⟩
        · rw [decide_eq_false (by omega)] at hr; subst hr
          have d4 : decide (n ≤ 1024) = false := decide_eq_false h4
          clear h4
          go_enter Tryz.func36, Tryz.ntmps36
          go_wp2_with fail
          go_ret
          exact ⟨rfl, (Below.refl _ _).alloc (Nat.le_refl _) _⟩
      · rw [decide_eq_false (by omega)] at hr; subst hr
        have d4 : decide (1 ≤ n) = false := decide_eq_false h3
        clear h3
        go_enter Tryz.func36, Tryz.ntmps36
        go_wp2_with fail
        go_ret
        exact ⟨rfl, (Below.refl _ _).alloc (Nat.le_refl _) _⟩
    · rw [decide_eq_false (by omega)] at hr; subst hr
      have d4 : decide (c ≤ 8) = false := decide_eq_false h2
      clear h2
      go_enter Tryz.func36, Tryz.ntmps36
      go_wp2_with fail
      go_ret
      exact ⟨rfl, (Below.refl _ _).alloc (Nat.le_refl _) _⟩
  · rw [decide_eq_false (by omega)] at hr; subst hr
    have d4 : decide (1 ≤ c) = false := decide_eq_false h1
    clear h1
    go_enter Tryz.func36, Tryz.ntmps36
    go_wp2_with fail
    go_ret
    exact ⟨rfl, (Below.refl _ _).alloc (Nat.le_refl _) _⟩
end Go.Proofs.YtmdnmhdimfglaaaGreatDoor

namespace Go.Proofs.YtmdnmhdimfglaaaGreatDoor
open Go.RowKit Go.Lib Sp
set_option maxRecDepth 100000
def eqP (o x : OpV) : Bool := decide (o.c = x.c ∧ o.n = x.n ∧ o.k = x.k ∧ o.p = x.p ∧ o.s = x.s ∧ o.l = x.l ∧ o.tc = x.tc ∧ o.tn = x.tn ∧ o.on = x.on)
theorem toList_inj {a b : ByteArray} (h : a.toList = b.toList) : a = b := by
  rw [ByteArray.toList_eq, ByteArray.toList_eq] at h
  obtain ⟨⟨x⟩⟩ := a
  obtain ⟨⟨y⟩⟩ := b
  simp at h
  subst h; rfl
set_option maxHeartbeats 2000000 in
theorem opEqual_any {o x : OpV} {w : World} {a b : Option Addr} {n m cap capb : Nat} (h : Rng w a n cap o.l) (hx : Rng w b m capb x.l) :
    Calls Tryz.prog 66 #[opVal o (.slice a n cap), opVal x (.slice b m capb)] w fun e w' => e = .returned (.bool (eqP o x)) ∧ Below w.heap.size w w' := by
  have HI := run_eqID
  have HG : Tryz.prog.eqGuardType Tryz.prog.depth 28 = false := by kernel_rfl
  obtain ⟨c1, n1, k1, p1, s1, l1, tc1, tn1, on1⟩ := o
  obtain ⟨c2, n2, k2, p2, s2, l2, tc2, tn2, on2⟩ := x
  simp only [opVal] at *
  have HS : Hid (∀ w' : World, Below w.heap.size w w' → Calls Tryz.prog 81 #[.slice a n cap, .slice b m capb] w' fun e w'' => e = .returned (.bool (decide (l1 = l2))) ∧ Below w'.heap.size w' w'') := fun w' hb => slicesEq_any (h.below hb) (hx.below hb)
  clear h hx
  obtain ⟨r, hr⟩ : ∃ r, eqP ⟨c1, n1, k1, p1, s1, l1, tc1, tn1, on1⟩ ⟨c2, n2, k2, p2, s2, l2, tc2, tn2, on2⟩ = r := ⟨_, rfl⟩
  rw [hr]
  simp only [eqP] at hr
  by_cases e0 : c1 = c2
  · subst e0
    by_cases e1 : n1 = n2
    · subst e1
      by_cases e2 : k1 = k2
      · subst e2
        by_cases e3 : p1 = p2
        · subst e3
          by_cases e4 : s1 = s2
          · subst e4
            by_cases e5 : l1 = l2
            · subst e5
              by_cases e6 : tc1 = tc2
              · subst e6
                by_cases e7 : tn1 = tn2
                · subst e7
                  by_cases e8 : on1 = on2
                  · subst e8
                    have e6 : decide True = true := rfl
                    rw [decide_eq_true (by simp)] at hr; subst hr
                    go_enter Tryz.func66, Tryz.ntmps66
                    go_wp2_with fail
                    have hw2 := ((Below.refl w.heap.size w).alloc (Nat.le_refl _) (Obj.cells #[.int .i64 c1, .int .i64 n1, .int .i64 k1, .int .i64 p1, .string s1, .slice a n cap, .int .i64 tc1, .int .i64 tn1, .bool on1] 34)).alloc (by simp) (Obj.cells #[.int .i64 c1, .int .i64 n1, .int .i64 k1, .int .i64 p1, .string s1, .slice b m capb, .int .i64 tc1, .int .i64 tn1, .bool on1] 34)
                    refine (HS.out _ hw2).mono ?_
                    rintro e w1 ⟨rfl, hb1⟩
                    have hB := hw2.trans (hb1.mono hw2.size)
                    have d6 : w1.cell? ⟨w.heap.size, 6, none⟩ = some (.int .i64 tc1) := (hb1.cell (p := ⟨w.heap.size, 6, none⟩) (by simp; omega)).trans (World.cell?_alloc2_first ..)
                    have f6 : w1.cell? ⟨w.heap.size + 1, 6, none⟩ = some (.int .i64 tc1) := (hb1.cell (p := ⟨w.heap.size + 1, 6, none⟩) (by simp)).trans (World.cell?_alloc2_new ..)
                    have d7 : w1.cell? ⟨w.heap.size, 7, none⟩ = some (.int .i64 tn1) := (hb1.cell (p := ⟨w.heap.size, 7, none⟩) (by simp; omega)).trans (World.cell?_alloc2_first ..)
                    have f7 : w1.cell? ⟨w.heap.size + 1, 7, none⟩ = some (.int .i64 tn1) := (hb1.cell (p := ⟨w.heap.size + 1, 7, none⟩) (by simp)).trans (World.cell?_alloc2_new ..)
                    have d8 : w1.cell? ⟨w.heap.size, 8, none⟩ = some (.bool on1) := (hb1.cell (p := ⟨w.heap.size, 8, none⟩) (by simp; omega)).trans (World.cell?_alloc2_first ..)
                    have f8 : w1.cell? ⟨w.heap.size + 1, 8, none⟩ = some (.bool on1) := (hb1.cell (p := ⟨w.heap.size + 1, 8, none⟩) (by simp)).trans (World.cell?_alloc2_new ..)
                    clear hw2 hb1 HS
                    go_wp2_with fail
                    go_ret
                    exact ⟨rfl, hB⟩
                  · rw [decide_eq_false (by simp [e8])] at hr; subst hr
                    have t1 : (on1 == on2) = false := beq_eq_false_iff_ne.2 e8
                    clear e8
                    go_enter Tryz.func66, Tryz.ntmps66
                    go_wp2_with fail
                    have hw2 := ((Below.refl w.heap.size w).alloc (Nat.le_refl _) (Obj.cells #[.int .i64 c1, .int .i64 n1, .int .i64 k1, .int .i64 p1, .string s1, .slice a n cap, .int .i64 tc1, .int .i64 tn1, .bool on1] 34)).alloc (by simp) (Obj.cells #[.int .i64 c1, .int .i64 n1, .int .i64 k1, .int .i64 p1, .string s1, .slice b m capb, .int .i64 tc1, .int .i64 tn1, .bool on2] 34)
                    refine (HS.out _ hw2).mono ?_
                    rintro e w1 ⟨rfl, hb1⟩
                    have hB := hw2.trans (hb1.mono hw2.size)
                    have d6 : w1.cell? ⟨w.heap.size, 6, none⟩ = some (.int .i64 tc1) := (hb1.cell (p := ⟨w.heap.size, 6, none⟩) (by simp; omega)).trans (World.cell?_alloc2_first ..)
                    have f6 : w1.cell? ⟨w.heap.size + 1, 6, none⟩ = some (.int .i64 tc1) := (hb1.cell (p := ⟨w.heap.size + 1, 6, none⟩) (by simp)).trans (World.cell?_alloc2_new ..)
                    have d7 : w1.cell? ⟨w.heap.size, 7, none⟩ = some (.int .i64 tn1) := (hb1.cell (p := ⟨w.heap.size, 7, none⟩) (by simp; omega)).trans (World.cell?_alloc2_first ..)
                    have f7 : w1.cell? ⟨w.heap.size + 1, 7, none⟩ = some (.int .i64 tn1) := (hb1.cell (p := ⟨w.heap.size + 1, 7, none⟩) (by simp)).trans (World.cell?_alloc2_new ..)
                    have d8 : w1.cell? ⟨w.heap.size, 8, none⟩ = some (.bool on1) := (hb1.cell (p := ⟨w.heap.size, 8, none⟩) (by simp; omega)).trans (World.cell?_alloc2_first ..)
                    have f8 : w1.cell? ⟨w.heap.size + 1, 8, none⟩ = some (.bool on2) := (hb1.cell (p := ⟨w.heap.size + 1, 8, none⟩) (by simp)).trans (World.cell?_alloc2_new ..)
                    clear hw2 hb1 HS
                    go_wp2_with fail
                    go_ret
                    exact ⟨rfl, hB⟩
                · rw [decide_eq_false (by simp [e7])] at hr; subst hr
                  have t1 : (tn1 == tn2) = false := beq_eq_false_iff_ne.2 e7
                  clear e7
                  go_enter Tryz.func66, Tryz.ntmps66
                  go_wp2_with fail
                  have hw2 := ((Below.refl w.heap.size w).alloc (Nat.le_refl _) (Obj.cells #[.int .i64 c1, .int .i64 n1, .int .i64 k1, .int .i64 p1, .string s1, .slice a n cap, .int .i64 tc1, .int .i64 tn1, .bool on1] 34)).alloc (by simp) (Obj.cells #[.int .i64 c1, .int .i64 n1, .int .i64 k1, .int .i64 p1, .string s1, .slice b m capb, .int .i64 tc1, .int .i64 tn2, .bool on2] 34)
                  refine (HS.out _ hw2).mono ?_
                  rintro e w1 ⟨rfl, hb1⟩
                  have hB := hw2.trans (hb1.mono hw2.size)
                  have d6 : w1.cell? ⟨w.heap.size, 6, none⟩ = some (.int .i64 tc1) := (hb1.cell (p := ⟨w.heap.size, 6, none⟩) (by simp; omega)).trans (World.cell?_alloc2_first ..)
                  have f6 : w1.cell? ⟨w.heap.size + 1, 6, none⟩ = some (.int .i64 tc1) := (hb1.cell (p := ⟨w.heap.size + 1, 6, none⟩) (by simp)).trans (World.cell?_alloc2_new ..)
                  have d7 : w1.cell? ⟨w.heap.size, 7, none⟩ = some (.int .i64 tn1) := (hb1.cell (p := ⟨w.heap.size, 7, none⟩) (by simp; omega)).trans (World.cell?_alloc2_first ..)
                  have f7 : w1.cell? ⟨w.heap.size + 1, 7, none⟩ = some (.int .i64 tn2) := (hb1.cell (p := ⟨w.heap.size + 1, 7, none⟩) (by simp)).trans (World.cell?_alloc2_new ..)
                  have d8 : w1.cell? ⟨w.heap.size, 8, none⟩ = some (.bool on1) := (hb1.cell (p := ⟨w.heap.size, 8, none⟩) (by simp; omega)).trans (World.cell?_alloc2_first ..)
                  have f8 : w1.cell? ⟨w.heap.size + 1, 8, none⟩ = some (.bool on2) := (hb1.cell (p := ⟨w.heap.size + 1, 8, none⟩) (by simp)).trans (World.cell?_alloc2_new ..)
                  clear hw2 hb1 HS
                  go_wp2_with fail
                  go_ret
                  exact ⟨rfl, hB⟩
              · rw [decide_eq_false (by simp [e6])] at hr; subst hr
                have t1 : (tc1 == tc2) = false := beq_eq_false_iff_ne.2 e6
                clear e6
                go_enter Tryz.func66, Tryz.ntmps66
                go_wp2_with fail
                have hw2 := ((Below.refl w.heap.size w).alloc (Nat.le_refl _) (Obj.cells #[.int .i64 c1, .int .i64 n1, .int .i64 k1, .int .i64 p1, .string s1, .slice a n cap, .int .i64 tc1, .int .i64 tn1, .bool on1] 34)).alloc (by simp) (Obj.cells #[.int .i64 c1, .int .i64 n1, .int .i64 k1, .int .i64 p1, .string s1, .slice b m capb, .int .i64 tc2, .int .i64 tn2, .bool on2] 34)
                refine (HS.out _ hw2).mono ?_
                rintro e w1 ⟨rfl, hb1⟩
                have hB := hw2.trans (hb1.mono hw2.size)
                have d6 : w1.cell? ⟨w.heap.size, 6, none⟩ = some (.int .i64 tc1) := (hb1.cell (p := ⟨w.heap.size, 6, none⟩) (by simp; omega)).trans (World.cell?_alloc2_first ..)
                have f6 : w1.cell? ⟨w.heap.size + 1, 6, none⟩ = some (.int .i64 tc2) := (hb1.cell (p := ⟨w.heap.size + 1, 6, none⟩) (by simp)).trans (World.cell?_alloc2_new ..)
                have d7 : w1.cell? ⟨w.heap.size, 7, none⟩ = some (.int .i64 tn1) := (hb1.cell (p := ⟨w.heap.size, 7, none⟩) (by simp; omega)).trans (World.cell?_alloc2_first ..)
                have f7 : w1.cell? ⟨w.heap.size + 1, 7, none⟩ = some (.int .i64 tn2) := (hb1.cell (p := ⟨w.heap.size + 1, 7, none⟩) (by simp)).trans (World.cell?_alloc2_new ..)
                have d8 : w1.cell? ⟨w.heap.size, 8, none⟩ = some (.bool on1) := (hb1.cell (p := ⟨w.heap.size, 8, none⟩) (by simp; omega)).trans (World.cell?_alloc2_first ..)
                have f8 : w1.cell? ⟨w.heap.size + 1, 8, none⟩ = some (.bool on2) := (hb1.cell (p := ⟨w.heap.size + 1, 8, none⟩) (by simp)).trans (World.cell?_alloc2_new ..)
                clear hw2 hb1 HS
                go_wp2_with fail
                go_ret
                exact ⟨rfl, hB⟩
            · rw [decide_eq_false (by simp [e5])] at hr; subst hr
              have t1 : decide (l1 = l2) = false := decide_eq_false e5
              rw [t1] at HS
              clear e5
              go_enter Tryz.func66, Tryz.ntmps66
              go_wp2_with fail
              have hw2 := ((Below.refl w.heap.size w).alloc (Nat.le_refl _) (Obj.cells #[.int .i64 c1, .int .i64 n1, .int .i64 k1, .int .i64 p1, .string s1, .slice a n cap, .int .i64 tc1, .int .i64 tn1, .bool on1] 34)).alloc (by simp) (Obj.cells #[.int .i64 c1, .int .i64 n1, .int .i64 k1, .int .i64 p1, .string s1, .slice b m capb, .int .i64 tc2, .int .i64 tn2, .bool on2] 34)
              refine (HS.out _ hw2).mono ?_
              rintro e w1 ⟨rfl, hb1⟩
              have hB := hw2.trans (hb1.mono hw2.size)
              have d6 : w1.cell? ⟨w.heap.size, 6, none⟩ = some (.int .i64 tc1) := (hb1.cell (p := ⟨w.heap.size, 6, none⟩) (by simp; omega)).trans (World.cell?_alloc2_first ..)
              have f6 : w1.cell? ⟨w.heap.size + 1, 6, none⟩ = some (.int .i64 tc2) := (hb1.cell (p := ⟨w.heap.size + 1, 6, none⟩) (by simp)).trans (World.cell?_alloc2_new ..)
              have d7 : w1.cell? ⟨w.heap.size, 7, none⟩ = some (.int .i64 tn1) := (hb1.cell (p := ⟨w.heap.size, 7, none⟩) (by simp; omega)).trans (World.cell?_alloc2_first ..)
              have f7 : w1.cell? ⟨w.heap.size + 1, 7, none⟩ = some (.int .i64 tn2) := (hb1.cell (p := ⟨w.heap.size + 1, 7, none⟩) (by simp)).trans (World.cell?_alloc2_new ..)
              have d8 : w1.cell? ⟨w.heap.size, 8, none⟩ = some (.bool on1) := (hb1.cell (p := ⟨w.heap.size, 8, none⟩) (by simp; omega)).trans (World.cell?_alloc2_first ..)
              have f8 : w1.cell? ⟨w.heap.size + 1, 8, none⟩ = some (.bool on2) := (hb1.cell (p := ⟨w.heap.size + 1, 8, none⟩) (by simp)).trans (World.cell?_alloc2_new ..)
              clear hw2 hb1 HS
              go_wp2_with fail
              go_ret
              exact ⟨rfl, hB⟩
          · rw [decide_eq_false (by simp [e4])] at hr; subst hr
            have t1 : (s1.toList == s2.toList) = false := beq_eq_false_iff_ne.2 (fun e => e4 (toList_inj e))
            clear e4
            go_enter Tryz.func66, Tryz.ntmps66
            go_wp2_with fail
            go_ret
            exact ⟨rfl, ((Below.refl _ _).alloc (Nat.le_refl _) _).alloc (by simp) _⟩
        · rw [decide_eq_false (by simp [e3])] at hr; subst hr
          have t1 : (p1 == p2) = false := beq_eq_false_iff_ne.2 e3
          clear e3
          go_enter Tryz.func66, Tryz.ntmps66
          go_wp2_with fail
          go_ret
          exact ⟨rfl, ((Below.refl _ _).alloc (Nat.le_refl _) _).alloc (by simp) _⟩
      · rw [decide_eq_false (by simp [e2])] at hr; subst hr
        have t1 : (k1 == k2) = false := beq_eq_false_iff_ne.2 e2
        clear e2
        go_enter Tryz.func66, Tryz.ntmps66
        go_wp2_with fail
        go_ret
        exact ⟨rfl, ((Below.refl _ _).alloc (Nat.le_refl _) _).alloc (by simp) _⟩
    · rw [decide_eq_false (by simp [e1])] at hr; subst hr
      have t1 : (n1 == n2) = false := beq_eq_false_iff_ne.2 e1
      clear e1
      go_enter Tryz.func66, Tryz.ntmps66
      go_wp2_with fail
      go_ret
      exact ⟨rfl, ((Below.refl _ _).alloc (Nat.le_refl _) _).alloc (by simp) _⟩
  · rw [decide_eq_false (by simp [e0])] at hr; subst hr
    have t1 : (c1 == c2) = false := beq_eq_false_iff_ne.2 e0
    clear e0
    go_enter Tryz.func66, Tryz.ntmps66
    go_wp2_with fail
    go_ret
    exact ⟨rfl, ((Below.refl _ _).alloc (Nat.le_refl _) _).alloc (by simp) _⟩
end Go.Proofs.YtmdnmhdimfglaaaGreatDoor

namespace Go.Proofs.YtmdnmhdimfglaaaGreatDoor
open Go.RowKit Go.Lib Sp
set_option maxRecDepth 100000
theorem size_zero_iff (s : ByteArray) : s = ⟨#[]⟩ ↔ s.size = 0 := by
  constructor
  · rintro rfl; rfl
  · intro h
    obtain ⟨⟨x⟩⟩ := s
    cases x with
    | nil => rfl
    | cons a t => exact absurd h (by simp [ByteArray.size])
theorem extra1 (c n p : Int) (s : ByteArray) (l : List (Int × Int)) (tc tn : Int) (on : Bool) : (!eqP ⟨c, n, 1, 0, ⟨#[]⟩, l, tc, tn, on⟩ ⟨c, n, 1, 0, ⟨#[]⟩, [], 0, 0, false⟩) = extra ⟨c, n, 1, p, s, l, tc, tn, on⟩ := by
  simp only [eqP, extra, ext0, extT]
  cases l <;> cases on <;> by_cases h1 : tc = 0 <;> by_cases h2 : tn = 0 <;> simp [h1, h2]
set_option maxHeartbeats 2000000 in
theorem hasExtra_1 {c n p : Int} {s : ByteArray} {l : List (Int × Int)} {tc tn : Int} {on : Bool} {w : World} {a : Option Addr} {m cap : Nat} (h : Rng w a m cap l) :
    Calls Tryz.prog 37 #[opVal ⟨c, n, 1, p, s, l, tc, tn, on⟩ (.slice a m cap)] w fun e w' => e = .returned (.bool (extra ⟨c, n, 1, p, s, l, tc, tn, on⟩)) ∧ Below w.heap.size w w' := by
  rw [← extra1]
  have HE : Hid (∀ w' : World, Below w.heap.size w w' → Calls Tryz.prog 66 #[opVal ⟨c, n, 1, 0, ⟨#[]⟩, l, tc, tn, on⟩ (.slice a m cap), opVal ⟨c, n, 1, 0, ⟨#[]⟩, [], 0, 0, false⟩ (.slice none 0 0)] w' fun e w'' => e = .returned (.bool (eqP ⟨c, n, 1, 0, ⟨#[]⟩, l, tc, tn, on⟩ ⟨c, n, 1, 0, ⟨#[]⟩, [], 0, 0, false⟩)) ∧ Below w'.heap.size w' w'') := fun w' hb => opEqual_any (h.below hb) (rng_nil _)
  clear h
  simp only [opVal] at *
  go_enter Tryz.func37, Tryz.ntmps37
  go_wp2_with fail
  have hw2 := (Below.refl w.heap.size w).alloc (Nat.le_refl _) (Obj.cells #[.int .i64 c, .int .i64 n, .int .i64 1, .int .i64 0, .string ⟨#[]⟩, .slice a m cap, .int .i64 tc, .int .i64 tn, .bool on] 34)
  refine (HE.out _ hw2).mono ?_
  rintro e w1 ⟨rfl, hb1⟩
  have hB := hw2.trans (hb1.mono hw2.size)
  clear hw2 hb1 HE
  go_wp2_with fail
  go_ret
  exact ⟨rfl, hB⟩
theorem extra2 (c n p : Int) (s : ByteArray) (l : List (Int × Int)) (tc tn : Int) (on : Bool) : (!eqP ⟨c, n, 2, p, s, [], tc, tn, on⟩ ⟨c, n, 2, 0, ⟨#[]⟩, [], 0, 0, false⟩) = extra ⟨c, n, 2, p, s, l, tc, tn, on⟩ := by
  simp only [eqP, extra, ext0, extT, extP, ← size_zero_iff]
  by_cases h0 : p = 0 <;> by_cases h3 : s = ⟨#[]⟩ <;> cases on <;> by_cases h1 : tc = 0 <;> by_cases h2 : tn = 0 <;> simp [h0, h1, h2, h3]
set_option maxHeartbeats 2000000 in
theorem hasExtra_2 {c n p : Int} {s : ByteArray} {l : List (Int × Int)} {tc tn : Int} {on : Bool} {w : World} {a : Option Addr} {m cap : Nat} (_h : Rng w a m cap l) :
    Calls Tryz.prog 37 #[opVal ⟨c, n, 2, p, s, l, tc, tn, on⟩ (.slice a m cap)] w fun e w' => e = .returned (.bool (extra ⟨c, n, 2, p, s, l, tc, tn, on⟩)) ∧ Below w.heap.size w w' := by
  rw [← extra2]
  have HE : Hid (∀ w' : World, Below w.heap.size w w' → Calls Tryz.prog 66 #[opVal ⟨c, n, 2, p, s, [], tc, tn, on⟩ (.slice none 0 0), opVal ⟨c, n, 2, 0, ⟨#[]⟩, [], 0, 0, false⟩ (.slice none 0 0)] w' fun e w'' => e = .returned (.bool (eqP ⟨c, n, 2, p, s, [], tc, tn, on⟩ ⟨c, n, 2, 0, ⟨#[]⟩, [], 0, 0, false⟩)) ∧ Below w'.heap.size w' w'') := fun w' hb => opEqual_any (rng_nil _) (rng_nil _)
  simp only [opVal] at *
  go_enter Tryz.func37, Tryz.ntmps37
  go_wp2_with fail
  have hw2 := (Below.refl w.heap.size w).alloc (Nat.le_refl _) (Obj.cells #[.int .i64 c, .int .i64 n, .int .i64 2, .int .i64 p, .string s, .slice none 0 0, .int .i64 tc, .int .i64 tn, .bool on] 34)
  refine (HE.out _ hw2).mono ?_
  rintro e w1 ⟨rfl, hb1⟩
  have hB := hw2.trans (hb1.mono hw2.size)
  clear hw2 hb1 HE
  go_wp2_with fail
  go_ret
  exact ⟨rfl, hB⟩
theorem extra3 (c n p : Int) (s : ByteArray) (l : List (Int × Int)) (tc tn : Int) (on : Bool) : (!eqP ⟨c, n, 3, p, s, [], tc, tn, on⟩ ⟨c, n, 3, 0, ⟨#[]⟩, [], 0, 0, false⟩) = extra ⟨c, n, 3, p, s, l, tc, tn, on⟩ := by
  simp only [eqP, extra, ext0, extT, extP, ← size_zero_iff]
  by_cases h0 : p = 0 <;> by_cases h3 : s = ⟨#[]⟩ <;> cases on <;> by_cases h1 : tc = 0 <;> by_cases h2 : tn = 0 <;> simp [h0, h1, h2, h3]
set_option maxHeartbeats 2000000 in
theorem hasExtra_3 {c n p : Int} {s : ByteArray} {l : List (Int × Int)} {tc tn : Int} {on : Bool} {w : World} {a : Option Addr} {m cap : Nat} (_h : Rng w a m cap l) :
    Calls Tryz.prog 37 #[opVal ⟨c, n, 3, p, s, l, tc, tn, on⟩ (.slice a m cap)] w fun e w' => e = .returned (.bool (extra ⟨c, n, 3, p, s, l, tc, tn, on⟩)) ∧ Below w.heap.size w w' := by
  rw [← extra3]
  have HE : Hid (∀ w' : World, Below w.heap.size w w' → Calls Tryz.prog 66 #[opVal ⟨c, n, 3, p, s, [], tc, tn, on⟩ (.slice none 0 0), opVal ⟨c, n, 3, 0, ⟨#[]⟩, [], 0, 0, false⟩ (.slice none 0 0)] w' fun e w'' => e = .returned (.bool (eqP ⟨c, n, 3, p, s, [], tc, tn, on⟩ ⟨c, n, 3, 0, ⟨#[]⟩, [], 0, 0, false⟩)) ∧ Below w'.heap.size w' w'') := fun w' hb => opEqual_any (rng_nil _) (rng_nil _)
  simp only [opVal] at *
  go_enter Tryz.func37, Tryz.ntmps37
  go_wp2_with fail
  have hw2 := (Below.refl w.heap.size w).alloc (Nat.le_refl _) (Obj.cells #[.int .i64 c, .int .i64 n, .int .i64 3, .int .i64 p, .string s, .slice none 0 0, .int .i64 tc, .int .i64 tn, .bool on] 34)
  refine (HE.out _ hw2).mono ?_
  rintro e w1 ⟨rfl, hb1⟩
  have hB := hw2.trans (hb1.mono hw2.size)
  clear hw2 hb1 HE
  go_wp2_with fail
  go_ret
  exact ⟨rfl, hB⟩
theorem extra4 (c n p : Int) (s : ByteArray) (l : List (Int × Int)) (tc tn : Int) (on : Bool) : (!eqP ⟨c, n, 4, p, s, l, 0, 0, false⟩ ⟨c, n, 4, 0, ⟨#[]⟩, [], 0, 0, false⟩) = extra ⟨c, n, 4, p, s, l, tc, tn, on⟩ := by
  simp only [eqP, extra, ext0, extT, extP, ← size_zero_iff]
  by_cases h0 : p = 0 <;> by_cases h3 : s = ⟨#[]⟩ <;> cases l <;> simp [h0, h3]
set_option maxHeartbeats 2000000 in
theorem hasExtra_4 {c n p : Int} {s : ByteArray} {l : List (Int × Int)} {tc tn : Int} {on : Bool} {w : World} {a : Option Addr} {m cap : Nat} (h : Rng w a m cap l) :
    Calls Tryz.prog 37 #[opVal ⟨c, n, 4, p, s, l, tc, tn, on⟩ (.slice a m cap)] w fun e w' => e = .returned (.bool (extra ⟨c, n, 4, p, s, l, tc, tn, on⟩)) ∧ Below w.heap.size w w' := by
  rw [← extra4]
  have HE : Hid (∀ w' : World, Below w.heap.size w w' → Calls Tryz.prog 66 #[opVal ⟨c, n, 4, p, s, l, 0, 0, false⟩ (.slice a m cap), opVal ⟨c, n, 4, 0, ⟨#[]⟩, [], 0, 0, false⟩ (.slice none 0 0)] w' fun e w'' => e = .returned (.bool (eqP ⟨c, n, 4, p, s, l, 0, 0, false⟩ ⟨c, n, 4, 0, ⟨#[]⟩, [], 0, 0, false⟩)) ∧ Below w'.heap.size w' w'') := fun w' hb => opEqual_any (h.below hb) (rng_nil _)
  clear h
  simp only [opVal] at *
  go_enter Tryz.func37, Tryz.ntmps37
  go_wp2_with fail
  have hw2 := (Below.refl w.heap.size w).alloc (Nat.le_refl _) (Obj.cells #[.int .i64 c, .int .i64 n, .int .i64 4, .int .i64 p, .string s, .slice a m cap, .int .i64 0, .int .i64 0, .bool false] 34)
  refine (HE.out _ hw2).mono ?_
  rintro e w1 ⟨rfl, hb1⟩
  have hB := hw2.trans (hb1.mono hw2.size)
  clear hw2 hb1 HE
  go_wp2_with fail
  go_ret
  exact ⟨rfl, hB⟩
theorem hasExtra_any {o : OpV} {w : World} {a : Option Addr} {m cap : Nat} (h : Rng w a m cap o.l) (h1 : 1 ≤ o.k) (h4 : o.k ≤ 4) :
    Calls Tryz.prog 37 #[opVal o (.slice a m cap)] w fun e w' => e = .returned (.bool (extra o)) ∧ Below w.heap.size w w' := by
  obtain ⟨c, n, k, p, s, l, tc, tn, on⟩ := o
  simp only at h h1 h4
  have : k = 1 ∨ k = 2 ∨ k = 3 ∨ k = 4 := by omega
  rcases this with rfl | rfl | rfl | rfl
  · exact hasExtra_1 h
  · exact hasExtra_2 h
  · exact hasExtra_3 h
  · exact hasExtra_4 h
end Go.Proofs.YtmdnmhdimfglaaaGreatDoor

namespace Go.Proofs.YtmdnmhdimfglaaaGreatDoor
open Go.RowKit Go.Lib Sp
set_option maxRecDepth 100000
set_option maxHeartbeats 2000000 in
theorem checkTarget_any {o : OpV} {v : Value} (w : World) :
    Calls Tryz.prog 39 #[opVal o v] w fun e w' => e = .returned (.int .i64 (tgtP o)) ∧ Below w.heap.size w w' := by
  have HI := run_eqID
  have HG : Tryz.prog.eqGuardType Tryz.prog.depth 28 = false := by kernel_rfl
  obtain ⟨c, n, k, p, s, l, tc, tn, on⟩ := o
  obtain ⟨b, hb⟩ : ∃ b, isIdP tc tn = b := ⟨_, rfl⟩
  have HD : Hid (∀ w' : World, Calls Tryz.prog 36 #[.agg #[.int .i64 tc, .int .i64 tn]] w' fun e w'' => e = .returned (.bool b) ∧ Below w'.heap.size w' w'') := fun w' => hb ▸ isID_any tc tn w'
  obtain ⟨r, hr⟩ : ∃ r, tgtP ⟨c, n, k, p, s, l, tc, tn, on⟩ = r := ⟨_, rfl⟩
  rw [hr]
  simp only [tgtP, hb] at hr
  clear hb
  simp only [opVal]
  have hw2 := (Below.refl w.heap.size w).alloc (Nat.le_refl _) (Obj.cells #[.int .i64 c, .int .i64 n, .int .i64 k, .int .i64 p, .string s, v, .int .i64 tc, .int .i64 tn, .bool on] 34)
  cases b with
  | false =>
    rw [if_pos (.inl rfl)] at hr; subst hr
    go_enter Tryz.func39, Tryz.ntmps39
    go_wp2_with fail
    refine (HD.out _).mono ?_
    rintro e w1 ⟨rfl, hb1⟩
    have hB := hw2.trans (hb1.mono hw2.size)
    clear hw2 hb1 HD
    go_wp2_with fail
    go_ret
    exact ⟨rfl, hB⟩
  | true =>
    have hcs : (tc = c ∧ tn = n) ∨ ¬ (tc = c ∧ tn = n) := Classical.em _
    rcases hcs with h | h
    · rw [if_pos (.inr h)] at hr; subst hr
      obtain ⟨rfl, rfl⟩ := h
      go_enter Tryz.func39, Tryz.ntmps39
      go_wp2_with fail
      refine (HD.out _).mono ?_
      rintro e w1 ⟨rfl, hb1⟩
      have hB := hw2.trans (hb1.mono hw2.size)
      have d0 : w1.cell? ⟨w.heap.size, 0, none⟩ = some (.int .i64 tc) := (hb1.cell (p := ⟨w.heap.size, 0, none⟩) (by simp)).trans (World.cell?_alloc_mark ..)
      have d1 : w1.cell? ⟨w.heap.size, 1, none⟩ = some (.int .i64 tn) := (hb1.cell (p := ⟨w.heap.size, 1, none⟩) (by simp)).trans (World.cell?_alloc_mark ..)
      have d6 : w1.cell? ⟨w.heap.size, 6, none⟩ = some (.int .i64 tc) := (hb1.cell (p := ⟨w.heap.size, 6, none⟩) (by simp)).trans (World.cell?_alloc_mark ..)
      have d7 : w1.cell? ⟨w.heap.size, 7, none⟩ = some (.int .i64 tn) := (hb1.cell (p := ⟨w.heap.size, 7, none⟩) (by simp)).trans (World.cell?_alloc_mark ..)
      clear hw2 hb1 HD
      go_wp2_with fail
      go_ret
      exact ⟨rfl, hB⟩
    · rw [if_neg (by rintro (h' | h') <;> first | exact h h' | cases h')] at hr; subst hr
      have ht : (tc == c && tn == n) = false := by
        rw [Bool.and_eq_false_iff]
        by_cases h1 : tc = c
        · right; exact beq_eq_false_iff_ne.2 fun e => h ⟨h1, e⟩
        · left; exact beq_eq_false_iff_ne.2 h1
      have HI2 : ∀ w, (Op.equalIn 10000 28 (.agg #[.int .i64 tc, .int .i64 tn]) (.agg #[.int .i64 c, .int .i64 n])).run Tryz.prog w = .ok false w := fun w => by rw [HI, ht]
      clear h ht HI
      go_enter Tryz.func39, Tryz.ntmps39
      go_wp2_with fail
      refine (HD.out _).mono ?_
      rintro e w1 ⟨rfl, hb1⟩
      have hB := hw2.trans (hb1.mono hw2.size)
      have d0 : w1.cell? ⟨w.heap.size, 0, none⟩ = some (.int .i64 c) := (hb1.cell (p := ⟨w.heap.size, 0, none⟩) (by simp)).trans (World.cell?_alloc_mark ..)
      have d1 : w1.cell? ⟨w.heap.size, 1, none⟩ = some (.int .i64 n) := (hb1.cell (p := ⟨w.heap.size, 1, none⟩) (by simp)).trans (World.cell?_alloc_mark ..)
      have d6 : w1.cell? ⟨w.heap.size, 6, none⟩ = some (.int .i64 tc) := (hb1.cell (p := ⟨w.heap.size, 6, none⟩) (by simp)).trans (World.cell?_alloc_mark ..)
      have d7 : w1.cell? ⟨w.heap.size, 7, none⟩ = some (.int .i64 tn) := (hb1.cell (p := ⟨w.heap.size, 7, none⟩) (by simp)).trans (World.cell?_alloc_mark ..)
      clear hw2 hb1 HD
      go_wp2_with fail
      go_ret
      exact ⟨rfl, hB⟩
theorem chk_nonneg (s : ByteArray) : ∀ (b pos n : Nat), 0 ≤ (chk s b pos n).1
  | 0, _, n => by simp only [Go.Proofs.YtmdnmhdimfglaaaGreatDoor.chk]; omega
  | b + 1, pos, n => by
    simp only [Go.Proofs.YtmdnmhdimfglaaaGreatDoor.chk]
    split
    · split
      · exact Int.le_refl _
      · split
        · exact chk_nonneg s b _ _
        · exact Int.le_refl _
    · simp only; omega
theorem check_nonneg (s : ByteArray) : 0 ≤ (check s).1 := chk_nonneg s _ _ _
set_option maxHeartbeats 2000000 in
theorem checkInsert_any {o : OpV} {v : Value} {total : Int} (h0 : 0 ≤ total) (h1 : total ≤ 1048576) (hs : o.s.size ≤ 9223372036854775807) (w : World) (hw : Bar w) :
    Calls Tryz.prog 38 #[opVal o v, .int .i64 total] w fun e w' => e = .returned (.int .i64 (insP o total)) ∧ Below w.heap.size w w' := by
  obtain ⟨c, n, k, p, s, l, tc, tn, on⟩ := o
  obtain ⟨x, y, z, hc⟩ : ∃ x y z, check s = (x, y, z) := ⟨_, _, _, rfl⟩
  have hx0 : 0 ≤ x := by have := check_nonneg s; rw [hc] at this; exact this
  have hw2 := (Below.refl w.heap.size w).alloc (Nat.le_refl _) (Obj.cells #[.int .i64 c, .int .i64 n, .int .i64 k, .int .i64 p, .string s, v, .int .i64 tc, .int .i64 tn, .bool on] 34)
  have HC := check_bar hs hc _ (hw.below hw2)
  obtain ⟨r, hr⟩ : ∃ r, insP ⟨c, n, k, p, s, l, tc, tn, on⟩ total = r := ⟨_, rfl⟩
  rw [hr]
  simp only [insP, hc] at hr
  clear hc hs hw
  simp only [opVal]
  have HC2 : Hid (Calls Tryz.prog 67 #[.string s] (w.alloc (Obj.cells #[.int .i64 c, .int .i64 n, .int .i64 k, .int .i64 p, .string s, v, .int .i64 tc, .int .i64 tn, .bool on] 34)) fun e w' => e = .returned (.tuple #[.int .i64 x, .int .i64 y, .int .i64 z]) ∧ Below (w.alloc (Obj.cells #[.int .i64 c, .int .i64 n, .int .i64 k, .int .i64 p, .string s, v, .int .i64 tc, .int .i64 tn, .bool on] 34)).heap.size (w.alloc (Obj.cells #[.int .i64 c, .int .i64 n, .int .i64 k, .int .i64 p, .string s, v, .int .i64 tc, .int .i64 tn, .bool on] 34)) w') := HC
  clear HC
  go_enter Tryz.func38, Tryz.ntmps38
  go_wp2_with fail
  refine HC2.out.mono ?_
  rintro e w1 ⟨rfl, hb1⟩
  have hB := hw2.trans (hb1.mono hw2.size)
  have d3 : w1.cell? ⟨w.heap.size, 3, none⟩ = some (.int .i64 p) := (hb1.cell (p := ⟨w.heap.size, 3, none⟩) (by simp)).trans (World.cell?_alloc_mark ..)
  clear hw2 hb1 HC2
  by_cases hz : z = 0
  · subst hz
    rw [if_neg (by simp)] at hr
    by_cases hx : x = 0
    · subst hx
      rw [if_pos rfl] at hr; subst hr
      go_wp2_with fail
      go_ret
      exact ⟨rfl, hB⟩
    · rw [if_neg hx] at hr
      have t1 : (x == 0) = false := beq_eq_false_iff_ne.2 hx
      clear hx
      by_cases hl : 256 < x
      · rw [if_pos hl] at hr; subst hr
        go_wp2_with fail
        go_ret
        exact ⟨rfl, hB⟩
      · rw [if_neg hl] at hr
        by_cases hp : p < 0 ∨ total < p
        · rw [if_pos hp] at hr; subst hr
          by_cases hp0 : p < 0
          · clear hp
            go_wp2_with fail
            go_ret
            exact ⟨rfl, hB⟩
          · have hp1 : total < p := by omega
            clear hp
            go_wp2_with fail
            go_ret
            exact ⟨rfl, hB⟩
        · rw [if_neg hp] at hr
          have hp0 : 0 ≤ p := by omega
          have hp1 : p ≤ total := by omega
          clear hp
          by_cases hg : 1048576 < total + x
          · rw [if_pos hg] at hr; subst hr
            go_wp2_with fail
            go_ret
            exact ⟨rfl, hB⟩
          · rw [if_neg hg] at hr; subst hr
            go_wp2_with fail
            go_ret
            exact ⟨rfl, hB⟩
  · rw [if_pos hz] at hr; subst hr
    have t1 : (z == 0) = false := beq_eq_false_iff_ne.2 hz
    clear hz
    go_wp2_with fail
    go_ret
    exact ⟨rfl, hB⟩
end Go.Proofs.YtmdnmhdimfglaaaGreatDoor

namespace Go.Proofs.YtmdnmhdimfglaaaGreatDoor
open Go.RowKit Go.Lib Sp
set_option maxRecDepth 100000
set_option maxHeartbeats 2000000 in
theorem checkRanges_any {o : OpV} {total : Int} {w : World} {a : Option Addr} {m cap : Nat} (h : Rng w a m cap o.l) :
    Calls Tryz.prog 40 #[opVal o (.slice a m cap), .int .i64 total] w fun e w' => e = .returned (.int .i64 (rngP o total)) ∧ Below w.heap.size w w' := by
  obtain ⟨c, n, k, p, s, l, tc, tn, on⟩ := o
  simp only at h
  have hlen := h.len
  have hroom := h.room
  have hmb : m ≤ 9223372036854775807 := by simp only [maxLen] at hroom; omega
  have hw2 := (Below.refl w.heap.size w).alloc (Nat.le_refl _) (Obj.cells #[.int .i64 c, .int .i64 n, .int .i64 k, .int .i64 p, .string s, .slice a m cap, .int .i64 tc, .int .i64 tn, .bool on] 34)
  obtain ⟨x, z, hc⟩ : ∃ x z, checkL l = (x, z) := ⟨_, _, rfl⟩
  have HC := Sp.check_any (h.below hw2)
  rw [hc] at HC
  have HC2 : Hid (Calls Tryz.prog 68 #[.slice a m cap] (w.alloc (Obj.cells #[.int .i64 c, .int .i64 n, .int .i64 k, .int .i64 p, .string s, .slice a m cap, .int .i64 tc, .int .i64 tn, .bool on] 34)) fun e w' => e = .returned (.tuple #[.int .i64 x, .int .i64 z]) ∧ Below (w.alloc (Obj.cells #[.int .i64 c, .int .i64 n, .int .i64 k, .int .i64 p, .string s, .slice a m cap, .int .i64 tc, .int .i64 tn, .bool on] 34)).heap.size (w.alloc (Obj.cells #[.int .i64 c, .int .i64 n, .int .i64 k, .int .i64 p, .string s, .slice a m cap, .int .i64 tc, .int .i64 tn, .bool on] 34)) w') := HC
  clear HC
  obtain ⟨r, hr⟩ : ∃ r, rngP ⟨c, n, k, p, s, l, tc, tn, on⟩ total = r := ⟨_, rfl⟩
  rw [hr]
  simp only [rngP, hc] at hr
  clear hc
  simp only [opVal]
  by_cases hm : m = 0
  · subst hm
    rw [if_pos (List.eq_nil_of_length_eq_zero hlen)] at hr; subst hr
    clear h hlen HC2
    go_enter Tryz.func40, Tryz.ntmps40
    go_wp2_with fail
    go_ret
    exact ⟨rfl, hw2⟩
  · rw [if_neg (fun e => hm (by rw [← hlen, e]; rfl))] at hr
    obtain ⟨i, rfl⟩ : ∃ i, m = i + 1 := ⟨m - 1, by omega⟩
    obtain ⟨g, off, rfl, hg, hc0, hc1⟩ := h.cells i (by omega)
    have hlast : lastHi l = (l.getD i (0, 0)).2 := by unfold lastHi; rw [hlen]; rfl
    rw [hlast] at hr
    obtain ⟨hi, hhi⟩ : ∃ hi, (l.getD i (0, 0)).2 = hi := ⟨_, rfl⟩
    rw [hhi] at hr hc1
    clear hhi hlast hc0 hm
    go_enter Tryz.func40, Tryz.ntmps40
    have t0 : (((i + 1 : Nat) : Int) == 0) = false := beq_eq_false_iff_ne.2 (by omega)
    go_wp2_with fail
    refine HC2.out.mono ?_
    rintro e w1 ⟨rfl, hb1⟩
    have hB := hw2.trans (hb1.mono hw2.size)
    have d5 : w1.cell? ⟨w.heap.size, 5, none⟩ = some (.slice (some ⟨g, off, none⟩) (i + 1) cap) := (hb1.cell (p := ⟨w.heap.size, 5, none⟩) (by simp)).trans (World.cell?_alloc_mark ..)
    have dh : w1.cell? ⟨g, off + i * 2 + 1, none⟩ = some (.int .i64 hi) := (hB.cell (p := ⟨g, off + i * 2 + 1, none⟩) hg).trans hc1
    clear hw2 hb1 HC2 h hc1 hlen
    by_cases hz : z = 0
    · subst hz
      rw [if_neg (by simp)] at hr
      by_cases ht : total < hi
      · rw [if_pos ht] at hr; subst hr
        go_wp2_with fail
        go_ret
        exact ⟨rfl, hB⟩
      · rw [if_neg ht] at hr; subst hr
        go_wp2_with fail
        go_ret
        exact ⟨rfl, hB⟩
    · rw [if_pos hz] at hr; subst hr
      have t1 : (z == 0) = false := beq_eq_false_iff_ne.2 hz
      clear hz
      go_wp2_with fail
      go_ret
      exact ⟨rfl, hB⟩
end Go.Proofs.YtmdnmhdimfglaaaGreatDoor

namespace Go.Proofs.YtmdnmhdimfglaaaGreatDoor
open Go.RowKit Go.Lib Sp
set_option maxRecDepth 100000
set_option maxHeartbeats 4000000 in
theorem opCheck_any {o : OpV} {total : Int} {w : World} {a : Option Addr} {m cap : Nat} (h : Rng w a m cap o.l) (hs : o.s.size ≤ 9223372036854775807) (hw : Bar w) :
    Calls Tryz.prog 17 #[opVal o (.slice a m cap), .int .i64 total] w fun e w' => e = .returned (.int .i64 (opCheck o total)) ∧ Below w.heap.size w w' := by
  have HG : Tryz.prog.eqGuardType Tryz.prog.depth 28 = false := by kernel_rfl
  obtain ⟨c, n, k, p, s, l, tc, tn, on⟩ := o
  simp only at h hs
  have hw2 := (Below.refl w.heap.size w).alloc (Nat.le_refl _) (Obj.cells #[.int .i64 c, .int .i64 n, .int .i64 k, .int .i64 p, .string s, .slice a m cap, .int .i64 tc, .int .i64 tn, .bool on] 34)
  obtain ⟨r, hr⟩ : ∃ r, opCheck ⟨c, n, k, p, s, l, tc, tn, on⟩ total = r := ⟨_, rfl⟩
  rw [hr]
  simp only [opCheck] at hr
  by_cases hT0 : total < 0
  · rw [if_pos (.inl hT0)] at hr; subst hr
    simp only [opVal]
    go_enter Tryz.func17, Tryz.ntmps17
    go_wp2_with fail
    go_ret
    exact ⟨rfl, hw2⟩
  by_cases hT1 : 1048576 < total
  · rw [if_pos (.inr hT1)] at hr; subst hr
    simp only [opVal]
    go_enter Tryz.func17, Tryz.ntmps17
    go_wp2_with fail
    go_ret
    exact ⟨rfl, hw2⟩
  rw [if_neg (by omega)] at hr
  have g0 : 0 ≤ total := by omega
  have g1 : total ≤ 1048576 := by omega
  clear hT0 hT1
  by_cases hK0 : k < 1
  · rw [if_pos (.inl hK0)] at hr; subst hr
    simp only [opVal]
    go_enter Tryz.func17, Tryz.ntmps17
    go_wp2_with fail
    go_ret
    exact ⟨rfl, hw2⟩
  by_cases hK1 : 4 < k
  · rw [if_pos (.inr hK1)] at hr; subst hr
    simp only [opVal]
    go_enter Tryz.func17, Tryz.ntmps17
    go_wp2_with fail
    go_ret
    exact ⟨rfl, hw2⟩
  rw [if_neg (by omega)] at hr
  have k0 : 1 ≤ k := by omega
  have k1 : k ≤ 4 := by omega
  clear hK0 hK1
  obtain ⟨ex, hex⟩ : ∃ ex, extra ⟨c, n, k, p, s, l, tc, tn, on⟩ = ex := ⟨_, rfl⟩
  rw [hex] at hr
  have HX : Hid (∀ w' : World, Below w.heap.size w w' → Calls Tryz.prog 37 #[.agg #[.int .i64 c, .int .i64 n, .int .i64 k, .int .i64 p, .string s, .slice a m cap, .int .i64 tc, .int .i64 tn, .bool on]] w' fun e w'' => e = .returned (.bool ex) ∧ Below w'.heap.size w' w'') := fun w' hb => hex ▸ hasExtra_any (o := ⟨c, n, k, p, s, l, tc, tn, on⟩) (h.below hb) k0 k1
  have HIN : Hid (∀ w' : World, Below w.heap.size w w' → Calls Tryz.prog 38 #[.agg #[.int .i64 c, .int .i64 n, .int .i64 k, .int .i64 p, .string s, .slice a m cap, .int .i64 tc, .int .i64 tn, .bool on], .int .i64 total] w' fun e w'' => e = .returned (.int .i64 (insP ⟨c, n, k, p, s, l, tc, tn, on⟩ total)) ∧ Below w'.heap.size w' w'') := fun w' hb => checkInsert_any (o := ⟨c, n, k, p, s, l, tc, tn, on⟩) g0 g1 hs w' (hw.below hb)
  have HTG : Hid (∀ w' : World, Calls Tryz.prog 39 #[.agg #[.int .i64 c, .int .i64 n, .int .i64 k, .int .i64 p, .string s, .slice a m cap, .int .i64 tc, .int .i64 tn, .bool on]] w' fun e w'' => e = .returned (.int .i64 (tgtP ⟨c, n, k, p, s, l, tc, tn, on⟩)) ∧ Below w'.heap.size w' w'') := fun w' => checkTarget_any (o := ⟨c, n, k, p, s, l, tc, tn, on⟩) w'
  have HRG : Hid (∀ w' : World, Below w.heap.size w w' → Calls Tryz.prog 40 #[.agg #[.int .i64 c, .int .i64 n, .int .i64 k, .int .i64 p, .string s, .slice a m cap, .int .i64 tc, .int .i64 tn, .bool on], .int .i64 total] w' fun e w'' => e = .returned (.int .i64 (rngP ⟨c, n, k, p, s, l, tc, tn, on⟩ total)) ∧ Below w'.heap.size w' w'') := fun w' hb => checkRanges_any (o := ⟨c, n, k, p, s, l, tc, tn, on⟩) (h.below hb)
  clear hex h hs hw
  simp only [opVal]
  by_cases hz : c = 0 ∧ n = 0
  · rw [if_neg (fun hh => hh.1 hz)] at hr
    obtain ⟨rfl, rfl⟩ := hz
    have HI : ∀ w, (Op.equalIn 10000 28 (.agg #[.int .i64 0, .int .i64 0]) (.agg #[.int .i64 0, .int .i64 0])).run Tryz.prog w = .ok true w := fun w => run_eqID w 0 0 0 0
    have hB3 := hw2
    go_enter Tryz.func17, Tryz.ntmps17
    go_wp2_with fail
    refine (HX.out _ hB3).mono ?_
    rintro e w4 ⟨rfl, hb4⟩
    have hB4 := hB3.trans (hb4.mono hB3.size)
    clear  HX
    cases ex with
    | true =>
      rw [if_pos rfl] at hr; subst hr
      clear hb4
      go_wp2_with fail
      go_ret
      exact ⟨rfl, hB4⟩
    | false =>
      rw [if_neg (by simp)] at hr
      by_cases e1 : k = 1
      · rw [if_pos e1] at hr
        subst e1 hr
        have d0 : w4.cell? ⟨w.heap.size, 0, none⟩ = some (.int .i64 0) := (hb4.cell (p := ⟨w.heap.size, 0, none⟩) (by simp)).trans (World.cell?_alloc_mark ..)
        have d1 : w4.cell? ⟨w.heap.size, 1, none⟩ = some (.int .i64 0) := (hb4.cell (p := ⟨w.heap.size, 1, none⟩) (by simp)).trans (World.cell?_alloc_mark ..)
        have d2 : w4.cell? ⟨w.heap.size, 2, none⟩ = some (.int .i64 1) := (hb4.cell (p := ⟨w.heap.size, 2, none⟩) (by simp)).trans (World.cell?_alloc_mark ..)
        have d3 : w4.cell? ⟨w.heap.size, 3, none⟩ = some (.int .i64 p) := (hb4.cell (p := ⟨w.heap.size, 3, none⟩) (by simp)).trans (World.cell?_alloc_mark ..)
        have d4 : w4.cell? ⟨w.heap.size, 4, none⟩ = some (.string s) := (hb4.cell (p := ⟨w.heap.size, 4, none⟩) (by simp)).trans (World.cell?_alloc_mark ..)
        have d5 : w4.cell? ⟨w.heap.size, 5, none⟩ = some (.slice a m cap) := (hb4.cell (p := ⟨w.heap.size, 5, none⟩) (by simp)).trans (World.cell?_alloc_mark ..)
        have d6 : w4.cell? ⟨w.heap.size, 6, none⟩ = some (.int .i64 tc) := (hb4.cell (p := ⟨w.heap.size, 6, none⟩) (by simp)).trans (World.cell?_alloc_mark ..)
        have d7 : w4.cell? ⟨w.heap.size, 7, none⟩ = some (.int .i64 tn) := (hb4.cell (p := ⟨w.heap.size, 7, none⟩) (by simp)).trans (World.cell?_alloc_mark ..)
        have d8 : w4.cell? ⟨w.heap.size, 8, none⟩ = some (.bool on) := (hb4.cell (p := ⟨w.heap.size, 8, none⟩) (by simp)).trans (World.cell?_alloc_mark ..)
        clear hb4
        go_wp2_with fail
        refine (HIN.out _ hB4).mono ?_
        rintro e w5 ⟨rfl, hb5⟩
        have hB5 := hB4.trans (hb5.mono hB4.size)
        clear d0 d1 d2 d3 d4 d5 d6 d7 d8 hb5 hB4
        go_wp2_with fail
        go_ret
        exact ⟨rfl, hB5⟩
      · rw [if_neg e1] at hr
        have t1 : (k == 1) = false := beq_eq_false_iff_ne.2 e1
        by_cases e4 : k = 4
        · rw [if_pos e4] at hr
          subst e4 hr
          clear e1
          have d0 : w4.cell? ⟨w.heap.size, 0, none⟩ = some (.int .i64 0) := (hb4.cell (p := ⟨w.heap.size, 0, none⟩) (by simp)).trans (World.cell?_alloc_mark ..)
          have d1 : w4.cell? ⟨w.heap.size, 1, none⟩ = some (.int .i64 0) := (hb4.cell (p := ⟨w.heap.size, 1, none⟩) (by simp)).trans (World.cell?_alloc_mark ..)
          have d2 : w4.cell? ⟨w.heap.size, 2, none⟩ = some (.int .i64 4) := (hb4.cell (p := ⟨w.heap.size, 2, none⟩) (by simp)).trans (World.cell?_alloc_mark ..)
          have d3 : w4.cell? ⟨w.heap.size, 3, none⟩ = some (.int .i64 p) := (hb4.cell (p := ⟨w.heap.size, 3, none⟩) (by simp)).trans (World.cell?_alloc_mark ..)
          have d4 : w4.cell? ⟨w.heap.size, 4, none⟩ = some (.string s) := (hb4.cell (p := ⟨w.heap.size, 4, none⟩) (by simp)).trans (World.cell?_alloc_mark ..)
          have d5 : w4.cell? ⟨w.heap.size, 5, none⟩ = some (.slice a m cap) := (hb4.cell (p := ⟨w.heap.size, 5, none⟩) (by simp)).trans (World.cell?_alloc_mark ..)
          have d6 : w4.cell? ⟨w.heap.size, 6, none⟩ = some (.int .i64 tc) := (hb4.cell (p := ⟨w.heap.size, 6, none⟩) (by simp)).trans (World.cell?_alloc_mark ..)
          have d7 : w4.cell? ⟨w.heap.size, 7, none⟩ = some (.int .i64 tn) := (hb4.cell (p := ⟨w.heap.size, 7, none⟩) (by simp)).trans (World.cell?_alloc_mark ..)
          have d8 : w4.cell? ⟨w.heap.size, 8, none⟩ = some (.bool on) := (hb4.cell (p := ⟨w.heap.size, 8, none⟩) (by simp)).trans (World.cell?_alloc_mark ..)
          clear hb4
          go_wp2_with fail
          refine (HTG.out _).mono ?_
          rintro e w5 ⟨rfl, hb5⟩
          have hB5 := hB4.trans (hb5.mono hB4.size)
          clear d0 d1 d2 d3 d4 d5 d6 d7 d8 hb5 hB4
          go_wp2_with fail
          go_ret
          exact ⟨rfl, hB5⟩
        · rw [if_neg e4] at hr
          subst hr
          have t4 : (k == 4) = false := beq_eq_false_iff_ne.2 e4
          clear e1 e4
          have d0 : w4.cell? ⟨w.heap.size, 0, none⟩ = some (.int .i64 0) := (hb4.cell (p := ⟨w.heap.size, 0, none⟩) (by simp)).trans (World.cell?_alloc_mark ..)
          have d1 : w4.cell? ⟨w.heap.size, 1, none⟩ = some (.int .i64 0) := (hb4.cell (p := ⟨w.heap.size, 1, none⟩) (by simp)).trans (World.cell?_alloc_mark ..)
          have d2 : w4.cell? ⟨w.heap.size, 2, none⟩ = some (.int .i64 k) := (hb4.cell (p := ⟨w.heap.size, 2, none⟩) (by simp)).trans (World.cell?_alloc_mark ..)
          have d3 : w4.cell? ⟨w.heap.size, 3, none⟩ = some (.int .i64 p) := (hb4.cell (p := ⟨w.heap.size, 3, none⟩) (by simp)).trans (World.cell?_alloc_mark ..)
          have d4 : w4.cell? ⟨w.heap.size, 4, none⟩ = some (.string s) := (hb4.cell (p := ⟨w.heap.size, 4, none⟩) (by simp)).trans (World.cell?_alloc_mark ..)
          have d5 : w4.cell? ⟨w.heap.size, 5, none⟩ = some (.slice a m cap) := (hb4.cell (p := ⟨w.heap.size, 5, none⟩) (by simp)).trans (World.cell?_alloc_mark ..)
          have d6 : w4.cell? ⟨w.heap.size, 6, none⟩ = some (.int .i64 tc) := (hb4.cell (p := ⟨w.heap.size, 6, none⟩) (by simp)).trans (World.cell?_alloc_mark ..)
          have d7 : w4.cell? ⟨w.heap.size, 7, none⟩ = some (.int .i64 tn) := (hb4.cell (p := ⟨w.heap.size, 7, none⟩) (by simp)).trans (World.cell?_alloc_mark ..)
          have d8 : w4.cell? ⟨w.heap.size, 8, none⟩ = some (.bool on) := (hb4.cell (p := ⟨w.heap.size, 8, none⟩) (by simp)).trans (World.cell?_alloc_mark ..)
          clear hb4
          go_wp2_with fail
          refine (HRG.out _ hB4).mono ?_
          rintro e w5 ⟨rfl, hb5⟩
          have hB5 := hB4.trans (hb5.mono hB4.size)
          clear d0 d1 d2 d3 d4 d5 d6 d7 d8 hb5 hB4
          go_wp2_with fail
          go_ret
          exact ⟨rfl, hB5⟩
  · have hz2 : (c == 0 && n == 0) = false := by
      rw [Bool.and_eq_false_iff]
      by_cases h1 : c = 0
      · right; exact beq_eq_false_iff_ne.2 fun e => hz ⟨h1, e⟩
      · left; exact beq_eq_false_iff_ne.2 h1
    have HI : ∀ w, (Op.equalIn 10000 28 (.agg #[.int .i64 c, .int .i64 n]) (.agg #[.int .i64 0, .int .i64 0])).run Tryz.prog w = .ok false w := fun w => by rw [run_eqID, hz2]
    obtain ⟨b, hb⟩ : ∃ b, isIdP c n = b := ⟨_, rfl⟩
    have HD : Hid (∀ w' : World, Calls Tryz.prog 36 #[.agg #[.int .i64 c, .int .i64 n]] w' fun e w'' => e = .returned (.bool b) ∧ Below w'.heap.size w' w'') := fun w' => hb ▸ isID_any c n w'
    rw [hb] at hr
    clear hb hz2
    go_enter Tryz.func17, Tryz.ntmps17
    go_wp2_with fail
    refine (HD.out _).mono ?_
    rintro e w3 ⟨rfl, hb3⟩
    have hB3 := hw2.trans (hb3.mono hw2.size)
    clear HD hw2
    cases b with
    | false =>
      rw [if_pos ⟨hz, rfl⟩] at hr; subst hr
      clear hz hb3
      go_wp2_with fail
      go_ret
      exact ⟨rfl, hB3⟩
    | true =>
      rw [if_neg (by simp)] at hr
      clear hz HI HG
      have f0 : w3.cell? ⟨w.heap.size, 0, none⟩ = some (.int .i64 c) := (hb3.cell (p := ⟨w.heap.size, 0, none⟩) (by simp)).trans (World.cell?_alloc_mark ..)
      have f1 : w3.cell? ⟨w.heap.size, 1, none⟩ = some (.int .i64 n) := (hb3.cell (p := ⟨w.heap.size, 1, none⟩) (by simp)).trans (World.cell?_alloc_mark ..)
      have f2 : w3.cell? ⟨w.heap.size, 2, none⟩ = some (.int .i64 k) := (hb3.cell (p := ⟨w.heap.size, 2, none⟩) (by simp)).trans (World.cell?_alloc_mark ..)
      have f3 : w3.cell? ⟨w.heap.size, 3, none⟩ = some (.int .i64 p) := (hb3.cell (p := ⟨w.heap.size, 3, none⟩) (by simp)).trans (World.cell?_alloc_mark ..)
      have f4 : w3.cell? ⟨w.heap.size, 4, none⟩ = some (.string s) := (hb3.cell (p := ⟨w.heap.size, 4, none⟩) (by simp)).trans (World.cell?_alloc_mark ..)
      have f5 : w3.cell? ⟨w.heap.size, 5, none⟩ = some (.slice a m cap) := (hb3.cell (p := ⟨w.heap.size, 5, none⟩) (by simp)).trans (World.cell?_alloc_mark ..)
      have f6 : w3.cell? ⟨w.heap.size, 6, none⟩ = some (.int .i64 tc) := (hb3.cell (p := ⟨w.heap.size, 6, none⟩) (by simp)).trans (World.cell?_alloc_mark ..)
      have f7 : w3.cell? ⟨w.heap.size, 7, none⟩ = some (.int .i64 tn) := (hb3.cell (p := ⟨w.heap.size, 7, none⟩) (by simp)).trans (World.cell?_alloc_mark ..)
      have f8 : w3.cell? ⟨w.heap.size, 8, none⟩ = some (.bool on) := (hb3.cell (p := ⟨w.heap.size, 8, none⟩) (by simp)).trans (World.cell?_alloc_mark ..)
      go_wp2_with fail
      refine (HX.out _ hB3).mono ?_
      rintro e w4 ⟨rfl, hb4⟩
      have hB4 := hB3.trans (hb4.mono hB3.size)
      clear f0 f1 f2 f3 f4 f5 f6 f7 f8 HX
      cases ex with
      | true =>
        rw [if_pos rfl] at hr; subst hr
        clear hb4
        go_wp2_with fail
        go_ret
        exact ⟨rfl, hB4⟩
      | false =>
        rw [if_neg (by simp)] at hr
        by_cases e1 : k = 1
        · rw [if_pos e1] at hr
          subst e1 hr
          have d0 : w4.cell? ⟨w.heap.size, 0, none⟩ = some (.int .i64 c) := ((hb3.trans (hb4.mono hb3.size)).cell (p := ⟨w.heap.size, 0, none⟩) (by simp)).trans (World.cell?_alloc_mark ..)
          have d1 : w4.cell? ⟨w.heap.size, 1, none⟩ = some (.int .i64 n) := ((hb3.trans (hb4.mono hb3.size)).cell (p := ⟨w.heap.size, 1, none⟩) (by simp)).trans (World.cell?_alloc_mark ..)
          have d2 : w4.cell? ⟨w.heap.size, 2, none⟩ = some (.int .i64 1) := ((hb3.trans (hb4.mono hb3.size)).cell (p := ⟨w.heap.size, 2, none⟩) (by simp)).trans (World.cell?_alloc_mark ..)
          have d3 : w4.cell? ⟨w.heap.size, 3, none⟩ = some (.int .i64 p) := ((hb3.trans (hb4.mono hb3.size)).cell (p := ⟨w.heap.size, 3, none⟩) (by simp)).trans (World.cell?_alloc_mark ..)
          have d4 : w4.cell? ⟨w.heap.size, 4, none⟩ = some (.string s) := ((hb3.trans (hb4.mono hb3.size)).cell (p := ⟨w.heap.size, 4, none⟩) (by simp)).trans (World.cell?_alloc_mark ..)
          have d5 : w4.cell? ⟨w.heap.size, 5, none⟩ = some (.slice a m cap) := ((hb3.trans (hb4.mono hb3.size)).cell (p := ⟨w.heap.size, 5, none⟩) (by simp)).trans (World.cell?_alloc_mark ..)
          have d6 : w4.cell? ⟨w.heap.size, 6, none⟩ = some (.int .i64 tc) := ((hb3.trans (hb4.mono hb3.size)).cell (p := ⟨w.heap.size, 6, none⟩) (by simp)).trans (World.cell?_alloc_mark ..)
          have d7 : w4.cell? ⟨w.heap.size, 7, none⟩ = some (.int .i64 tn) := ((hb3.trans (hb4.mono hb3.size)).cell (p := ⟨w.heap.size, 7, none⟩) (by simp)).trans (World.cell?_alloc_mark ..)
          have d8 : w4.cell? ⟨w.heap.size, 8, none⟩ = some (.bool on) := ((hb3.trans (hb4.mono hb3.size)).cell (p := ⟨w.heap.size, 8, none⟩) (by simp)).trans (World.cell?_alloc_mark ..)
          clear hb4
          go_wp2_with fail
          refine (HIN.out _ hB4).mono ?_
          rintro e w5 ⟨rfl, hb5⟩
          have hB5 := hB4.trans (hb5.mono hB4.size)
          clear d0 d1 d2 d3 d4 d5 d6 d7 d8 hb5 hB4
          go_wp2_with fail
          go_ret
          exact ⟨rfl, hB5⟩
        · rw [if_neg e1] at hr
          have t1 : (k == 1) = false := beq_eq_false_iff_ne.2 e1
          by_cases e4 : k = 4
          · rw [if_pos e4] at hr
            subst e4 hr
            clear e1
            have d0 : w4.cell? ⟨w.heap.size, 0, none⟩ = some (.int .i64 c) := ((hb3.trans (hb4.mono hb3.size)).cell (p := ⟨w.heap.size, 0, none⟩) (by simp)).trans (World.cell?_alloc_mark ..)
            have d1 : w4.cell? ⟨w.heap.size, 1, none⟩ = some (.int .i64 n) := ((hb3.trans (hb4.mono hb3.size)).cell (p := ⟨w.heap.size, 1, none⟩) (by simp)).trans (World.cell?_alloc_mark ..)
            have d2 : w4.cell? ⟨w.heap.size, 2, none⟩ = some (.int .i64 4) := ((hb3.trans (hb4.mono hb3.size)).cell (p := ⟨w.heap.size, 2, none⟩) (by simp)).trans (World.cell?_alloc_mark ..)
            have d3 : w4.cell? ⟨w.heap.size, 3, none⟩ = some (.int .i64 p) := ((hb3.trans (hb4.mono hb3.size)).cell (p := ⟨w.heap.size, 3, none⟩) (by simp)).trans (World.cell?_alloc_mark ..)
            have d4 : w4.cell? ⟨w.heap.size, 4, none⟩ = some (.string s) := ((hb3.trans (hb4.mono hb3.size)).cell (p := ⟨w.heap.size, 4, none⟩) (by simp)).trans (World.cell?_alloc_mark ..)
            have d5 : w4.cell? ⟨w.heap.size, 5, none⟩ = some (.slice a m cap) := ((hb3.trans (hb4.mono hb3.size)).cell (p := ⟨w.heap.size, 5, none⟩) (by simp)).trans (World.cell?_alloc_mark ..)
            have d6 : w4.cell? ⟨w.heap.size, 6, none⟩ = some (.int .i64 tc) := ((hb3.trans (hb4.mono hb3.size)).cell (p := ⟨w.heap.size, 6, none⟩) (by simp)).trans (World.cell?_alloc_mark ..)
            have d7 : w4.cell? ⟨w.heap.size, 7, none⟩ = some (.int .i64 tn) := ((hb3.trans (hb4.mono hb3.size)).cell (p := ⟨w.heap.size, 7, none⟩) (by simp)).trans (World.cell?_alloc_mark ..)
            have d8 : w4.cell? ⟨w.heap.size, 8, none⟩ = some (.bool on) := ((hb3.trans (hb4.mono hb3.size)).cell (p := ⟨w.heap.size, 8, none⟩) (by simp)).trans (World.cell?_alloc_mark ..)
            clear hb4
            go_wp2_with fail
            refine (HTG.out _).mono ?_
            rintro e w5 ⟨rfl, hb5⟩
            have hB5 := hB4.trans (hb5.mono hB4.size)
            clear d0 d1 d2 d3 d4 d5 d6 d7 d8 hb5 hB4
            go_wp2_with fail
            go_ret
            exact ⟨rfl, hB5⟩
          · rw [if_neg e4] at hr
            subst hr
            have t4 : (k == 4) = false := beq_eq_false_iff_ne.2 e4
            clear e1 e4
            have d0 : w4.cell? ⟨w.heap.size, 0, none⟩ = some (.int .i64 c) := ((hb3.trans (hb4.mono hb3.size)).cell (p := ⟨w.heap.size, 0, none⟩) (by simp)).trans (World.cell?_alloc_mark ..)
            have d1 : w4.cell? ⟨w.heap.size, 1, none⟩ = some (.int .i64 n) := ((hb3.trans (hb4.mono hb3.size)).cell (p := ⟨w.heap.size, 1, none⟩) (by simp)).trans (World.cell?_alloc_mark ..)
            have d2 : w4.cell? ⟨w.heap.size, 2, none⟩ = some (.int .i64 k) := ((hb3.trans (hb4.mono hb3.size)).cell (p := ⟨w.heap.size, 2, none⟩) (by simp)).trans (World.cell?_alloc_mark ..)
            have d3 : w4.cell? ⟨w.heap.size, 3, none⟩ = some (.int .i64 p) := ((hb3.trans (hb4.mono hb3.size)).cell (p := ⟨w.heap.size, 3, none⟩) (by simp)).trans (World.cell?_alloc_mark ..)
            have d4 : w4.cell? ⟨w.heap.size, 4, none⟩ = some (.string s) := ((hb3.trans (hb4.mono hb3.size)).cell (p := ⟨w.heap.size, 4, none⟩) (by simp)).trans (World.cell?_alloc_mark ..)
            have d5 : w4.cell? ⟨w.heap.size, 5, none⟩ = some (.slice a m cap) := ((hb3.trans (hb4.mono hb3.size)).cell (p := ⟨w.heap.size, 5, none⟩) (by simp)).trans (World.cell?_alloc_mark ..)
            have d6 : w4.cell? ⟨w.heap.size, 6, none⟩ = some (.int .i64 tc) := ((hb3.trans (hb4.mono hb3.size)).cell (p := ⟨w.heap.size, 6, none⟩) (by simp)).trans (World.cell?_alloc_mark ..)
            have d7 : w4.cell? ⟨w.heap.size, 7, none⟩ = some (.int .i64 tn) := ((hb3.trans (hb4.mono hb3.size)).cell (p := ⟨w.heap.size, 7, none⟩) (by simp)).trans (World.cell?_alloc_mark ..)
            have d8 : w4.cell? ⟨w.heap.size, 8, none⟩ = some (.bool on) := ((hb3.trans (hb4.mono hb3.size)).cell (p := ⟨w.heap.size, 8, none⟩) (by simp)).trans (World.cell?_alloc_mark ..)
            clear hb4
            go_wp2_with fail
            refine (HRG.out _ hB4).mono ?_
            rintro e w5 ⟨rfl, hb5⟩
            have hB5 := hB4.trans (hb5.mono hB4.size)
            clear d0 d1 d2 d3 d4 d5 d6 d7 d8 hb5 hB4
            go_wp2_with fail
            go_ret
            exact ⟨rfl, hB5⟩
end Go.Proofs.YtmdnmhdimfglaaaGreatDoor
