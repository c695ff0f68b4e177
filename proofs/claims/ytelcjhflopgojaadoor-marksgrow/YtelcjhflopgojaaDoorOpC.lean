import Derived.Test.YtelcjhflopgojaaDoorOpB
namespace Go.Proofs.YtelcjhflopgojaaDoor
open Go.RowKit Go.Lib Sp
set_option maxRecDepth 100000

def eqP (o x : OpV) : Bool := decide (o.c = x.c ∧ o.n = x.n ∧ o.k = x.k ∧ o.p = x.p ∧ o.s = x.s ∧ o.l = x.l ∧ o.tc = x.tc ∧ o.tn = x.tn ∧ o.on = x.on)
theorem toList_inj {a b : ByteArray} (h : a.toList = b.toList) : a = b := by
  rw [ByteArray.toList_eq, ByteArray.toList_eq] at h
  obtain ⟨⟨x⟩⟩ := a
  obtain ⟨⟨y⟩⟩ := b
  simp at h
  subst h; rfl

set_option maxHeartbeats 2000000 in
theorem opEqual_any {o x : OpV} {w : World} {a b : Option Addr} {n m cap capb : Nat} (h : Rng w a n cap o.l) (hx : Rng w b m capb x.l) :
    Calls Tryd.prog 12 #[opVal o (.slice a n cap), opVal x (.slice b m capb)] w fun e w' => e = .returned (.bool (eqP o x)) ∧ Below w.heap.size w w' := by
  have HI := run_eqID
  have HG : Tryd.prog.eqGuardType Tryd.prog.depth 31 = false := by kernel_rfl
  obtain ⟨c1, n1, k1, p1, s1, l1, tc1, tn1, on1⟩ := o
  obtain ⟨c2, n2, k2, p2, s2, l2, tc2, tn2, on2⟩ := x
  simp only [opVal] at *
  have HS : Hid (∀ w' : World, Below w.heap.size w w' → Calls Tryd.prog 18 #[.slice a n cap, .slice b m capb] w' fun e w'' => e = .returned (.bool (decide (l1 = l2))) ∧ Below w'.heap.size w' w'') := fun w' hb => slicesEq_any (h.below hb) (hx.below hb)
  clear h hx
  obtain ⟨r, hr⟩ : ∃ r, eqP ⟨c1, n1, k1, p1, s1, l1, tc1, tn1, on1⟩ ⟨c2, n2, k2, p2, s2, l2, tc2, tn2, on2⟩ = r := ⟨_, rfl⟩
  rw [hr]
  simp only [eqP] at hr
  by_cases e0 : c1 = c2
  · subst e0
    by_cases e1 : n1 = n2
    · subst e1
      by_cases e2 : k1 = k2
      · subst e2
        by_cases e3 : p1 = p2
        · subst e3
          by_cases e4 : s1 = s2
          · subst e4
            by_cases e5 : l1 = l2
            · subst e5
              by_cases e6 : tc1 = tc2
              · subst e6
                by_cases e7 : tn1 = tn2
                · subst e7
                  by_cases e8 : on1 = on2
                  · subst e8
                    have e6 : decide True = true := rfl
                    rw [decide_eq_true (by simp)] at hr; subst hr
                    go_enter Tryd.func12, Tryd.ntmps12
                    go_wp2_with fail
                    have hw2 := ((Below.refl w.heap.size w).alloc (Nat.le_refl _) (Obj.cells #[.int .i64 c1, .int .i64 n1, .int .i64 k1, .int .i64 p1, .string s1, .slice a n cap, .int .i64 tc1, .int .i64 tn1, .bool on1] 37)).alloc (by simp) (Obj.cells #[.int .i64 c1, .int .i64 n1, .int .i64 k1, .int .i64 p1, .string s1, .slice b m capb, .int .i64 tc1, .int .i64 tn1, .bool on1] 37)
                    refine (HS.out _ hw2).mono ?_
                    rintro e w1 ⟨rfl, hb1⟩
                    have hB := hw2.trans (hb1.mono hw2.size)
                    have d6 : w1.cell? ⟨w.heap.size, 6, none⟩ = some (.int .i64 tc1) := (hb1.cell (p := ⟨w.heap.size, 6, none⟩) (by simp; omega)).trans (World.cell?_alloc2_first ..)
                    have f6 : w1.cell? ⟨w.heap.size + 1, 6, none⟩ = some (.int .i64 tc1) := (hb1.cell (p := ⟨w.heap.size + 1, 6, none⟩) (by simp)).trans (World.cell?_alloc2_new ..)
                    have d7 : w1.cell? ⟨w.heap.size, 7, none⟩ = some (.int .i64 tn1) := (hb1.cell (p := ⟨w.heap.size, 7, none⟩) (by simp; omega)).trans (World.cell?_alloc2_first ..)
                    have f7 : w1.cell? ⟨w.heap.size + 1, 7, none⟩ = some (.int .i64 tn1) := (hb1.cell (p := ⟨w.heap.size + 1, 7, none⟩) (by simp)).trans (World.cell?_alloc2_new ..)
                    have d8 : w1.cell? ⟨w.heap.size, 8, none⟩ = some (.bool on1) := (hb1.cell (p := ⟨w.heap.size, 8, none⟩) (by simp; omega)).trans (World.cell?_alloc2_first ..)
                    have f8 : w1.cell? ⟨w.heap.size + 1, 8, none⟩ = some (.bool on1) := (hb1.cell (p := ⟨w.heap.size + 1, 8, none⟩) (by simp)).trans (World.cell?_alloc2_new ..)
                    clear hw2 hb1 HS
                    go_wp2_with fail
                    go_ret
                    exact ⟨rfl, hB⟩
                  · rw [decide_eq_false (by simp [e8])] at hr; subst hr
                    have t1 : (on1 == on2) = false := beq_eq_false_iff_ne.2 e8
                    clear e8
                    go_enter Tryd.func12, Tryd.ntmps12
                    go_wp2_with fail
                    have hw2 := ((Below.refl w.heap.size w).alloc (Nat.le_refl _) (Obj.cells #[.int .i64 c1, .int .i64 n1, .int .i64 k1, .int .i64 p1, .string s1, .slice a n cap, .int .i64 tc1, .int .i64 tn1, .bool on1] 37)).alloc (by simp) (Obj.cells #[.int .i64 c1, .int .i64 n1, .int .i64 k1, .int .i64 p1, .string s1, .slice b m capb, .int .i64 tc1, .int .i64 tn1, .bool on2] 37)
                    refine (HS.out _ hw2).mono ?_
                    rintro e w1 ⟨rfl, hb1⟩
                    have hB := hw2.trans (hb1.mono hw2.size)
                    have d6 : w1.cell? ⟨w.heap.size, 6, none⟩ = some (.int .i64 tc1) := (hb1.cell (p := ⟨w.heap.size, 6, none⟩) (by simp; omega)).trans (World.cell?_alloc2_first ..)
                    have f6 : w1.cell? ⟨w.heap.size + 1, 6, none⟩ = some (.int .i64 tc1) := (hb1.cell (p := ⟨w.heap.size + 1, 6, none⟩) (by simp)).trans (World.cell?_alloc2_new ..)
                    have d7 : w1.cell? ⟨w.heap.size, 7, none⟩ = some (.int .i64 tn1) := (hb1.cell (p := ⟨w.heap.size, 7, none⟩) (by simp; omega)).trans (World.cell?_alloc2_first ..)
                    have f7 : w1.cell? ⟨w.heap.size + 1, 7, none⟩ = some (.int .i64 tn1) := (hb1.cell (p := ⟨w.heap.size + 1, 7, none⟩) (by simp)).trans (World.cell?_alloc2_new ..)
                    have d8 : w1.cell? ⟨w.heap.size, 8, none⟩ = some (.bool on1) := (hb1.cell (p := ⟨w.heap.size, 8, none⟩) (by simp; omega)).trans (World.cell?_alloc2_first ..)
                    have f8 : w1.cell? ⟨w.heap.size + 1, 8, none⟩ = some (.bool on2) := (hb1.cell (p := ⟨w.heap.size + 1, 8, none⟩) (by simp)).trans (World.cell?_alloc2_new ..)
                    clear hw2 hb1 HS
                    go_wp2_with fail
                    go_ret
                    exact ⟨rfl, hB⟩
                · rw [decide_eq_false (by simp [e7])] at hr; subst hr
                  have t1 : (tn1 == tn2) = false := beq_eq_false_iff_ne.2 e7
                  clear e7
                  go_enter Tryd.func12, Tryd.ntmps12
                  go_wp2_with fail
                  have hw2 := ((Below.refl w.heap.size w).alloc (Nat.le_refl _) (Obj.cells #[.int .i64 c1, .int .i64 n1, .int .i64 k1, .int .i64 p1, .string s1, .slice a n cap, .int .i64 tc1, .int .i64 tn1, .bool on1] 37)).alloc (by simp) (Obj.cells #[.int .i64 c1, .int .i64 n1, .int .i64 k1, .int .i64 p1, .string s1, .slice b m capb, .int .i64 tc1, .int .i64 tn2, .bool on2] 37)
                  refine (HS.out _ hw2).mono ?_
                  rintro e w1 ⟨rfl, hb1⟩
                  have hB := hw2.trans (hb1.mono hw2.size)
                  have d6 : w1.cell? ⟨w.heap.size, 6, none⟩ = some (.int .i64 tc1) := (hb1.cell (p := ⟨w.heap.size, 6, none⟩) (by simp; omega)).trans (World.cell?_alloc2_first ..)
                  have f6 : w1.cell? ⟨w.heap.size + 1, 6, none⟩ = some (.int .i64 tc1) := (hb1.cell (p := ⟨w.heap.size + 1, 6, none⟩) (by simp)).trans (World.cell?_alloc2_new ..)
                  have d7 : w1.cell? ⟨w.heap.size, 7, none⟩ = some (.int .i64 tn1) := (hb1.cell (p := ⟨w.heap.size, 7, none⟩) (by simp; omega)).trans (World.cell?_alloc2_first ..)
                  have f7 : w1.cell? ⟨w.heap.size + 1, 7, none⟩ = some (.int .i64 tn2) := (hb1.cell (p := ⟨w.heap.size + 1, 7, none⟩) (by simp)).trans (World.cell?_alloc2_new ..)
                  have d8 : w1.cell? ⟨w.heap.size, 8, none⟩ = some (.bool on1) := (hb1.cell (p := ⟨w.heap.size, 8, none⟩) (by simp; omega)).trans (World.cell?_alloc2_first ..)
                  have f8 : w1.cell? ⟨w.heap.size + 1, 8, none⟩ = some (.bool on2) := (hb1.cell (p := ⟨w.heap.size + 1, 8, none⟩) (by simp)).trans (World.cell?_alloc2_new ..)
                  clear hw2 hb1 HS
                  go_wp2_with fail
                  go_ret
                  exact ⟨rfl, hB⟩
              · rw [decide_eq_false (by simp [e6])] at hr; subst hr
                have t1 : (tc1 == tc2) = false := beq_eq_false_iff_ne.2 e6
                clear e6
                go_enter Tryd.func12, Tryd.ntmps12
                go_wp2_with fail
                have hw2 := ((Below.refl w.heap.size w).alloc (Nat.le_refl _) (Obj.cells #[.int .i64 c1, .int .i64 n1, .int .i64 k1, .int .i64 p1, .string s1, .slice a n cap, .int .i64 tc1, .int .i64 tn1, .bool on1] 37)).alloc (by simp) (Obj.cells #[.int .i64 c1, .int .i64 n1, .int .i64 k1, .int .i64 p1, .string s1, .slice b m capb, .int .i64 tc2, .int .i64 tn2, .bool on2] 37)
                refine (HS.out _ hw2).mono ?_
                rintro e w1 ⟨rfl, hb1⟩
                have hB := hw2.trans (hb1.mono hw2.size)
                have d6 : w1.cell? ⟨w.heap.size, 6, none⟩ = some (.int .i64 tc1) := (hb1.cell (p := ⟨w.heap.size, 6, none⟩) (by simp; omega)).trans (World.cell?_alloc2_first ..)
                have f6 : w1.cell? ⟨w.heap.size + 1, 6, none⟩ = some (.int .i64 tc2) := (hb1.cell (p := ⟨w.heap.size + 1, 6, none⟩) (by simp)).trans (World.cell?_alloc2_new ..)
                have d7 : w1.cell? ⟨w.heap.size, 7, none⟩ = some (.int .i64 tn1) := (hb1.cell (p := ⟨w.heap.size, 7, none⟩) (by simp; omega)).trans (World.cell?_alloc2_first ..)
                have f7 : w1.cell? ⟨w.heap.size + 1, 7, none⟩ = some (.int .i64 tn2) := (hb1.cell (p := ⟨w.heap.size + 1, 7, none⟩) (by simp)).trans (World.cell?_alloc2_new ..)
                have d8 : w1.cell? ⟨w.heap.size, 8, none⟩ = some (.bool on1) := (hb1.cell (p := ⟨w.heap.size, 8, none⟩) (by simp; omega)).trans (World.cell?_alloc2_first ..)
                have f8 : w1.cell? ⟨w.heap.size + 1, 8, none⟩ = some (.bool on2) := (hb1.cell (p := ⟨w.heap.size + 1, 8, none⟩) (by simp)).trans (World.cell?_alloc2_new ..)
                clear hw2 hb1 HS
                go_wp2_with fail
                go_ret
                exact ⟨rfl, hB⟩
            · rw [decide_eq_false (by simp [e5])] at hr; subst hr
              have t1 : decide (l1 = l2) = false := decide_eq_false e5
              rw [t1] at HS
              clear e5
              go_enter Tryd.func12, Tryd.ntmps12
              go_wp2_with fail
              have hw2 := ((Below.refl w.heap.size w).alloc (Nat.le_refl _) (Obj.cells #[.int .i64 c1, .int .i64 n1, .int .i64 k1, .int .i64 p1, .string s1, .slice a n cap, .int .i64 tc1, .int .i64 tn1, .bool on1] 37)).alloc (by simp) (Obj.cells #[.int .i64 c1, .int .i64 n1, .int .i64 k1, .int .i64 p1, .string s1, .slice b m capb, .int .i64 tc2, .int .i64 tn2, .bool on2] 37)
              refine (HS.out _ hw2).mono ?_
              rintro e w1 ⟨rfl, hb1⟩
              have hB := hw2.trans (hb1.mono hw2.size)
              have d6 : w1.cell? ⟨w.heap.size, 6, none⟩ = some (.int .i64 tc1) := (hb1.cell (p := ⟨w.heap.size, 6, none⟩) (by simp; omega)).trans (World.cell?_alloc2_first ..)
              have f6 : w1.cell? ⟨w.heap.size + 1, 6, none⟩ = some (.int .i64 tc2) := (hb1.cell (p := ⟨w.heap.size + 1, 6, none⟩) (by simp)).trans (World.cell?_alloc2_new ..)
              have d7 : w1.cell? ⟨w.heap.size, 7, none⟩ = some (.int .i64 tn1) := (hb1.cell (p := ⟨w.heap.size, 7, none⟩) (by simp; omega)).trans (World.cell?_alloc2_first ..)
              have f7 : w1.cell? ⟨w.heap.size + 1, 7, none⟩ = some (.int .i64 tn2) := (hb1.cell (p := ⟨w.heap.size + 1, 7, none⟩) (by simp)).trans (World.cell?_alloc2_new ..)
              have d8 : w1.cell? ⟨w.heap.size, 8, none⟩ = some (.bool on1) := (hb1.cell (p := ⟨w.heap.size, 8, none⟩) (by simp; omega)).trans (World.cell?_alloc2_first ..)
              have f8 : w1.cell? ⟨w.heap.size + 1, 8, none⟩ = some (.bool on2) := (hb1.cell (p := ⟨w.heap.size + 1, 8, none⟩) (by simp)).trans (World.cell?_alloc2_new ..)
              clear hw2 hb1 HS
              go_wp2_with fail
              go_ret
              exact ⟨rfl, hB⟩
          · rw [decide_eq_false (by simp [e4])] at hr; subst hr
            have t1 : (s1.toList == s2.toList) = false := beq_eq_false_iff_ne.2 (fun e => e4 (toList_inj e))
            clear e4
            go_enter Tryd.func12, Tryd.ntmps12
            go_wp2_with fail
            go_ret
            exact ⟨rfl, ((Below.refl _ _).alloc (Nat.le_refl _) _).alloc (by simp) _⟩
        · rw [decide_eq_false (by simp [e3])] at hr; subst hr
          have t1 : (p1 == p2) = false := beq_eq_false_iff_ne.2 e3
          clear e3
          go_enter Tryd.func12, Tryd.ntmps12
          go_wp2_with fail
          go_ret
          exact ⟨rfl, ((Below.refl _ _).alloc (Nat.le_refl _) _).alloc (by simp) _⟩
      · rw [decide_eq_false (by simp [e2])] at hr; subst hr
        have t1 : (k1 == k2) = false := beq_eq_false_iff_ne.2 e2
        clear e2
        go_enter Tryd.func12, Tryd.ntmps12
        go_wp2_with fail
        go_ret
        exact ⟨rfl, ((Below.refl _ _).alloc (Nat.le_refl _) _).alloc (by simp) _⟩
    · rw [decide_eq_false (by simp [e1])] at hr; subst hr
      have t1 : (n1 == n2) = false := beq_eq_false_iff_ne.2 e1
      clear e1
      go_enter Tryd.func12, Tryd.ntmps12
      go_wp2_with fail
      go_ret
      exact ⟨rfl, ((Below.refl _ _).alloc (Nat.le_refl _) _).alloc (by simp) _⟩
  · rw [decide_eq_false (by simp [e0])] at hr; subst hr
    have t1 : (c1 == c2) = false := beq_eq_false_iff_ne.2 e0
    clear e0
    go_enter Tryd.func12, Tryd.ntmps12
    go_wp2_with fail
    go_ret
    exact ⟨rfl, ((Below.refl _ _).alloc (Nat.le_refl _) _).alloc (by simp) _⟩
end Go.Proofs.YtelcjhflopgojaaDoor
