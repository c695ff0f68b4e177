import Derived.Test.YtmdnmhdimfglaaaGreatDoorGr6
import Derived.Test.YtmdnmhdimfglaaaGreatDoorGaI
import Derived.Test.YtmdnmhdimfglaaaGreatDoorGaJ
import Derived.Test.YtmdnmhdimfglaaaGreatDoorGaO
namespace Go.Proofs.YtmdnmhdimfglaaaGreatDoor
open Go.RowKit Go.Lib Sp
set_option maxRecDepth 100000
set_option maxHeartbeats 2000000 in
theorem gSame_any {w : World} {a : Option Addr} {n cap : Nat} {l : List (Int × Int)} (h : Rng w a n cap l) {b : Option Addr} {m capb : Nat} {k : List (Int × Int)} (hk : Rng w b m capb k) :
    Calls Tryz.prog 91 #[.slice a n cap, .slice b m capb] w fun e w' => e = .returned (.bool (decide (l = k))) ∧ Below w.heap.size w w' := by
  have hln := h.len
  have hkn := hk.len
  have hnb : n ≤ 9223372036854775807 := by have := h.room; simp only [maxLen] at this; omega
  by_cases hnm : n = m
  · subst hnm
    obtain ⟨r, hr⟩ : ∃ r, decide (l = k) = r := ⟨_, rfl⟩
    have HR : Hid (decide (l = k) = r) := hr
    rw [hr]
    clear hr
    go_enter Tryz.func91, Tryz.ntmps91
    go_wp2_with fail
    go_loopw [5] (fun i w' => ∃ j : Nat, j ≤ n ∧ i = .int .i64 j ∧ Below w.heap.size w w' ∧ Hid (∀ i, i < j → l.getD i (0, 0) = k.getD i (0, 0))) (fun i _ => n - (RowKit.intOf i).toNat)
    case atStart => exact ⟨0, Nat.zero_le _, rfl, Below.refl _ _, fun i hi => by omega⟩
    case round =>
      obtain ⟨j, hjn, rfl, hb, HE⟩ := hrel
      by_cases hj : j < n
      · obtain ⟨g, off, rfl, hg, hc, hd⟩ := h.cells j hj
        obtain ⟨g2, off2, rfl, hg2, hc2, hd2⟩ := hk.cells j hj
        have c0 := (hb.cell (p := ⟨g, off + j * 2, none⟩) hg).trans hc
        have c1 := (hb.cell (p := ⟨g, off + j * 2 + 1, none⟩) hg).trans hd
        have c2 := (hb.cell (p := ⟨g2, off2 + j * 2, none⟩) hg2).trans hc2
        have c3 := (hb.cell (p := ⟨g2, off2 + j * 2 + 1, none⟩) hg2).trans hd2
        clear hc hd hc2 hd2
        by_cases he : l.getD j (0, 0) = k.getD j (0, 0)
        · have HE2 : Hid (∀ i, i < j + 1 → l.getD i (0, 0) = k.getD i (0, 0)) := fun i hi => by
            by_cases e : i = j
            · subst e; exact he
            · exact HE.out i (by omega)
          rw [← he] at c2 c3
          generalize (l.getD j (0, 0)).1 = x at *
          generalize (l.getD j (0, 0)).2 = y at *
          have u1 : (x != x) = false := bne_self_eq_false x
          have u2 : (y != y) = false := bne_self_eq_false y
          clear he HE
          go_wp2_with fail
          go_quiet (fail)
          go_wp2_with fail
          go_roundw
          case rel => exact ⟨j + 1, by omega, by go_num, below_drewN hb _, HE2⟩
          case measure => simp [RowKit.intOf]; omega
        · have hne : r = false := by
            rw [← HR.out]
            exact decide_eq_false (fun e => he (by rw [e]))
          subst hne
          clear HE HR
          obtain ⟨x, y, hxy⟩ : ∃ x y, l.getD j (0, 0) = (x, y) := ⟨_, _, rfl⟩
          obtain ⟨x2, y2, hxy2⟩ : ∃ x y, k.getD j (0, 0) = (x, y) := ⟨_, _, rfl⟩
          rw [hxy] at c0 c1 he
          rw [hxy2] at c2 c3 he
          simp only at c0 c1 c2 c3
          clear hxy hxy2
          by_cases hx : x = x2
          · subst hx
            have t1 : (y != y2) = true := bne_iff_ne.2 (fun e => he (by rw [e]))
            have u1 : (x != x) = false := bne_self_eq_false x
            clear he
            go_wp2_with fail
            go_quiet (fail)
            go_wp2_with fail
            go_ret
            exact ⟨rfl, below_drewN hb _⟩
          · have t1 : (x != x2) = true := bne_iff_ne.2 hx
            clear he hx
            go_wp2_with fail
            go_quiet (fail)
            go_wp2_with fail
            go_ret
            exact ⟨rfl, below_drewN hb _⟩
      · have hr : r = true := by
          rw [← HR.out]
          refine decide_eq_true (List.ext_getElem (by omega) fun i h1 h2 => ?_)
          have := HE.out i (by omega)
          simpa [List.getD_eq_getElem?_getD, h1, h2] using this
        subst hr
        clear HR HE
        go_wp2_with fail
        go_ret
        exact ⟨rfl, hb⟩
  · have e0 : decide (l = k) = false := decide_eq_false (fun e => by subst e; omega)
    rw [e0]
    have t1 : ((n : Int) != (m : Int)) = true := bne_iff_ne.2 (by omega)
    clear e0 hln hkn
    go_enter Tryz.func91, Tryz.ntmps91
    go_wp2_with fail
    go_ret
    exact ⟨rfl, Below.refl _ _⟩
end Go.Proofs.YtmdnmhdimfglaaaGreatDoor

namespace Go.Proofs.YtmdnmhdimfglaaaGreatDoor
open Go.RowKit Go.Lib
set_option maxRecDepth 100000
set_option maxHeartbeats 4000000 in
theorem gEqual_self {o : OpV} {w : World} {a b : Option Addr} {n m cap capb : Nat} (h : Sp.Rng w a n cap o.l) (hk : Sp.Rng w b m capb o.l) :
    Calls Tryz.prog 75 #[opVal o (.slice a n cap), opVal o (.slice b m capb)] w fun e w' => e = .returned (.bool true) ∧ Below w.heap.size w w' := by
  obtain ⟨c1, n1, k1, p1, s1, l1, tc1, tn1, on1⟩ := o
  simp only [opVal] at *
  have HS : Hid (∀ w' : World, Below w.heap.size w w' → Calls Tryz.prog 91 #[.slice a n cap, .slice b m capb] w' fun e w'' => e = .returned (.bool true) ∧ Below w'.heap.size w' w'') := fun w' hb => by
    have := gSame_any (h.below hb) (hk.below hb)
    rwa [decide_eq_true rfl] at this
  clear h hk
  go_enter Tryz.func75, Tryz.ntmps75
  go_wp2_with fail
  generalize hW0 : (w.alloc (Obj.cells #[.int .i64 c1, .int .i64 n1, .int .i64 k1, .int .i64 p1, .string s1, .slice a n cap, .int .i64 tc1, .int .i64 tn1, .bool on1] 34)).alloc (Obj.cells #[.int .i64 c1, .int .i64 n1, .int .i64 k1, .int .i64 p1, .string s1, .slice b m capb, .int .i64 tc1, .int .i64 tn1, .bool on1] 34) = W0
  have hX : W0.heap[w.heap.size]? = some (Obj.cells #[.int .i64 c1, .int .i64 n1, .int .i64 k1, .int .i64 p1, .string s1, .slice a n cap, .int .i64 tc1, .int .i64 tn1, .bool on1] 34) := by rw [← hW0]; exact (Below.heap_alloc _ _ _ (by simp)).trans (alloc_last _ _ _ rfl)
  have hZ : W0.heap[w.heap.size + 1]? = some (Obj.cells #[.int .i64 c1, .int .i64 n1, .int .i64 k1, .int .i64 p1, .string s1, .slice b m capb, .int .i64 tc1, .int .i64 tn1, .bool on1] 34) := by rw [← hW0]; exact alloc_last _ _ _ (by simp)
  have hB0 : Below w.heap.size w W0 := by rw [← hW0]; exact ((Below.refl w.heap.size w).alloc (Nat.le_refl _) _).alloc (by simp) _
  have hlt : w.heap.size + 1 < W0.heap.size := (Array.getElem?_eq_some_iff.1 hZ).1
  clear hW0
  refine (HS.out _ hB0).mono ?_
  rintro e w1 ⟨rfl, hb1⟩
  have hX1 := (hb1.block _ (by omega)).trans hX
  have hZ1 := (hb1.block _ (by omega)).trans hZ
  have hB := hB0.trans (hb1.mono hB0.size)
  obtain ⟨d0, d1, d2, d3, d4, d5, d6, d7, d8⟩ := box9 hX1
  obtain ⟨f0, f1, f2, f3, f4, f5, f6, f7, f8⟩ := box9 hZ1
  clear hX hZ hX1 hZ1 hB0 hb1 HS hlt
  have e0 : (c1 == c1) = true := beq_self_eq_true _
  have e1 : (n1 == n1) = true := beq_self_eq_true _
  have e2 : (k1 == k1) = true := beq_self_eq_true _
  have e3 : (p1 == p1) = true := beq_self_eq_true _
  have e5 : (tc1 == tc1) = true := beq_self_eq_true _
  have e6 : (tn1 == tn1) = true := beq_self_eq_true _
  have e7 : (on1 == on1) = true := beq_self_eq_true _
  go_wp2_with fail
  go_ret
  exact ⟨rfl, hB⟩
set_option maxHeartbeats 4000000 in
theorem sameOp_self {o : OpV} {w : World} {a b : Option Addr} {n m cap capb : Nat} (h : Sp.Rng w a n cap o.l) (hk : Sp.Rng w b m capb o.l) :
    Calls Tryz.prog 50 #[opVal o (.slice a n cap), opVal o (.slice b m capb)] w fun e w' => e = .returned (.bool true) ∧ Below w.heap.size w w' := by
  have HE : Hid (∀ W, Below w.heap.size w W → Calls Tryz.prog 75 #[opVal o (.slice a n cap), opVal o (.slice b m capb)] W fun e w' => e = .returned (.bool true) ∧ Below W.heap.size W w') := fun W hb => gEqual_self (h.below hb) (hk.below hb)
  obtain ⟨c1, n1, k1, p1, s1, l1, tc1, tn1, on1⟩ := o
  simp only [opVal] at *
  clear h hk
  have hB : Below w.heap.size w ((w.alloc (Obj.cells #[.int .i64 c1, .int .i64 n1, .int .i64 k1, .int .i64 p1, .string s1, .slice a n cap, .int .i64 tc1, .int .i64 tn1, .bool on1] 34)).alloc (Obj.cells #[.int .i64 c1, .int .i64 n1, .int .i64 k1, .int .i64 p1, .string s1, .slice b m capb, .int .i64 tc1, .int .i64 tn1, .bool on1] 34)) := ((Below.refl w.heap.size w).alloc (Nat.le_refl _) _).alloc (by simp) _
  go_enter Tryz.func50, Tryz.ntmps50
  go_wp2_with fail
  refine (HE.out _ hB).mono ?_
  rintro e w1 ⟨rfl, hb1⟩
  have hB1 := hB.trans (hb1.mono hB.size)
  go_wp2_with fail
  go_ret
  exact ⟨rfl, hB1⟩
end Go.Proofs.YtmdnmhdimfglaaaGreatDoor
