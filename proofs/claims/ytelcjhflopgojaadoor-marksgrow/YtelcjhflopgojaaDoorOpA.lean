import Derived.Test.YtelcjhflopgojaaDoorSpC
import Derived.Test.YtelcjhflopgojaaDoorOpP
import Derived.Test.YtelcjhflopgojaaDoorPosT
namespace Go.Proofs.YtelcjhflopgojaaDoor
open Go.RowKit Go.Lib Sp
set_option maxRecDepth 100000

set_option maxHeartbeats 2000000 in
theorem slicesEq_any {w : World} {a : Option Addr} {n cap : Nat} {l : List (Int × Int)} (h : Rng w a n cap l) {b : Option Addr} {m capb : Nat} {k : List (Int × Int)} (hk : Rng w b m capb k) :
    Calls Tryd.prog 18 #[.slice a n cap, .slice b m capb] w fun e w' => e = .returned (.bool (decide (l = k))) ∧ Below w.heap.size w w' := by
  have hln := h.len
  have hkn := hk.len
  have hnb : n ≤ 9223372036854775807 := by have := h.room; simp only [maxLen] at this; omega
  by_cases hnm : n = m
  · subst hnm
    obtain ⟨r, hr⟩ : ∃ r, decide (l = k) = r := ⟨_, rfl⟩
    have HR : Hid (decide (l = k) = r) := hr
    rw [hr]
    clear hr
    go_enter Tryd.func18, Tryd.ntmps18
    go_wp2_with fail
    go_loopw [5, 13] (fun u i w' => ∃ j : Nat, j ≤ n ∧ i = .int .i64 j ∧ Below w.heap.size w w' ∧ Hid (∀ i, i < j → l.getD i (0, 0) = k.getD i (0, 0))) (fun _ i _ => n - (RowKit.intOf i).toNat)
    case atStart => exact ⟨0, Nat.zero_le _, rfl, Below.refl _ _, fun i hi => by omega⟩
    case round =>
      obtain ⟨j, hjn, rfl, hb, HE⟩ := hrel
      by_cases hj : j < n
      · obtain ⟨g, off, rfl, hg, hc, hd⟩ := h.cells j hj
        obtain ⟨g2, off2, rfl, hg2, hc2, hd2⟩ := hk.cells j hj
        have c0 := (hb.cell (p := ⟨g, off + j * 2, none⟩) hg).trans hc
        have c1 := (hb.cell (p := ⟨g, off + j * 2 + 1, none⟩) hg).trans hd
        have c2 := (hb.cell (p := ⟨g2, off2 + j * 2, none⟩) hg2).trans hc2
        have c3 := (hb.cell (p := ⟨g2, off2 + j * 2 + 1, none⟩) hg2).trans hd2
        clear hc hd hc2 hd2
        by_cases he : l.getD j (0, 0) = k.getD j (0, 0)
        · have HE2 : Hid (∀ i, i < j + 1 → l.getD i (0, 0) = k.getD i (0, 0)) := fun i hi => by
            by_cases e : i = j
            · subst e; exact he
            · exact HE.out i (by omega)
          rw [← he] at c2 c3
          generalize (l.getD j (0, 0)).1 = x at *
          generalize (l.getD j (0, 0)).2 = y at *
          clear he HE
          go_wp2_with fail
          go_quiet (fail)
          go_wp2_with fail
          go_roundw
          case rel => exact ⟨j + 1, by omega, by go_num, below_drewN hb _, HE2⟩
          case measure => simp [RowKit.intOf]; omega
        · have hne : r = false := by
            rw [← HR.out]
            exact decide_eq_false (fun e => he (by rw [e]))
          subst hne
          clear HE HR
          obtain ⟨x, y, hxy⟩ : ∃ x y, l.getD j (0, 0) = (x, y) := ⟨_, _, rfl⟩
          obtain ⟨x2, y2, hxy2⟩ : ∃ x y, k.getD j (0, 0) = (x, y) := ⟨_, _, rfl⟩
          rw [hxy] at c0 c1 he
          rw [hxy2] at c2 c3 he
          simp only at c0 c1 c2 c3
          clear hxy hxy2
          by_cases hx : x = x2
          · subst hx
            have t1 : (y == y2) = false := beq_eq_false_iff_ne.2 (fun e => he (by rw [e]))
            clear he
            go_wp2_with fail
            go_quiet (fail)
            go_wp2_with fail
            go_ret
            exact ⟨rfl, below_drewN hb _⟩
          · have t1 : (x == x2) = false := beq_eq_false_iff_ne.2 hx
            clear he hx
            go_wp2_with fail
            go_quiet (fail)
            go_wp2_with fail
            go_ret
            exact ⟨rfl, below_drewN hb _⟩
      · have hr : r = true := by
          rw [← HR.out]
          refine decide_eq_true (List.ext_getElem (by omega) fun i h1 h2 => ?_)
          have := HE.out i (by omega)
          simpa [List.getD_eq_getElem?_getD, h1, h2] using this
        subst hr
        clear HR HE
        go_wp2_with fail
        go_ret
        exact ⟨rfl, hb⟩
  · have e0 : decide (l = k) = false := decide_eq_false (fun e => by subst e; omega)
    rw [e0]
    have t1 : ((n : Int) == (m : Int)) = false := by simp; omega
    clear e0 hln hkn
    go_enter Tryd.func18, Tryd.ntmps18
    go_wp2_with fail
    go_ret
    exact ⟨rfl, Below.refl _ _⟩
end Go.Proofs.YtelcjhflopgojaaDoor
