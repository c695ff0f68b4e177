import Derived.Test.YthkfcocakhekaaaDoorXcF
namespace Go.Proofs.YthkfcocakhekaaaDoor
open Go.RowKit Go.Lib
set_option maxRecDepth 100000

/-- ids are compared number by number, at any depth -/
theorem run_eqID2 (w : World) (a b c d : Int) : (Op.equalIn 9999 35 (.agg #[.int .i64 a, .int .i64 b]) (.agg #[.int .i64 c, .int .i64 d])).run Tryd.prog w = .ok (a == c && b == d) w := by
  show (Op.equalIn (9997 + 1 + 1) _ _ _).run _ _ = _
  rw [Op.equalIn]
  simp only [Sem.run_bind, run_underlying Tryd.underlying35, Result.andThen_ok, Tryd.sizeOf3]
  simp [List.range', part, Tryd.isAgg3, Tryd.sizeOf3, run_equalIn_int w _ _ _ _ _ _ Tryd.underlying3, Sem.run_bind, Result.andThen_ok, Sem.run_ite]
  by_cases h1 : a = c <;> by_cases h2 : b = d <;> simp [h1, h2]
theorem run_eqCell (w : World) (a b k h a' b' k' h' : Int) : (Op.equalIn 10000 48 (.agg #[.int .i64 a, .int .i64 b, .int .i64 k, .int .i64 h]) (.agg #[.int .i64 a', .int .i64 b', .int .i64 k', .int .i64 h'])).run Tryd.prog w = .ok ((a == a' && b == b') && k == k' && h == h') w := by
  show (Op.equalIn (9999 + 1) _ _ _).run _ _ = _
  rw [run_equalIn_struct w 9999 48 _ _ (by kernel_rfl) (by kernel_rfl)]
  simp only [Program.fieldsOf, Tryd.underlying48]
  simp [Op.eqFields, part, Tryd.isAgg3, Tryd.sizeOf3, Tryd.isAgg35, Tryd.sizeOf35, run_eqID2, run_equalIn_int w _ _ _ _ _ _ Tryd.underlying3, Sem.run_bind, Result.andThen_ok, Sem.run_ite]
  by_cases h1 : a = a' <;> by_cases h2 : b = b' <;> by_cases h3 : k = k' <;> by_cases h4 : h = h' <;> simp [h1, h2, h3, h4]

set_option maxHeartbeats 4000000 in
theorem equal_any {w : World} {a : Option Addr} {n cap : Nat} {R : List CellW} (h : Rw cellW 4 w a n cap R) {b : Option Addr} {m capb : Nat} {S : List CellW} (hk : Rw cellW 4 w b m capb S) :
    Calls Tryd.prog 18 #[.slice a n cap, .slice b m capb] w fun e w' => e = .returned (.bool (decide (R = S))) ∧ Below w.heap.size w w' := by
  have HG : Tryd.prog.eqGuardType Tryd.prog.depth 48 = false := by kernel_rfl
  have hln := h.len
  have hkn := hk.len
  have hnb : n ≤ 9223372036854775807 := by have := h.room; simp only [maxLen] at this; omega
  by_cases hnm : n = m
  · subst hnm
    obtain ⟨r, hr⟩ : ∃ r, decide (R = S) = r := ⟨_, rfl⟩
    have HR : Hid (decide (R = S) = r) := hr
    rw [hr]
    clear hr
    go_enter Tryd.func18, Tryd.ntmps18
    go_wp2_with fail
    go_loopw [5] (fun i w' => ∃ j : Nat, j ≤ n ∧ i = .int .i64 j ∧ Below w.heap.size w w' ∧ Hid (∀ i, i < j → R[i]? = S[i]?)) (fun i _ => n - (RowKit.intOf i).toNat)
    case atStart => exact ⟨0, Nat.zero_le _, rfl, Below.refl _ _, fun i hi => by omega⟩
    case round =>
      obtain ⟨j, hjn, rfl, hb, HE⟩ := hrel
      by_cases hj : j < n
      · obtain ⟨g, off, x, rfl, hg, hx, hc⟩ := h.at j hj
        obtain ⟨g2, off2, y, rfl, hg2, hy, hc2⟩ := hk.at j hj
        obtain ⟨⟨x0, x1⟩, x2, x3⟩ := x
        obtain ⟨⟨y0, y1⟩, y2, y3⟩ := y
        have c0 := (hb.cell (p := ⟨g, off + j * 4 + 0, none⟩) hg).trans (hc 0 _ rfl)
        have c1 := (hb.cell (p := ⟨g, off + j * 4 + 1, none⟩) hg).trans (hc 1 _ rfl)
        have c2 := (hb.cell (p := ⟨g, off + j * 4 + 2, none⟩) hg).trans (hc 2 _ rfl)
        have c3 := (hb.cell (p := ⟨g, off + j * 4 + 3, none⟩) hg).trans (hc 3 _ rfl)
        have d0 := (hb.cell (p := ⟨g2, off2 + j * 4 + 0, none⟩) hg2).trans (hc2 0 _ rfl)
        have d1 := (hb.cell (p := ⟨g2, off2 + j * 4 + 1, none⟩) hg2).trans (hc2 1 _ rfl)
        have d2 := (hb.cell (p := ⟨g2, off2 + j * 4 + 2, none⟩) hg2).trans (hc2 2 _ rfl)
        have d3 := (hb.cell (p := ⟨g2, off2 + j * 4 + 3, none⟩) hg2).trans (hc2 3 _ rfl)
        simp only [Nat.add_zero] at c0 d0
        have eqc := fun W => run_eqCell W x0 x1 x2 x3 y0 y1 y2 y3
        obtain ⟨q, hq⟩ : ∃ q, ((x0 == y0 && x1 == y1) && x2 == y2 && x3 == y3) = q := ⟨_, rfl⟩
        simp only [hq] at eqc
        have b1 : (j : Int) < (n : Int) := by omega
        have b0 : (0 : Int) ≤ (j : Int) := by omega
        clear hc hc2
        cases q with
        | true =>
          have HE2 : Hid (∀ i, i < j + 1 → R[i]? = S[i]?) := fun i hi => by
            by_cases e : i = j
            · subst e
              rw [hx, hy]
              simp at hq
              obtain ⟨⟨⟨rfl, rfl⟩, rfl⟩, rfl⟩ := hq
              rfl
            · exact HE.out i (by omega)
          clear hq HE hx hy
          go_wp2_with fail
          go_quiet (fail)
          go_wp2_with fail
          go_roundw
          case rel => exact ⟨j + 1, by omega, by go_num, below_drewN hb _, HE2⟩
          case measure => simp [RowKit.intOf]; omega
        | false =>
          have hne : r = false := by
            rw [← HR.out]
            refine decide_eq_false (fun e => ?_)
            rw [e, hy] at hx
            cases hx
            simp at hq
          subst hne
          clear HE HR hq hx hy
          go_wp2_with fail
          go_quiet (fail)
          go_wp2_with fail
          go_ret
          exact ⟨rfl, below_drewN hb _⟩
      · have hr : r = true := by
          rw [← HR.out]
          refine decide_eq_true (List.ext_getElem? fun i => ?_)
          by_cases hi : i < n
          · exact HE.out i (by omega)
          · rw [List.getElem?_eq_none (by omega), List.getElem?_eq_none (by omega)]
        subst hr
        clear HR HE
        go_wp2_with fail
        go_ret
        exact ⟨rfl, hb⟩
  · have e0 : decide (R = S) = false := decide_eq_false (fun e => by subst e; omega)
    rw [e0]
    have t1 : ((n : Int) == (m : Int)) = false := by simp; omega
    clear e0 hln hkn
    go_enter Tryd.func18, Tryd.ntmps18
    go_wp2_with fail
    go_ret
    exact ⟨rfl, Below.refl _ _⟩
end Go.Proofs.YthkfcocakhekaaaDoor
