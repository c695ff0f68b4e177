import Derived.Test.YtokkodkhkpgebaaDoorKaA
import Derived.Deep.QuietTactic
import Derived.BigQuiet
import Derived.BigRegion
import Derived.Deep.RegionWith
/-! slices.Index, Contains of ids; named; Did. -/
namespace Go.Proofs.YtokkodkhkpgebaaDoor
open Go.RowKit Go.Lib
set_option maxRecDepth 100000

set_option maxHeartbeats 2000000 in
theorem index_any {w : World} {a : Option Addr} {n cap : Nat} {l : List (Int × Int)} (h : Rw idV 2 w a n cap l) (x : Int × Int) :
    Calls Tryd.prog 28 #[.slice a n cap, idA x] w fun e w' => (∃ r : Int, e = .returned (.int .i64 r) ∧ ((x ∈ l ∧ 0 ≤ r) ∨ (¬ x ∈ l ∧ r = -1))) ∧ Below w.heap.size w w' := by
  have hln := h.len
  have hnb : n ≤ 9223372036854775807 := by have := h.room; simp only [maxLen] at this; omega
  have HG : ∀ (w : World) (a b c d : Int), (Op.equalIn 10000 23 (.agg #[.int .i64 a, .int .i64 b]) (.agg #[.int .i64 c, .int .i64 d])).run Tryd.prog w = .ok (a == c && b == d) w := run_eqI
  obtain ⟨x1, x2⟩ := x
  simp only [idA]
  go_enter Tryd.func28, Tryd.ntmps28
  have hnew : (w.alloc (.cells #[.int .i64 x1, .int .i64 x2] 23)).heap[w.heap.size]? = some (.cells #[.int .i64 x1, .int .i64 x2] 23) := heap_alloc_new _ _
  have hB0 : Below w.heap.size w (w.alloc (.cells #[.int .i64 x1, .int .i64 x2] 23)) := (Below.refl _ _).alloc (Nat.le_refl _) _
  go_wp2_with fail
  go_loopw [5, 8] (fun u i w' => ∃ j : Nat, j ≤ n ∧ i = .int .i64 j ∧ Below w.heap.size w w' ∧ w'.heap[w.heap.size]? = some (.cells #[.int .i64 x1, .int .i64 x2] 23) ∧ Hid (∀ i y, i < j → l[i]? = some y → ¬ y = (x1, x2))) (fun _ i _ => n - (RowKit.intOf i).toNat)
  case atStart => exact ⟨0, Nat.zero_le _, rfl, hB0, hnew, fun i y hi => by omega⟩
  case round =>
    obtain ⟨j, hjn, rfl, hb, hq, HE⟩ := hrel
    have c0 : wr.cell? ⟨w.heap.size, 0, none⟩ = some (.int .i64 x1) := by rw [Lib.cell_of_heap hq]; rfl
    have c1 : wr.cell? ⟨w.heap.size, 1, none⟩ = some (.int .i64 x2) := by rw [Lib.cell_of_heap hq]; rfl
    clear hnew hB0
    by_cases hj : j < n
    · obtain ⟨g, off, y, rfl, hg, hy, hcs⟩ := h.at j hj
      have d0 := (hb.cell (p := ⟨g, off + j * 2, none⟩) hg).trans (hcs 0 _ rfl)
      have d1 := (hb.cell (p := ⟨g, off + j * 2 + 1, none⟩) hg).trans (hcs 1 _ rfl)
      obtain ⟨y1, y2⟩ := y
      simp only at d0 d1
      clear hcs
      by_cases he : (y1, y2) = (x1, x2)
      · simp only [Prod.mk.injEq] at he
        obtain ⟨rfl, rfl⟩ := he
        go_wp2_with fail
        go_quiet (fail)
        go_wp2_with fail
        go_ret
        exact ⟨⟨_, rfl, .inl ⟨List.mem_of_getElem? hy, by omega⟩⟩, below_drewN hb _⟩
      · have HE2 : Hid (∀ i y, i < j + 1 → l[i]? = some y → ¬ y = (x1, x2)) := fun i y hi hyi => by
          by_cases e : i = j
          · subst e; rw [hy] at hyi; cases hyi; exact he
          · exact HE.out i y (by omega) hyi
        have t1 : (x1 == y1 && x2 == y2) = false := by
          simp only [Prod.mk.injEq] at he
          simp only [Bool.and_eq_false_iff, beq_eq_false_iff_ne]
          by_cases h1 : x1 = y1
          · right; intro h2; exact he ⟨h1.symm, h2.symm⟩
          · left; exact h1
        clear HE he
        go_wp2_with fail
        go_quiet (fail)
        go_wp2_with fail
        go_roundw
        case rel => exact ⟨j + 1, by omega, by go_num, below_drewN hb _, hq, HE2⟩
        case measure => simp [RowKit.intOf]; omega
    · obtain rfl : j = n := by omega
      go_wp2_with fail
      go_ret
      refine ⟨⟨_, rfl, .inr ⟨fun hm => ?_, rfl⟩⟩, hb⟩
      obtain ⟨i, hi⟩ := List.getElem?_of_mem hm
      exact HE.out i _ (by have := (List.getElem?_eq_some_iff.1 hi).1; omega) hi rfl
theorem contains_any {w : World} {a : Option Addr} {n cap : Nat} {l : List (Int × Int)} (h : Rw idV 2 w a n cap l) (x : Int × Int) :
    Calls Tryd.prog 19 #[.slice a n cap, idA x] w fun e w' => e = .returned (.bool (decide (x ∈ l))) ∧ Below w.heap.size w w' := by
  have HX := index_any (h.below ((Below.refl _ _).alloc (Nat.le_refl _) (.cells #[.int .i64 x.1, .int .i64 x.2] 23))) x
  simp only [idA] at HX ⊢
  go_enter Tryd.func19, Tryd.ntmps19
  go_wp2_with fail
  refine HX.mono ?_
  rintro e w1 ⟨⟨r, rfl, hr⟩, hb1⟩
  have hB : Below w.heap.size w w1 := ((Below.refl _ _).alloc (Nat.le_refl _) _).trans (hb1.mono (by simp))
  clear HX hb1
  rcases hr with ⟨hm, h0⟩ | ⟨hm, rfl⟩
  · go_wp2_with fail
    go_ret
    exact ⟨by simp [hm], hB⟩
  · go_wp2_with fail
    go_ret
    exact ⟨by simp [hm], hB⟩

def namedP (x : Int × Int) : Bool := decide (1 ≤ x.1 ∧ x.1 ≤ 8 ∧ 1 ≤ x.2 ∧ x.2 ≤ 1024)
set_option maxHeartbeats 1000000 in
theorem named_any (x : Int × Int) (w : World) : Calls Tryd.prog 18 #[idA x] w fun e w' => e = .returned (.bool (namedP x)) ∧ Below w.heap.size w w' := by
  obtain ⟨c, n⟩ := x
  obtain ⟨r, hr⟩ : ∃ r, namedP (c, n) = r := ⟨_, rfl⟩
  rw [hr]
  simp only [namedP] at hr
  simp only [idA]
  go_enter Tryd.func18, Tryd.ntmps18
  go_wp2_with fail
  go_quiet (fail)
  by_cases h1 : 1 ≤ c
  · by_cases h2 : c ≤ 8
    · by_cases h3 : 1 ≤ n
      · by_cases h4 : n ≤ 1024
        · rw [decide_eq_true ⟨h1, h2, h3, h4⟩] at hr; subst hr
          go_wp2_with fail
          go_ret
          exact ⟨rfl, below_drewN ((Below.refl _ _).alloc (Nat.le_refl _) _) _⟩
        · rw [decide_eq_false (by omega)] at hr; subst hr
          have d4 : decide (n ≤ 1024) = false := decide_eq_false h4
          clear h4
          go_wp2_with fail
          go_ret
          exact ⟨rfl, below_drewN ((Below.refl _ _).alloc (Nat.le_refl _) _) _⟩
      · rw [decide_eq_false (by omega)] at hr; subst hr
        have d4 : decide (1 ≤ n) = false := decide_eq_false h3
        clear h3
        go_wp2_with fail
        go_ret
        exact ⟨rfl, below_drewN ((Below.refl _ _).alloc (Nat.le_refl _) _) _⟩
    · rw [decide_eq_false (by omega)] at hr; subst hr
      have d4 : decide (c ≤ 8) = false := decide_eq_false h2
      clear h2
      go_wp2_with fail
      go_ret
      exact ⟨rfl, below_drewN ((Below.refl _ _).alloc (Nat.le_refl _) _) _⟩
  · rw [decide_eq_false (by omega)] at hr; subst hr
    have d4 : decide (1 ≤ c) = false := decide_eq_false h1
    clear h1
    go_wp2_with fail
    go_ret
    exact ⟨rfl, below_drewN ((Below.refl _ _).alloc (Nat.le_refl _) _) _⟩
end Go.Proofs.YtokkodkhkpgebaaDoor
