import Derived.Test.YteidmfmkdmggoaaDeA
import Derived.Test.YteidmfmkdmggoaaDcG
/-! DiskApart, where a limit is refused. -/
namespace Go.Proofs.Yteidmfmkdmggoaa
open Go.RowKit Go.Lib Go.Sort Go.Shelf
set_option maxRecDepth 100000

set_option maxHeartbeats 4000000 in
theorem diskApart_bad1 {w : World} (L : Int) (hL : L < 0 ∨ 1099511627776 < L) (m0 : Nat) (hm0 : m0 ≤ 1099511627776) (fa : Option Addr) (fl fc : Nat) (oa : Option Addr) (on oc : Nat) (ga : Option Addr) (gl gc : Nat) (ta : Option Addr) (tn tc : Nat) :
    Calls Try.prog 7 #[.agg #[.int .i64 L, .slice fa fl fc, .slice oa on oc], .agg #[.int .i64 (m0 : Int), .slice ga gl gc, .slice ta tn tc]] w fun e w' => e = .returned (.bool true) ∧ Below w.heap.size w w' := by
  have HNU : Hid (∀ x w, Calls Try.prog 10 #[.int .i64 x] w fun e w' => e = .returned (.int .i64 x) ∧ w' = w) := num_any
  obtain ⟨W1, hW1⟩ : ∃ W1, w.alloc (.cells #[.int .i64 L, .slice fa fl fc, .slice oa on oc] 50) = W1 := ⟨_, rfl⟩
  obtain ⟨W0, hW0⟩ : ∃ W0, W1.alloc (.cells #[.int .i64 (m0 : Int), .slice ga gl gc, .slice ta tn tc] 50) = W0 := ⟨_, rfl⟩
  have hs1 : W1.heap.size = w.heap.size + 1 := by rw [← hW1, World.size_alloc]
  have hs0 : W0.heap.size = w.heap.size + 2 := by rw [← hW0, World.size_alloc, hs1]
  have hb0 : Below w.heap.size w W0 := by rw [← hW0, ← hW1]; exact ((Below.refl _ _).alloc (Nat.le_refl _) _).alloc (by rw [World.size_alloc]; omega) _
  have hq1 : W1.heap[w.heap.size]? = some (.cells #[.int .i64 L, .slice fa fl fc, .slice oa on oc] 50) := by rw [← hW1]; exact (MapKept.heap_alloc w _).1
  have hq0 : W0.heap[w.heap.size]? = some (.cells #[.int .i64 L, .slice fa fl fc, .slice oa on oc] 50) := by rw [← hW0]; exact ((MapKept.heap_alloc W1 _).2 _ (by omega)).trans hq1
  have hqt : W0.heap[W1.heap.size]? = some (.cells #[.int .i64 (m0 : Int), .slice ga gl gc, .slice ta tn tc] 50) := by rw [← hW0]; exact (MapKept.heap_alloc W1 _).1
  have HW : Hid (W0.heap[w.heap.size]? = some (.cells #[.int .i64 L, .slice fa fl fc, .slice oa on oc] 50) ∧ W0.heap[W1.heap.size]? = some (.cells #[.int .i64 (m0 : Int), .slice ga gl gc, .slice ta tn tc] 50) ∧ w.heap.size < W0.heap.size ∧ W1.heap.size < W0.heap.size) := ⟨hq0, hqt, by omega, by omega⟩
  have HB0 : Hid (Below w.heap.size w W0) := hb0
  have HZ0 : Hid (Below W0.heap.size W0 W0) := Below.refl _ _
  obtain ⟨s0, s1, s2⟩ := box3 hq0
  obtain ⟨t0, t1, t2⟩ := box3 hqt
  have HS : Hid (∀ w, Calls Try.prog 9 #[.int .i64 L] w fun e w' => e = .returned (.tuple #[.pointer none, .int .i64 12]) ∧ w' = w) := new_bad L hL
  have HT : Hid (∀ w, Calls Try.prog 9 #[.int .i64 (m0 : Int)] w fun e w' => e = .returned (.tuple #[.pointer (some ⟨w.heap.size + 1, 0, none⟩), .int .i64 0]) ∧ Below w.heap.size w w') := fun w => (diskNew_any m0 hm0 w).mono (fun e w' h => ⟨h.1, h.2.2⟩)
  have g1 : ¬ ((m0 : Int) < 0) := by omega
  have g2 : ¬ ((1099511627776 : Int) < (m0 : Int)) := by omega
  clear hs1 hs0 hb0 hq1 hq0 hqt
  clear hm0
  by_cases h1 : L < 0
  · clear hL
    go_enter Try.func7, Try.ntmps7
    go_wp2_with fail
    refine (HS.out _).mono ?_
    rintro e wz ⟨rfl, hz⟩
    rw [hz]
    clear hz wz
    go_wp2_with fail
    refine (HS.out _).mono ?_
    rintro e wz ⟨rfl, hz⟩
    rw [hz]
    clear hz wz
    go_wp2_with fail
    refine (HT.out _).mono ?_
    rintro e w3 ⟨rfl, hb3⟩
    have HB3 : Hid (Below w.heap.size w w3) := HB0.out.trans (hb3.mono HB0.out.size)
    have HZ3 : Hid (Below W0.heap.size W0 w3) := HZ0.out.trans (hb3.mono HZ0.out.size)
    clear hb3
    clear s0 s1 s2 t0 t1 t2
    obtain ⟨s0, s1, s2⟩ := box3 ((HZ3.out.block _ HW.out.2.2.1).trans HW.out.1)
    obtain ⟨t0, t1, t2⟩ := box3 ((HZ3.out.block _ HW.out.2.2.2).trans HW.out.2.1)
    go_wp2_with fail
    refine (HNU.out _ _).mono ?_
    rintro e wz ⟨rfl, hz⟩
    rw [hz]
    clear hz wz
    go_wp2_with fail
    refine (awake_any _).mono ?_
    rintro e w9 ⟨rfl, hb9⟩
    have HB9 : Hid (Below w.heap.size w w9) := HB3.out.trans (hb9.mono HB3.out.size)
    clear hb9
    go_wp2_with fail
    go_ret
    refine ⟨?_, HB9.out⟩
    simp [g1, g2]
  · have h2 : (1099511627776 : Int) < L := by omega
    clear hL
    go_enter Try.func7, Try.ntmps7
    go_wp2_with fail
    refine (HS.out _).mono ?_
    rintro e wz ⟨rfl, hz⟩
    rw [hz]
    clear hz wz
    go_wp2_with fail
    refine (HS.out _).mono ?_
    rintro e wz ⟨rfl, hz⟩
    rw [hz]
    clear hz wz
    go_wp2_with fail
    refine (HT.out _).mono ?_
    rintro e w3 ⟨rfl, hb3⟩
    have HB3 : Hid (Below w.heap.size w w3) := HB0.out.trans (hb3.mono HB0.out.size)
    have HZ3 : Hid (Below W0.heap.size W0 w3) := HZ0.out.trans (hb3.mono HZ0.out.size)
    clear hb3
    clear s0 s1 s2 t0 t1 t2
    obtain ⟨s0, s1, s2⟩ := box3 ((HZ3.out.block _ HW.out.2.2.1).trans HW.out.1)
    obtain ⟨t0, t1, t2⟩ := box3 ((HZ3.out.block _ HW.out.2.2.2).trans HW.out.2.1)
    go_wp2_with fail
    refine (HNU.out _ _).mono ?_
    rintro e wz ⟨rfl, hz⟩
    rw [hz]
    clear hz wz
    go_wp2_with fail
    refine (awake_any _).mono ?_
    rintro e w9 ⟨rfl, hb9⟩
    have HB9 : Hid (Below w.heap.size w w9) := HB3.out.trans (hb9.mono HB3.out.size)
    clear hb9
    go_wp2_with fail
    go_ret
    refine ⟨?_, HB9.out⟩
    simp [g1, g2]
set_option maxHeartbeats 4000000 in
theorem diskApart_bad2 {w : World} (L : Int) (hL : L < 0 ∨ 1099511627776 < L) (M : Int) (hM : M < 0 ∨ 1099511627776 < M) (fa : Option Addr) (fl fc : Nat) (oa : Option Addr) (on oc : Nat) (ga : Option Addr) (gl gc : Nat) (ta : Option Addr) (tn tc : Nat) :
    Calls Try.prog 7 #[.agg #[.int .i64 L, .slice fa fl fc, .slice oa on oc], .agg #[.int .i64 M, .slice ga gl gc, .slice ta tn tc]] w fun e w' => e = .returned (.bool true) ∧ Below w.heap.size w w' := by
  have HNU : Hid (∀ x w, Calls Try.prog 10 #[.int .i64 x] w fun e w' => e = .returned (.int .i64 x) ∧ w' = w) := num_any
  obtain ⟨W1, hW1⟩ : ∃ W1, w.alloc (.cells #[.int .i64 L, .slice fa fl fc, .slice oa on oc] 50) = W1 := ⟨_, rfl⟩
  obtain ⟨W0, hW0⟩ : ∃ W0, W1.alloc (.cells #[.int .i64 M, .slice ga gl gc, .slice ta tn tc] 50) = W0 := ⟨_, rfl⟩
  have hs1 : W1.heap.size = w.heap.size + 1 := by rw [← hW1, World.size_alloc]
  have hs0 : W0.heap.size = w.heap.size + 2 := by rw [← hW0, World.size_alloc, hs1]
  have hb0 : Below w.heap.size w W0 := by rw [← hW0, ← hW1]; exact ((Below.refl _ _).alloc (Nat.le_refl _) _).alloc (by rw [World.size_alloc]; omega) _
  have hq1 : W1.heap[w.heap.size]? = some (.cells #[.int .i64 L, .slice fa fl fc, .slice oa on oc] 50) := by rw [← hW1]; exact (MapKept.heap_alloc w _).1
  have hq0 : W0.heap[w.heap.size]? = some (.cells #[.int .i64 L, .slice fa fl fc, .slice oa on oc] 50) := by rw [← hW0]; exact ((MapKept.heap_alloc W1 _).2 _ (by omega)).trans hq1
  have hqt : W0.heap[W1.heap.size]? = some (.cells #[.int .i64 M, .slice ga gl gc, .slice ta tn tc] 50) := by rw [← hW0]; exact (MapKept.heap_alloc W1 _).1
  have HW : Hid (W0.heap[w.heap.size]? = some (.cells #[.int .i64 L, .slice fa fl fc, .slice oa on oc] 50) ∧ W0.heap[W1.heap.size]? = some (.cells #[.int .i64 M, .slice ga gl gc, .slice ta tn tc] 50) ∧ w.heap.size < W0.heap.size ∧ W1.heap.size < W0.heap.size) := ⟨hq0, hqt, by omega, by omega⟩
  have HB0 : Hid (Below w.heap.size w W0) := hb0
  have HZ0 : Hid (Below W0.heap.size W0 W0) := Below.refl _ _
  obtain ⟨s0, s1, s2⟩ := box3 hq0
  obtain ⟨t0, t1, t2⟩ := box3 hqt
  have HS : Hid (∀ w, Calls Try.prog 9 #[.int .i64 L] w fun e w' => e = .returned (.tuple #[.pointer none, .int .i64 12]) ∧ w' = w) := new_bad L hL
  have HT : Hid (∀ w, Calls Try.prog 9 #[.int .i64 M] w fun e w' => e = .returned (.tuple #[.pointer none, .int .i64 12]) ∧ w' = w) := new_bad M hM
  clear hs1 hs0 hb0 hq1 hq0 hqt
  by_cases h1 : L < 0
  · clear hL
    by_cases g1 : M < 0
    · clear hM
      go_enter Try.func7, Try.ntmps7
      go_wp2_with fail
      refine (HS.out _).mono ?_
      rintro e wz ⟨rfl, hz⟩
      rw [hz]
      clear hz wz
      go_wp2_with fail
      refine (HS.out _).mono ?_
      rintro e wz ⟨rfl, hz⟩
      rw [hz]
      clear hz wz
      go_wp2_with fail
      refine (HT.out _).mono ?_
      rintro e wz ⟨rfl, hz⟩
      rw [hz]
      clear hz wz
      go_wp2_with fail
      refine (HNU.out _ _).mono ?_
      rintro e wz ⟨rfl, hz⟩
      rw [hz]
      clear hz wz
      go_wp2_with fail
      refine (awake_any _).mono ?_
      rintro e w9 ⟨rfl, hb9⟩
      have HB9 : Hid (Below w.heap.size w w9) := HB0.out.trans (hb9.mono HB0.out.size)
      clear hb9
      go_wp2_with fail
      go_ret
      refine ⟨?_, HB9.out⟩
      rfl
    · have g2 : (1099511627776 : Int) < M := by omega
      clear hM
      go_enter Try.func7, Try.ntmps7
      go_wp2_with fail
      refine (HS.out _).mono ?_
      rintro e wz ⟨rfl, hz⟩
      rw [hz]
      clear hz wz
      go_wp2_with fail
      refine (HS.out _).mono ?_
      rintro e wz ⟨rfl, hz⟩
      rw [hz]
      clear hz wz
      go_wp2_with fail
      refine (HT.out _).mono ?_
      rintro e wz ⟨rfl, hz⟩
      rw [hz]
      clear hz wz
      go_wp2_with fail
      refine (HNU.out _ _).mono ?_
      rintro e wz ⟨rfl, hz⟩
      rw [hz]
      clear hz wz
      go_wp2_with fail
      refine (awake_any _).mono ?_
      rintro e w9 ⟨rfl, hb9⟩
      have HB9 : Hid (Below w.heap.size w w9) := HB0.out.trans (hb9.mono HB0.out.size)
      clear hb9
      go_wp2_with fail
      go_ret
      refine ⟨?_, HB9.out⟩
      rfl
  · have h2 : (1099511627776 : Int) < L := by omega
    clear hL
    by_cases g1 : M < 0
    · clear hM
      go_enter Try.func7, Try.ntmps7
      go_wp2_with fail
      refine (HS.out _).mono ?_
      rintro e wz ⟨rfl, hz⟩
      rw [hz]
      clear hz wz
      go_wp2_with fail
      refine (HS.out _).mono ?_
      rintro e wz ⟨rfl, hz⟩
      rw [hz]
      clear hz wz
      go_wp2_with fail
      refine (HT.out _).mono ?_
      rintro e wz ⟨rfl, hz⟩
      rw [hz]
      clear hz wz
      go_wp2_with fail
      refine (HNU.out _ _).mono ?_
      rintro e wz ⟨rfl, hz⟩
      rw [hz]
      clear hz wz
      go_wp2_with fail
      refine (awake_any _).mono ?_
      rintro e w9 ⟨rfl, hb9⟩
      have HB9 : Hid (Below w.heap.size w w9) := HB0.out.trans (hb9.mono HB0.out.size)
      clear hb9
      go_wp2_with fail
      go_ret
      refine ⟨?_, HB9.out⟩
      rfl
    · have g2 : (1099511627776 : Int) < M := by omega
      clear hM
      go_enter Try.func7, Try.ntmps7
      go_wp2_with fail
      refine (HS.out _).mono ?_
      rintro e wz ⟨rfl, hz⟩
      rw [hz]
      clear hz wz
      go_wp2_with fail
      refine (HS.out _).mono ?_
      rintro e wz ⟨rfl, hz⟩
      rw [hz]
      clear hz wz
      go_wp2_with fail
      refine (HT.out _).mono ?_
      rintro e wz ⟨rfl, hz⟩
      rw [hz]
      clear hz wz
      go_wp2_with fail
      refine (HNU.out _ _).mono ?_
      rintro e wz ⟨rfl, hz⟩
      rw [hz]
      clear hz wz
      go_wp2_with fail
      refine (awake_any _).mono ?_
      rintro e w9 ⟨rfl, hb9⟩
      have HB9 : Hid (Below w.heap.size w w9) := HB0.out.trans (hb9.mono HB0.out.size)
      clear hb9
      go_wp2_with fail
      go_ret
      refine ⟨?_, HB9.out⟩
      rfl
set_option maxHeartbeats 4000000 in
theorem diskApart_bad3 {w : World} (l0 : Nat) (hl0 : l0 ≤ 1099511627776) (M : Int) (hM : M < 0 ∨ 1099511627776 < M) (fa : Option Addr) (fl fc : Nat) (oa : Option Addr) (on oc : Nat) (ga : Option Addr) (gl gc : Nat) (ta : Option Addr) (tn tc : Nat) :
    Calls Try.prog 7 #[.agg #[.int .i64 (l0 : Int), .slice fa fl fc, .slice oa on oc], .agg #[.int .i64 M, .slice ga gl gc, .slice ta tn tc]] w fun e w' => e = .returned (.bool true) ∧ Below w.heap.size w w' := by
  have HNU : Hid (∀ x w, Calls Try.prog 10 #[.int .i64 x] w fun e w' => e = .returned (.int .i64 x) ∧ w' = w) := num_any
  obtain ⟨W1, hW1⟩ : ∃ W1, w.alloc (.cells #[.int .i64 (l0 : Int), .slice fa fl fc, .slice oa on oc] 50) = W1 := ⟨_, rfl⟩
  obtain ⟨W0, hW0⟩ : ∃ W0, W1.alloc (.cells #[.int .i64 M, .slice ga gl gc, .slice ta tn tc] 50) = W0 := ⟨_, rfl⟩
  have hs1 : W1.heap.size = w.heap.size + 1 := by rw [← hW1, World.size_alloc]
  have hs0 : W0.heap.size = w.heap.size + 2 := by rw [← hW0, World.size_alloc, hs1]
  have hb0 : Below w.heap.size w W0 := by rw [← hW0, ← hW1]; exact ((Below.refl _ _).alloc (Nat.le_refl _) _).alloc (by rw [World.size_alloc]; omega) _
  have hq1 : W1.heap[w.heap.size]? = some (.cells #[.int .i64 (l0 : Int), .slice fa fl fc, .slice oa on oc] 50) := by rw [← hW1]; exact (MapKept.heap_alloc w _).1
  have hq0 : W0.heap[w.heap.size]? = some (.cells #[.int .i64 (l0 : Int), .slice fa fl fc, .slice oa on oc] 50) := by rw [← hW0]; exact ((MapKept.heap_alloc W1 _).2 _ (by omega)).trans hq1
  have hqt : W0.heap[W1.heap.size]? = some (.cells #[.int .i64 M, .slice ga gl gc, .slice ta tn tc] 50) := by rw [← hW0]; exact (MapKept.heap_alloc W1 _).1
  have HW : Hid (W0.heap[w.heap.size]? = some (.cells #[.int .i64 (l0 : Int), .slice fa fl fc, .slice oa on oc] 50) ∧ W0.heap[W1.heap.size]? = some (.cells #[.int .i64 M, .slice ga gl gc, .slice ta tn tc] 50) ∧ w.heap.size < W0.heap.size ∧ W1.heap.size < W0.heap.size) := ⟨hq0, hqt, by omega, by omega⟩
  have HB0 : Hid (Below w.heap.size w W0) := hb0
  have HZ0 : Hid (Below W0.heap.size W0 W0) := Below.refl _ _
  obtain ⟨s0, s1, s2⟩ := box3 hq0
  obtain ⟨t0, t1, t2⟩ := box3 hqt
  have HS : Hid (∀ w, Calls Try.prog 9 #[.int .i64 (l0 : Int)] w fun e w' => e = .returned (.tuple #[.pointer (some ⟨w.heap.size + 1, 0, none⟩), .int .i64 0]) ∧ Below w.heap.size w w') := fun w => (diskNew_any l0 hl0 w).mono (fun e w' h => ⟨h.1, h.2.2⟩)
  have HT : Hid (∀ w, Calls Try.prog 9 #[.int .i64 M] w fun e w' => e = .returned (.tuple #[.pointer none, .int .i64 12]) ∧ w' = w) := new_bad M hM
  have h1 : ¬ ((l0 : Int) < 0) := by omega
  have h2 : ¬ ((1099511627776 : Int) < (l0 : Int)) := by omega
  clear hs1 hs0 hb0 hq1 hq0 hqt
  clear hl0
  by_cases g1 : M < 0
  · clear hM
    go_enter Try.func7, Try.ntmps7
    go_wp2_with fail
    refine (HS.out _).mono ?_
    rintro e w1 ⟨rfl, hb1⟩
    have HB1 : Hid (Below w.heap.size w w1) := HB0.out.trans (hb1.mono HB0.out.size)
    have HZ1 : Hid (Below W0.heap.size W0 w1) := HZ0.out.trans (hb1.mono HZ0.out.size)
    clear hb1
    clear s0 s1 s2 t0 t1 t2
    obtain ⟨s0, s1, s2⟩ := box3 ((HZ1.out.block _ HW.out.2.2.1).trans HW.out.1)
    obtain ⟨t0, t1, t2⟩ := box3 ((HZ1.out.block _ HW.out.2.2.2).trans HW.out.2.1)
    go_wp2_with fail
    refine (HS.out _).mono ?_
    rintro e w2 ⟨rfl, hb2⟩
    have HB2 : Hid (Below w.heap.size w w2) := HB1.out.trans (hb2.mono HB1.out.size)
    have HZ2 : Hid (Below W0.heap.size W0 w2) := HZ1.out.trans (hb2.mono HZ1.out.size)
    clear hb2
    clear s0 s1 s2 t0 t1 t2
    obtain ⟨s0, s1, s2⟩ := box3 ((HZ2.out.block _ HW.out.2.2.1).trans HW.out.1)
    obtain ⟨t0, t1, t2⟩ := box3 ((HZ2.out.block _ HW.out.2.2.2).trans HW.out.2.1)
    go_wp2_with fail
    refine (HT.out _).mono ?_
    rintro e wz ⟨rfl, hz⟩
    rw [hz]
    clear hz wz
    go_wp2_with fail
    refine (HNU.out _ _).mono ?_
    rintro e wz ⟨rfl, hz⟩
    rw [hz]
    clear hz wz
    go_wp2_with fail
    refine (HNU.out _ _).mono ?_
    rintro e wz ⟨rfl, hz⟩
    rw [hz]
    clear hz wz
    go_wp2_with fail
    refine (HNU.out _ _).mono ?_
    rintro e wz ⟨rfl, hz⟩
    rw [hz]
    clear hz wz
    go_wp2_with fail
    refine (awake_any _).mono ?_
    rintro e w9 ⟨rfl, hb9⟩
    have HB9 : Hid (Below w.heap.size w w9) := HB2.out.trans (hb9.mono HB2.out.size)
    clear hb9
    go_wp2_with fail
    go_ret
    refine ⟨?_, HB9.out⟩
    simp [h1, h2]
  · have g2 : (1099511627776 : Int) < M := by omega
    clear hM
    go_enter Try.func7, Try.ntmps7
    go_wp2_with fail
    refine (HS.out _).mono ?_
    rintro e w1 ⟨rfl, hb1⟩
    have HB1 : Hid (Below w.heap.size w w1) := HB0.out.trans (hb1.mono HB0.out.size)
    have HZ1 : Hid (Below W0.heap.size W0 w1) := HZ0.out.trans (hb1.mono HZ0.out.size)
    clear hb1
    clear s0 s1 s2 t0 t1 t2
    obtain ⟨s0, s1, s2⟩ := box3 ((HZ1.out.block _ HW.out.2.2.1).trans HW.out.1)
    obtain ⟨t0, t1, t2⟩ := box3 ((HZ1.out.block _ HW.out.2.2.2).trans HW.out.2.1)
    go_wp2_with fail
    refine (HS.out _).mono ?_
    rintro e w2 ⟨rfl, hb2⟩
    have HB2 : Hid (Below w.heap.size w w2) := HB1.out.trans (hb2.mono HB1.out.size)
    have HZ2 : Hid (Below W0.heap.size W0 w2) := HZ1.out.trans (hb2.mono HZ1.out.size)
    clear hb2
    clear s0 s1 s2 t0 t1 t2
    obtain ⟨s0, s1, s2⟩ := box3 ((HZ2.out.block _ HW.out.2.2.1).trans HW.out.1)
    obtain ⟨t0, t1, t2⟩ := box3 ((HZ2.out.block _ HW.out.2.2.2).trans HW.out.2.1)
    go_wp2_with fail
    refine (HT.out _).mono ?_
    rintro e wz ⟨rfl, hz⟩
    rw [hz]
    clear hz wz
    go_wp2_with fail
    refine (HNU.out _ _).mono ?_
    rintro e wz ⟨rfl, hz⟩
    rw [hz]
    clear hz wz
    go_wp2_with fail
    refine (HNU.out _ _).mono ?_
    rintro e wz ⟨rfl, hz⟩
    rw [hz]
    clear hz wz
    go_wp2_with fail
    refine (HNU.out _ _).mono ?_
    rintro e wz ⟨rfl, hz⟩
    rw [hz]
    clear hz wz
    go_wp2_with fail
    refine (awake_any _).mono ?_
    rintro e w9 ⟨rfl, hb9⟩
    have HB9 : Hid (Below w.heap.size w w9) := HB2.out.trans (hb9.mono HB2.out.size)
    clear hb9
    go_wp2_with fail
    go_ret
    refine ⟨?_, HB9.out⟩
    simp [h1, h2]
end Go.Proofs.Yteidmfmkdmggoaa
