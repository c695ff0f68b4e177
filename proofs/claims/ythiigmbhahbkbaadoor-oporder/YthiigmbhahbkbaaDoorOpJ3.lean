import Derived.Test.YthiigmbhahbkbaaDoorOpI
namespace Go.Proofs.YthiigmbhahbkbaaDoor
open Go.RowKit Go.Lib Sp
set_option maxRecDepth 100000


set_option maxHeartbeats 8000000 in
theorem orders_3 (t c n : Int) (h0 : 1 ≤ t) (h1 : t ≤ 1000000) (w : World) (hw : Bar w) : Calls Tryd.prog 10 #[.int .i64 3, .int .i64 t, .int .i64 c, .int .i64 n] w fun e w' => e = .returned (.bool true) ∧ Below w.heap.size w w' := by
  have HA : Hid (∀ (o : OpV) (total want : Int) (w' : World) (a : Option Addr) (m cap : Nat), Below w.heap.size w w' → opCheck o total = want → Rng w' a m cap o.l → o.s.size ≤ 9223372036854775807 → Calls Tryd.prog 12 #[opVal o (.slice a m cap), .int .i64 total, .int .i64 want] w' fun e w'' => e = .returned (.bool true) ∧ Below w'.heap.size w' w'') := fun o total want w' a m cap hb hq h hs => asked_is hq h hs (hw.below hb)
  clear hw
  go_enter Tryd.func10, Tryd.ntmps10
  go_wp2_with fail
  refine (base_3 t _).mono ?_
  rintro e w1 ⟨rfl, hB1⟩
  simp only [opVal]
  go_wp2_with fail
  have hBs := hB1.alloc hB1.size (Obj.cells #[.int .i64 2, .int .i64 3, .int .i64 4, .int .i64 0, .string ⟨#[]⟩, .slice none 0 0, .int .i64 2, .int .i64 2, .bool false] 31)
  have hxs : (w1.alloc (Obj.cells #[.int .i64 2, .int .i64 3, .int .i64 4, .int .i64 0, .string ⟨#[]⟩, .slice none 0 0, .int .i64 2, .int .i64 2, .bool false] 31)).heap[w1.heap.size]? = some (.cells #[.int .i64 2, .int .i64 3, .int .i64 4, .int .i64 0, .string ⟨#[]⟩, .slice none 0 0, .int .i64 2, .int .i64 2, .bool false] 31) := alloc_last _ _ _ rfl
  refine (HA.out ⟨2, 3, 4, 0, ⟨#[]⟩, [], 2, 2, false⟩ t 0 _ none 0 0 hBs (q3a h0 h1) (rng_nil _) (Nat.le_of_ble_eq_true rfl)).mono ?_
  rintro e w2 ⟨rfl, hb⟩
  have hbx2 : w2.heap[w1.heap.size]? = some (.cells #[.int .i64 2, .int .i64 3, .int .i64 4, .int .i64 0, .string ⟨#[]⟩, .slice none 0 0, .int .i64 2, .int .i64 2, .bool false] 31) := (hb.block _ (Array.getElem?_eq_some_iff.1 hxs).1).trans hxs
  have hB2 := hBs.trans (hb.mono hBs.size)
  clear hxs hBs hb
  have hbx := hbx2
  have hB := hB2
  clear hbx2 hB2
  have d0 : w2.cell? ⟨w1.heap.size, 0, none⟩ = some (.int .i64 2) := by rw [Lib.cell_of_heap hbx]; rfl
  have d1 : w2.cell? ⟨w1.heap.size, 1, none⟩ = some (.int .i64 3) := by rw [Lib.cell_of_heap hbx]; rfl
  have d2 : w2.cell? ⟨w1.heap.size, 2, none⟩ = some (.int .i64 4) := by rw [Lib.cell_of_heap hbx]; rfl
  have d3 : w2.cell? ⟨w1.heap.size, 3, none⟩ = some (.int .i64 0) := by rw [Lib.cell_of_heap hbx]; rfl
  have d4 : w2.cell? ⟨w1.heap.size, 4, none⟩ = some (.string ⟨#[]⟩) := by rw [Lib.cell_of_heap hbx]; rfl
  have d5 : w2.cell? ⟨w1.heap.size, 5, none⟩ = some (.slice none 0 0) := by rw [Lib.cell_of_heap hbx]; rfl
  have d6 : w2.cell? ⟨w1.heap.size, 6, none⟩ = some (.int .i64 2) := by rw [Lib.cell_of_heap hbx]; rfl
  have d7 : w2.cell? ⟨w1.heap.size, 7, none⟩ = some (.int .i64 2) := by rw [Lib.cell_of_heap hbx]; rfl
  have d8 : w2.cell? ⟨w1.heap.size, 8, none⟩ = some (.bool false) := by rw [Lib.cell_of_heap hbx]; rfl
  have z6 : w2.frozen? ⟨w1.heap.size, 6, none⟩ = false := Lib.frozen_of_heap hbx 6
  have z7 : w2.frozen? ⟨w1.heap.size, 7, none⟩ = false := Lib.frozen_of_heap hbx 7
  go_wp2_with fail
  have hBs0 := hB.setCell (p := ⟨w1.heap.size, 6, none⟩) hB1.size (.int .i64 2)
  have hxs0 : (w2.setCell ⟨w1.heap.size, 6, none⟩ (.int .i64 2)).heap[w1.heap.size]? = some (.cells #[.int .i64 2, .int .i64 3, .int .i64 4, .int .i64 0, .string ⟨#[]⟩, .slice none 0 0, .int .i64 2, .int .i64 2, .bool false] 31) := (heap_setCell_same _ w1.heap.size 6 _ _ _ hbx).trans (by simp)
  have hBs1 := hBs0.setCell (p := ⟨w1.heap.size, 7, none⟩) hB1.size (.int .i64 3)
  have hxs1 : ((w2.setCell ⟨w1.heap.size, 6, none⟩ (.int .i64 2)).setCell ⟨w1.heap.size, 7, none⟩ (.int .i64 3)).heap[w1.heap.size]? = some (.cells #[.int .i64 2, .int .i64 3, .int .i64 4, .int .i64 0, .string ⟨#[]⟩, .slice none 0 0, .int .i64 2, .int .i64 3, .bool false] 31) := (heap_setCell_same _ w1.heap.size 7 _ _ _ hxs0).trans (by simp)
  have hBs := hBs1
  have hxs := hxs1
  refine (HA.out ⟨2, 3, 4, 0, ⟨#[]⟩, [], 2, 3, false⟩ t 63 _ none 0 0 hBs (q3b h0 h1) (rng_nil _) (Nat.le_of_ble_eq_true rfl)).mono ?_
  rintro e w3 ⟨rfl, hb⟩
  have hbx2 : w3.heap[w1.heap.size]? = some (.cells #[.int .i64 2, .int .i64 3, .int .i64 4, .int .i64 0, .string ⟨#[]⟩, .slice none 0 0, .int .i64 2, .int .i64 3, .bool false] 31) := (hb.block _ (Array.getElem?_eq_some_iff.1 hxs).1).trans hxs
  have hB2 := hBs.trans (hb.mono hBs.size)
  clear hB hbx hxs1 hxs0 hBs1 hBs0 z7 z6 d8 d7 d6 d5 d4 d3 d2 d1 d0 hxs hBs hb
  have hbx := hbx2
  have hB := hB2
  clear hbx2 hB2
  have d0 : w3.cell? ⟨w1.heap.size, 0, none⟩ = some (.int .i64 2) := by rw [Lib.cell_of_heap hbx]; rfl
  have d1 : w3.cell? ⟨w1.heap.size, 1, none⟩ = some (.int .i64 3) := by rw [Lib.cell_of_heap hbx]; rfl
  have d2 : w3.cell? ⟨w1.heap.size, 2, none⟩ = some (.int .i64 4) := by rw [Lib.cell_of_heap hbx]; rfl
  have d3 : w3.cell? ⟨w1.heap.size, 3, none⟩ = some (.int .i64 0) := by rw [Lib.cell_of_heap hbx]; rfl
  have d4 : w3.cell? ⟨w1.heap.size, 4, none⟩ = some (.string ⟨#[]⟩) := by rw [Lib.cell_of_heap hbx]; rfl
  have d5 : w3.cell? ⟨w1.heap.size, 5, none⟩ = some (.slice none 0 0) := by rw [Lib.cell_of_heap hbx]; rfl
  have d6 : w3.cell? ⟨w1.heap.size, 6, none⟩ = some (.int .i64 2) := by rw [Lib.cell_of_heap hbx]; rfl
  have d7 : w3.cell? ⟨w1.heap.size, 7, none⟩ = some (.int .i64 3) := by rw [Lib.cell_of_heap hbx]; rfl
  have d8 : w3.cell? ⟨w1.heap.size, 8, none⟩ = some (.bool false) := by rw [Lib.cell_of_heap hbx]; rfl
  have z6 : w3.frozen? ⟨w1.heap.size, 6, none⟩ = false := Lib.frozen_of_heap hbx 6
  have z7 : w3.frozen? ⟨w1.heap.size, 7, none⟩ = false := Lib.frozen_of_heap hbx 7
  go_wp2_with fail
  have hBs0 := hB.setCell (p := ⟨w1.heap.size, 6, none⟩) hB1.size (.int .i64 0)
  have hxs0 : (w3.setCell ⟨w1.heap.size, 6, none⟩ (.int .i64 0)).heap[w1.heap.size]? = some (.cells #[.int .i64 2, .int .i64 3, .int .i64 4, .int .i64 0, .string ⟨#[]⟩, .slice none 0 0, .int .i64 0, .int .i64 3, .bool false] 31) := (heap_setCell_same _ w1.heap.size 6 _ _ _ hbx).trans (by simp)
  have hBs1 := hBs0.setCell (p := ⟨w1.heap.size, 7, none⟩) hB1.size (.int .i64 0)
  have hxs1 : ((w3.setCell ⟨w1.heap.size, 6, none⟩ (.int .i64 0)).setCell ⟨w1.heap.size, 7, none⟩ (.int .i64 0)).heap[w1.heap.size]? = some (.cells #[.int .i64 2, .int .i64 3, .int .i64 4, .int .i64 0, .string ⟨#[]⟩, .slice none 0 0, .int .i64 0, .int .i64 0, .bool false] 31) := (heap_setCell_same _ w1.heap.size 7 _ _ _ hxs0).trans (by simp)
  have hBs := hBs1
  have hxs := hxs1
  refine (HA.out ⟨2, 3, 4, 0, ⟨#[]⟩, [], 0, 0, false⟩ t 63 _ none 0 0 hBs (q3c h0 h1) (rng_nil _) (Nat.le_of_ble_eq_true rfl)).mono ?_
  rintro e w4 ⟨rfl, hb⟩
  have hbx2 : w4.heap[w1.heap.size]? = some (.cells #[.int .i64 2, .int .i64 3, .int .i64 4, .int .i64 0, .string ⟨#[]⟩, .slice none 0 0, .int .i64 0, .int .i64 0, .bool false] 31) := (hb.block _ (Array.getElem?_eq_some_iff.1 hxs).1).trans hxs
  have hB2 := hBs.trans (hb.mono hBs.size)
  clear hB hbx hxs1 hxs0 hBs1 hBs0 z7 z6 d8 d7 d6 d5 d4 d3 d2 d1 d0 hxs hBs hb
  have hbx := hbx2
  have hB := hB2
  clear hbx2 hB2
  have d0 : w4.cell? ⟨w1.heap.size, 0, none⟩ = some (.int .i64 2) := by rw [Lib.cell_of_heap hbx]; rfl
  have d1 : w4.cell? ⟨w1.heap.size, 1, none⟩ = some (.int .i64 3) := by rw [Lib.cell_of_heap hbx]; rfl
  have d2 : w4.cell? ⟨w1.heap.size, 2, none⟩ = some (.int .i64 4) := by rw [Lib.cell_of_heap hbx]; rfl
  have d3 : w4.cell? ⟨w1.heap.size, 3, none⟩ = some (.int .i64 0) := by rw [Lib.cell_of_heap hbx]; rfl
  have d4 : w4.cell? ⟨w1.heap.size, 4, none⟩ = some (.string ⟨#[]⟩) := by rw [Lib.cell_of_heap hbx]; rfl
  have d5 : w4.cell? ⟨w1.heap.size, 5, none⟩ = some (.slice none 0 0) := by rw [Lib.cell_of_heap hbx]; rfl
  have d6 : w4.cell? ⟨w1.heap.size, 6, none⟩ = some (.int .i64 0) := by rw [Lib.cell_of_heap hbx]; rfl
  have d7 : w4.cell? ⟨w1.heap.size, 7, none⟩ = some (.int .i64 0) := by rw [Lib.cell_of_heap hbx]; rfl
  have d8 : w4.cell? ⟨w1.heap.size, 8, none⟩ = some (.bool false) := by rw [Lib.cell_of_heap hbx]; rfl
  have z3 : w4.frozen? ⟨w1.heap.size, 3, none⟩ = false := Lib.frozen_of_heap hbx 3
  go_wp2_with fail
  have hBs0 := hB.setCell (p := ⟨w1.heap.size, 3, none⟩) hB1.size (.int .i64 1)
  have hxs0 : (w4.setCell ⟨w1.heap.size, 3, none⟩ (.int .i64 1)).heap[w1.heap.size]? = some (.cells #[.int .i64 2, .int .i64 3, .int .i64 4, .int .i64 1, .string ⟨#[]⟩, .slice none 0 0, .int .i64 0, .int .i64 0, .bool false] 31) := (heap_setCell_same _ w1.heap.size 3 _ _ _ hbx).trans (by simp)
  have hBs := hBs0
  have hxs := hxs0
  refine (HA.out ⟨2, 3, 4, 1, ⟨#[]⟩, [], 0, 0, false⟩ t 42 _ none 0 0 hBs (opCheck_extra (hTt h0 h1) (by simp) (.inr rfl) (by simp [extra, extP])) (rng_nil _) (Nat.le_of_ble_eq_true rfl)).mono ?_
  rintro e w5 ⟨rfl, hb⟩
  have hbx2 : w5.heap[w1.heap.size]? = some (.cells #[.int .i64 2, .int .i64 3, .int .i64 4, .int .i64 1, .string ⟨#[]⟩, .slice none 0 0, .int .i64 0, .int .i64 0, .bool false] 31) := (hb.block _ (Array.getElem?_eq_some_iff.1 hxs).1).trans hxs
  have hB2 := hBs.trans (hb.mono hBs.size)
  clear hB hbx hxs0 hBs0 z3 d8 d7 d6 d5 d4 d3 d2 d1 d0 hxs hBs hb
  have hbx := hbx2
  have hB := hB2
  clear hbx2 hB2
  have hcs : (c = 0 ∧ n = 0) ∨ (1 ≤ c ∧ c ≤ 8 ∧ 1 ≤ n ∧ n ≤ 1024) ∨ (c = 0 ∧ n ≠ 0) ∨ (c ≠ 0 ∧ c < 1) ∨ 8 < c ∨ (1 ≤ c ∧ c ≤ 8 ∧ n < 1) ∨ (1 ≤ c ∧ c ≤ 8 ∧ 1024 < n) := by omega
  rcases hcs with ⟨rfl, rfl⟩ | ⟨a1, a2, a3, a4⟩ | ⟨rfl, a1⟩ | ⟨a0, a1⟩ | a1 | ⟨a1, a2, a3⟩ | ⟨a1, a2, a3⟩
  · skip
    have d0 : w5.cell? ⟨w1.heap.size, 0, none⟩ = some (.int .i64 2) := by rw [Lib.cell_of_heap hbx]; rfl
    have d1 : w5.cell? ⟨w1.heap.size, 1, none⟩ = some (.int .i64 3) := by rw [Lib.cell_of_heap hbx]; rfl
    have d2 : w5.cell? ⟨w1.heap.size, 2, none⟩ = some (.int .i64 4) := by rw [Lib.cell_of_heap hbx]; rfl
    have d3 : w5.cell? ⟨w1.heap.size, 3, none⟩ = some (.int .i64 1) := by rw [Lib.cell_of_heap hbx]; rfl
    have d4 : w5.cell? ⟨w1.heap.size, 4, none⟩ = some (.string ⟨#[]⟩) := by rw [Lib.cell_of_heap hbx]; rfl
    have d5 : w5.cell? ⟨w1.heap.size, 5, none⟩ = some (.slice none 0 0) := by rw [Lib.cell_of_heap hbx]; rfl
    have d6 : w5.cell? ⟨w1.heap.size, 6, none⟩ = some (.int .i64 0) := by rw [Lib.cell_of_heap hbx]; rfl
    have d7 : w5.cell? ⟨w1.heap.size, 7, none⟩ = some (.int .i64 0) := by rw [Lib.cell_of_heap hbx]; rfl
    have d8 : w5.cell? ⟨w1.heap.size, 8, none⟩ = some (.bool false) := by rw [Lib.cell_of_heap hbx]; rfl
    have z0 : w5.frozen? ⟨w1.heap.size, 0, none⟩ = false := Lib.frozen_of_heap hbx 0
    have z1 : w5.frozen? ⟨w1.heap.size, 1, none⟩ = false := Lib.frozen_of_heap hbx 1
    go_wp2_with fail
    have hBs0 := hB.setCell (p := ⟨w1.heap.size, 0, none⟩) hB1.size (.int .i64 0)
    have hxs0 : (w5.setCell ⟨w1.heap.size, 0, none⟩ (.int .i64 0)).heap[w1.heap.size]? = some (.cells #[.int .i64 0, .int .i64 3, .int .i64 4, .int .i64 1, .string ⟨#[]⟩, .slice none 0 0, .int .i64 0, .int .i64 0, .bool false] 31) := (heap_setCell_same _ w1.heap.size 0 _ _ _ hbx).trans (by simp)
    have hBs1 := hBs0.setCell (p := ⟨w1.heap.size, 1, none⟩) hB1.size (.int .i64 0)
    have hxs1 : ((w5.setCell ⟨w1.heap.size, 0, none⟩ (.int .i64 0)).setCell ⟨w1.heap.size, 1, none⟩ (.int .i64 0)).heap[w1.heap.size]? = some (.cells #[.int .i64 0, .int .i64 0, .int .i64 4, .int .i64 1, .string ⟨#[]⟩, .slice none 0 0, .int .i64 0, .int .i64 0, .bool false] 31) := (heap_setCell_same _ w1.heap.size 1 _ _ _ hxs0).trans (by simp)
    have hBs := hBs1
    have hxs := hxs1
    refine (HA.out ⟨0, 0, 4, 1, ⟨#[]⟩, [], 0, 0, false⟩ t 42 _ none 0 0 hBs (opCheck_extra (hTt h0 h1) (by simp) (.inl ⟨rfl, rfl⟩) (by simp [extra, extP])) (rng_nil _) (Nat.le_of_ble_eq_true rfl)).mono ?_
    rintro e w6 ⟨rfl, hb⟩
    have hbx2 : w6.heap[w1.heap.size]? = some (.cells #[.int .i64 0, .int .i64 0, .int .i64 4, .int .i64 1, .string ⟨#[]⟩, .slice none 0 0, .int .i64 0, .int .i64 0, .bool false] 31) := (hb.block _ (Array.getElem?_eq_some_iff.1 hxs).1).trans hxs
    have hB2 := hBs.trans (hb.mono hBs.size)
    clear hB hbx hxs1 hxs0 hBs1 hBs0 z1 z0 d8 d7 d6 d5 d4 d3 d2 d1 d0 hxs hBs hb
    have hbx := hbx2
    have hB := hB2
    clear hbx2 hB2
    have d0 : w6.cell? ⟨w1.heap.size, 0, none⟩ = some (.int .i64 0) := by rw [Lib.cell_of_heap hbx]; rfl
    have d1 : w6.cell? ⟨w1.heap.size, 1, none⟩ = some (.int .i64 0) := by rw [Lib.cell_of_heap hbx]; rfl
    have d2 : w6.cell? ⟨w1.heap.size, 2, none⟩ = some (.int .i64 4) := by rw [Lib.cell_of_heap hbx]; rfl
    have d3 : w6.cell? ⟨w1.heap.size, 3, none⟩ = some (.int .i64 1) := by rw [Lib.cell_of_heap hbx]; rfl
    have d4 : w6.cell? ⟨w1.heap.size, 4, none⟩ = some (.string ⟨#[]⟩) := by rw [Lib.cell_of_heap hbx]; rfl
    have d5 : w6.cell? ⟨w1.heap.size, 5, none⟩ = some (.slice none 0 0) := by rw [Lib.cell_of_heap hbx]; rfl
    have d6 : w6.cell? ⟨w1.heap.size, 6, none⟩ = some (.int .i64 0) := by rw [Lib.cell_of_heap hbx]; rfl
    have d7 : w6.cell? ⟨w1.heap.size, 7, none⟩ = some (.int .i64 0) := by rw [Lib.cell_of_heap hbx]; rfl
    have d8 : w6.cell? ⟨w1.heap.size, 8, none⟩ = some (.bool false) := by rw [Lib.cell_of_heap hbx]; rfl
    have z2 : w6.frozen? ⟨w1.heap.size, 2, none⟩ = false := Lib.frozen_of_heap hbx 2
    go_wp2_with fail
    have hBs0 := hB.setCell (p := ⟨w1.heap.size, 2, none⟩) hB1.size (.int .i64 0)
    have hxs0 : (w6.setCell ⟨w1.heap.size, 2, none⟩ (.int .i64 0)).heap[w1.heap.size]? = some (.cells #[.int .i64 0, .int .i64 0, .int .i64 0, .int .i64 1, .string ⟨#[]⟩, .slice none 0 0, .int .i64 0, .int .i64 0, .bool false] 31) := (heap_setCell_same _ w1.heap.size 2 _ _ _ hbx).trans (by simp)
    have hBs := hBs0
    have hxs := hxs0
    refine (HA.out ⟨0, 0, 0, 1, ⟨#[]⟩, [], 0, 0, false⟩ t 40 _ none 0 0 hBs (opCheck_kind (hTt h0 h1) (.inl (by simp))) (rng_nil _) (Nat.le_of_ble_eq_true rfl)).mono ?_
    rintro e w7 ⟨rfl, hb⟩
    have hbx2 : w7.heap[w1.heap.size]? = some (.cells #[.int .i64 0, .int .i64 0, .int .i64 0, .int .i64 1, .string ⟨#[]⟩, .slice none 0 0, .int .i64 0, .int .i64 0, .bool false] 31) := (hb.block _ (Array.getElem?_eq_some_iff.1 hxs).1).trans hxs
    have hB2 := hBs.trans (hb.mono hBs.size)
    clear hB hbx hxs0 hBs0 z2 d8 d7 d6 d5 d4 d3 d2 d1 d0 hxs hBs hb
    have hbx := hbx2
    have hB := hB2
    clear hbx2 hB2
    have d0 : w7.cell? ⟨w1.heap.size, 0, none⟩ = some (.int .i64 0) := by rw [Lib.cell_of_heap hbx]; rfl
    have d1 : w7.cell? ⟨w1.heap.size, 1, none⟩ = some (.int .i64 0) := by rw [Lib.cell_of_heap hbx]; rfl
    have d2 : w7.cell? ⟨w1.heap.size, 2, none⟩ = some (.int .i64 0) := by rw [Lib.cell_of_heap hbx]; rfl
    have d3 : w7.cell? ⟨w1.heap.size, 3, none⟩ = some (.int .i64 1) := by rw [Lib.cell_of_heap hbx]; rfl
    have d4 : w7.cell? ⟨w1.heap.size, 4, none⟩ = some (.string ⟨#[]⟩) := by rw [Lib.cell_of_heap hbx]; rfl
    have d5 : w7.cell? ⟨w1.heap.size, 5, none⟩ = some (.slice none 0 0) := by rw [Lib.cell_of_heap hbx]; rfl
    have d6 : w7.cell? ⟨w1.heap.size, 6, none⟩ = some (.int .i64 0) := by rw [Lib.cell_of_heap hbx]; rfl
    have d7 : w7.cell? ⟨w1.heap.size, 7, none⟩ = some (.int .i64 0) := by rw [Lib.cell_of_heap hbx]; rfl
    have d8 : w7.cell? ⟨w1.heap.size, 8, none⟩ = some (.bool false) := by rw [Lib.cell_of_heap hbx]; rfl
    have z2 : w7.frozen? ⟨w1.heap.size, 2, none⟩ = false := Lib.frozen_of_heap hbx 2
    go_wp2_with fail
    have hBs0 := hB.setCell (p := ⟨w1.heap.size, 2, none⟩) hB1.size (.int .i64 5)
    have hxs0 : (w7.setCell ⟨w1.heap.size, 2, none⟩ (.int .i64 5)).heap[w1.heap.size]? = some (.cells #[.int .i64 0, .int .i64 0, .int .i64 5, .int .i64 1, .string ⟨#[]⟩, .slice none 0 0, .int .i64 0, .int .i64 0, .bool false] 31) := (heap_setCell_same _ w1.heap.size 2 _ _ _ hbx).trans (by simp)
    have hBs := hBs0
    have hxs := hxs0
    refine (HA.out ⟨0, 0, 5, 1, ⟨#[]⟩, [], 0, 0, false⟩ t 40 _ none 0 0 hBs (opCheck_kind (hTt h0 h1) (.inr (by simp))) (rng_nil _) (Nat.le_of_ble_eq_true rfl)).mono ?_
    rintro e w8 ⟨rfl, hb⟩
    have hbx2 : w8.heap[w1.heap.size]? = some (.cells #[.int .i64 0, .int .i64 0, .int .i64 5, .int .i64 1, .string ⟨#[]⟩, .slice none 0 0, .int .i64 0, .int .i64 0, .bool false] 31) := (hb.block _ (Array.getElem?_eq_some_iff.1 hxs).1).trans hxs
    have hB2 := hBs.trans (hb.mono hBs.size)
    clear hB hbx hxs0 hBs0 z2 d8 d7 d6 d5 d4 d3 d2 d1 d0 hxs hBs hb
    have hbx := hbx2
    have hB := hB2
    clear hbx2 hB2
    have d0 : w8.cell? ⟨w1.heap.size, 0, none⟩ = some (.int .i64 0) := by rw [Lib.cell_of_heap hbx]; rfl
    have d1 : w8.cell? ⟨w1.heap.size, 1, none⟩ = some (.int .i64 0) := by rw [Lib.cell_of_heap hbx]; rfl
    have d2 : w8.cell? ⟨w1.heap.size, 2, none⟩ = some (.int .i64 5) := by rw [Lib.cell_of_heap hbx]; rfl
    have d3 : w8.cell? ⟨w1.heap.size, 3, none⟩ = some (.int .i64 1) := by rw [Lib.cell_of_heap hbx]; rfl
    have d4 : w8.cell? ⟨w1.heap.size, 4, none⟩ = some (.string ⟨#[]⟩) := by rw [Lib.cell_of_heap hbx]; rfl
    have d5 : w8.cell? ⟨w1.heap.size, 5, none⟩ = some (.slice none 0 0) := by rw [Lib.cell_of_heap hbx]; rfl
    have d6 : w8.cell? ⟨w1.heap.size, 6, none⟩ = some (.int .i64 0) := by rw [Lib.cell_of_heap hbx]; rfl
    have d7 : w8.cell? ⟨w1.heap.size, 7, none⟩ = some (.int .i64 0) := by rw [Lib.cell_of_heap hbx]; rfl
    have d8 : w8.cell? ⟨w1.heap.size, 8, none⟩ = some (.bool false) := by rw [Lib.cell_of_heap hbx]; rfl
    go_wp2_with fail
    have hBs := hB
    have hxs := hbx
    refine (HA.out ⟨0, 0, 5, 1, ⟨#[]⟩, [], 0, 0, false⟩ (-1) 12 _ none 0 0 hBs (opCheck_total (.inl (by decide))) (rng_nil _) (Nat.le_of_ble_eq_true rfl)).mono ?_
    rintro e w9 ⟨rfl, hb⟩
    have hbx2 : w9.heap[w1.heap.size]? = some (.cells #[.int .i64 0, .int .i64 0, .int .i64 5, .int .i64 1, .string ⟨#[]⟩, .slice none 0 0, .int .i64 0, .int .i64 0, .bool false] 31) := (hb.block _ (Array.getElem?_eq_some_iff.1 hxs).1).trans hxs
    have hB2 := hBs.trans (hb.mono hBs.size)
    clear hB hbx d8 d7 d6 d5 d4 d3 d2 d1 d0 hxs hBs hb
    have hbx := hbx2
    have hB := hB2
    clear hbx2 hB2
    have d0 : w9.cell? ⟨w1.heap.size, 0, none⟩ = some (.int .i64 0) := by rw [Lib.cell_of_heap hbx]; rfl
    have d1 : w9.cell? ⟨w1.heap.size, 1, none⟩ = some (.int .i64 0) := by rw [Lib.cell_of_heap hbx]; rfl
    have d2 : w9.cell? ⟨w1.heap.size, 2, none⟩ = some (.int .i64 5) := by rw [Lib.cell_of_heap hbx]; rfl
    have d3 : w9.cell? ⟨w1.heap.size, 3, none⟩ = some (.int .i64 1) := by rw [Lib.cell_of_heap hbx]; rfl
    have d4 : w9.cell? ⟨w1.heap.size, 4, none⟩ = some (.string ⟨#[]⟩) := by rw [Lib.cell_of_heap hbx]; rfl
    have d5 : w9.cell? ⟨w1.heap.size, 5, none⟩ = some (.slice none 0 0) := by rw [Lib.cell_of_heap hbx]; rfl
    have d6 : w9.cell? ⟨w1.heap.size, 6, none⟩ = some (.int .i64 0) := by rw [Lib.cell_of_heap hbx]; rfl
    have d7 : w9.cell? ⟨w1.heap.size, 7, none⟩ = some (.int .i64 0) := by rw [Lib.cell_of_heap hbx]; rfl
    have d8 : w9.cell? ⟨w1.heap.size, 8, none⟩ = some (.bool false) := by rw [Lib.cell_of_heap hbx]; rfl
    go_wp2_with fail
    have hBs := hB
    have hxs := hbx
    refine (HA.out ⟨0, 0, 5, 1, ⟨#[]⟩, [], 0, 0, false⟩ 1048577 12 _ none 0 0 hBs (opCheck_total (.inr (by decide))) (rng_nil _) (Nat.le_of_ble_eq_true rfl)).mono ?_
    rintro e w10 ⟨rfl, hb⟩
    have hbx2 : w10.heap[w1.heap.size]? = some (.cells #[.int .i64 0, .int .i64 0, .int .i64 5, .int .i64 1, .string ⟨#[]⟩, .slice none 0 0, .int .i64 0, .int .i64 0, .bool false] 31) := (hb.block _ (Array.getElem?_eq_some_iff.1 hxs).1).trans hxs
    have hB2 := hBs.trans (hb.mono hBs.size)
    clear hB hbx d8 d7 d6 d5 d4 d3 d2 d1 d0 hxs hBs hb
    have hbx := hbx2
    have hB := hB2
    clear hbx2 hB2
    go_wp2_with fail
    go_ret
    exact ⟨rfl, hB⟩
  · skip
    have y1 : (c == 0) = false := beq_eq_false_iff_ne.2 (by omega)
    have hI : isIdP c n = true := decide_eq_true ⟨a1, a2, a3, a4⟩
    have d0 : w5.cell? ⟨w1.heap.size, 0, none⟩ = some (.int .i64 2) := by rw [Lib.cell_of_heap hbx]; rfl
    have d1 : w5.cell? ⟨w1.heap.size, 1, none⟩ = some (.int .i64 3) := by rw [Lib.cell_of_heap hbx]; rfl
    have d2 : w5.cell? ⟨w1.heap.size, 2, none⟩ = some (.int .i64 4) := by rw [Lib.cell_of_heap hbx]; rfl
    have d3 : w5.cell? ⟨w1.heap.size, 3, none⟩ = some (.int .i64 1) := by rw [Lib.cell_of_heap hbx]; rfl
    have d4 : w5.cell? ⟨w1.heap.size, 4, none⟩ = some (.string ⟨#[]⟩) := by rw [Lib.cell_of_heap hbx]; rfl
    have d5 : w5.cell? ⟨w1.heap.size, 5, none⟩ = some (.slice none 0 0) := by rw [Lib.cell_of_heap hbx]; rfl
    have d6 : w5.cell? ⟨w1.heap.size, 6, none⟩ = some (.int .i64 0) := by rw [Lib.cell_of_heap hbx]; rfl
    have d7 : w5.cell? ⟨w1.heap.size, 7, none⟩ = some (.int .i64 0) := by rw [Lib.cell_of_heap hbx]; rfl
    have d8 : w5.cell? ⟨w1.heap.size, 8, none⟩ = some (.bool false) := by rw [Lib.cell_of_heap hbx]; rfl
    have z0 : w5.frozen? ⟨w1.heap.size, 0, none⟩ = false := Lib.frozen_of_heap hbx 0
    have z1 : w5.frozen? ⟨w1.heap.size, 1, none⟩ = false := Lib.frozen_of_heap hbx 1
    go_wp2_with fail
    have hBs0 := hB.setCell (p := ⟨w1.heap.size, 0, none⟩) hB1.size (.int .i64 c)
    have hxs0 : (w5.setCell ⟨w1.heap.size, 0, none⟩ (.int .i64 c)).heap[w1.heap.size]? = some (.cells #[.int .i64 c, .int .i64 3, .int .i64 4, .int .i64 1, .string ⟨#[]⟩, .slice none 0 0, .int .i64 0, .int .i64 0, .bool false] 31) := (heap_setCell_same _ w1.heap.size 0 _ _ _ hbx).trans (by simp)
    have hBs1 := hBs0.setCell (p := ⟨w1.heap.size, 1, none⟩) hB1.size (.int .i64 n)
    have hxs1 : ((w5.setCell ⟨w1.heap.size, 0, none⟩ (.int .i64 c)).setCell ⟨w1.heap.size, 1, none⟩ (.int .i64 n)).heap[w1.heap.size]? = some (.cells #[.int .i64 c, .int .i64 n, .int .i64 4, .int .i64 1, .string ⟨#[]⟩, .slice none 0 0, .int .i64 0, .int .i64 0, .bool false] 31) := (heap_setCell_same _ w1.heap.size 1 _ _ _ hxs0).trans (by simp)
    have hBs := hBs1
    have hxs := hxs1
    refine (HA.out ⟨c, n, 4, 1, ⟨#[]⟩, [], 0, 0, false⟩ t 42 _ none 0 0 hBs (opCheck_extra (hTt h0 h1) (by simp) (.inr hI) (by simp [extra, extP])) (rng_nil _) (Nat.le_of_ble_eq_true rfl)).mono ?_
    rintro e w6 ⟨rfl, hb⟩
    have hbx2 : w6.heap[w1.heap.size]? = some (.cells #[.int .i64 c, .int .i64 n, .int .i64 4, .int .i64 1, .string ⟨#[]⟩, .slice none 0 0, .int .i64 0, .int .i64 0, .bool false] 31) := (hb.block _ (Array.getElem?_eq_some_iff.1 hxs).1).trans hxs
    have hB2 := hBs.trans (hb.mono hBs.size)
    clear hB hbx hxs1 hxs0 hBs1 hBs0 z1 z0 d8 d7 d6 d5 d4 d3 d2 d1 d0 hxs hBs hb
    have hbx := hbx2
    have hB := hB2
    clear hbx2 hB2
    have d0 : w6.cell? ⟨w1.heap.size, 0, none⟩ = some (.int .i64 c) := by rw [Lib.cell_of_heap hbx]; rfl
    have d1 : w6.cell? ⟨w1.heap.size, 1, none⟩ = some (.int .i64 n) := by rw [Lib.cell_of_heap hbx]; rfl
    have d2 : w6.cell? ⟨w1.heap.size, 2, none⟩ = some (.int .i64 4) := by rw [Lib.cell_of_heap hbx]; rfl
    have d3 : w6.cell? ⟨w1.heap.size, 3, none⟩ = some (.int .i64 1) := by rw [Lib.cell_of_heap hbx]; rfl
    have d4 : w6.cell? ⟨w1.heap.size, 4, none⟩ = some (.string ⟨#[]⟩) := by rw [Lib.cell_of_heap hbx]; rfl
    have d5 : w6.cell? ⟨w1.heap.size, 5, none⟩ = some (.slice none 0 0) := by rw [Lib.cell_of_heap hbx]; rfl
    have d6 : w6.cell? ⟨w1.heap.size, 6, none⟩ = some (.int .i64 0) := by rw [Lib.cell_of_heap hbx]; rfl
    have d7 : w6.cell? ⟨w1.heap.size, 7, none⟩ = some (.int .i64 0) := by rw [Lib.cell_of_heap hbx]; rfl
    have d8 : w6.cell? ⟨w1.heap.size, 8, none⟩ = some (.bool false) := by rw [Lib.cell_of_heap hbx]; rfl
    have z2 : w6.frozen? ⟨w1.heap.size, 2, none⟩ = false := Lib.frozen_of_heap hbx 2
    go_wp2_with fail
    have hBs0 := hB.setCell (p := ⟨w1.heap.size, 2, none⟩) hB1.size (.int .i64 0)
    have hxs0 : (w6.setCell ⟨w1.heap.size, 2, none⟩ (.int .i64 0)).heap[w1.heap.size]? = some (.cells #[.int .i64 c, .int .i64 n, .int .i64 0, .int .i64 1, .string ⟨#[]⟩, .slice none 0 0, .int .i64 0, .int .i64 0, .bool false] 31) := (heap_setCell_same _ w1.heap.size 2 _ _ _ hbx).trans (by simp)
    have hBs := hBs0
    have hxs := hxs0
    refine (HA.out ⟨c, n, 0, 1, ⟨#[]⟩, [], 0, 0, false⟩ t 40 _ none 0 0 hBs (opCheck_kind (hTt h0 h1) (.inl (by simp))) (rng_nil _) (Nat.le_of_ble_eq_true rfl)).mono ?_
    rintro e w7 ⟨rfl, hb⟩
    have hbx2 : w7.heap[w1.heap.size]? = some (.cells #[.int .i64 c, .int .i64 n, .int .i64 0, .int .i64 1, .string ⟨#[]⟩, .slice none 0 0, .int .i64 0, .int .i64 0, .bool false] 31) := (hb.block _ (Array.getElem?_eq_some_iff.1 hxs).1).trans hxs
    have hB2 := hBs.trans (hb.mono hBs.size)
    clear hB hbx hxs0 hBs0 z2 d8 d7 d6 d5 d4 d3 d2 d1 d0 hxs hBs hb
    have hbx := hbx2
    have hB := hB2
    clear hbx2 hB2
    have d0 : w7.cell? ⟨w1.heap.size, 0, none⟩ = some (.int .i64 c) := by rw [Lib.cell_of_heap hbx]; rfl
    have d1 : w7.cell? ⟨w1.heap.size, 1, none⟩ = some (.int .i64 n) := by rw [Lib.cell_of_heap hbx]; rfl
    have d2 : w7.cell? ⟨w1.heap.size, 2, none⟩ = some (.int .i64 0) := by rw [Lib.cell_of_heap hbx]; rfl
    have d3 : w7.cell? ⟨w1.heap.size, 3, none⟩ = some (.int .i64 1) := by rw [Lib.cell_of_heap hbx]; rfl
    have d4 : w7.cell? ⟨w1.heap.size, 4, none⟩ = some (.string ⟨#[]⟩) := by rw [Lib.cell_of_heap hbx]; rfl
    have d5 : w7.cell? ⟨w1.heap.size, 5, none⟩ = some (.slice none 0 0) := by rw [Lib.cell_of_heap hbx]; rfl
    have d6 : w7.cell? ⟨w1.heap.size, 6, none⟩ = some (.int .i64 0) := by rw [Lib.cell_of_heap hbx]; rfl
    have d7 : w7.cell? ⟨w1.heap.size, 7, none⟩ = some (.int .i64 0) := by rw [Lib.cell_of_heap hbx]; rfl
    have d8 : w7.cell? ⟨w1.heap.size, 8, none⟩ = some (.bool false) := by rw [Lib.cell_of_heap hbx]; rfl
    have z2 : w7.frozen? ⟨w1.heap.size, 2, none⟩ = false := Lib.frozen_of_heap hbx 2
    go_wp2_with fail
    have hBs0 := hB.setCell (p := ⟨w1.heap.size, 2, none⟩) hB1.size (.int .i64 5)
    have hxs0 : (w7.setCell ⟨w1.heap.size, 2, none⟩ (.int .i64 5)).heap[w1.heap.size]? = some (.cells #[.int .i64 c, .int .i64 n, .int .i64 5, .int .i64 1, .string ⟨#[]⟩, .slice none 0 0, .int .i64 0, .int .i64 0, .bool false] 31) := (heap_setCell_same _ w1.heap.size 2 _ _ _ hbx).trans (by simp)
    have hBs := hBs0
    have hxs := hxs0
    refine (HA.out ⟨c, n, 5, 1, ⟨#[]⟩, [], 0, 0, false⟩ t 40 _ none 0 0 hBs (opCheck_kind (hTt h0 h1) (.inr (by simp))) (rng_nil _) (Nat.le_of_ble_eq_true rfl)).mono ?_
    rintro e w8 ⟨rfl, hb⟩
    have hbx2 : w8.heap[w1.heap.size]? = some (.cells #[.int .i64 c, .int .i64 n, .int .i64 5, .int .i64 1, .string ⟨#[]⟩, .slice none 0 0, .int .i64 0, .int .i64 0, .bool false] 31) := (hb.block _ (Array.getElem?_eq_some_iff.1 hxs).1).trans hxs
    have hB2 := hBs.trans (hb.mono hBs.size)
    clear hB hbx hxs0 hBs0 z2 d8 d7 d6 d5 d4 d3 d2 d1 d0 hxs hBs hb
    have hbx := hbx2
    have hB := hB2
    clear hbx2 hB2
    have d0 : w8.cell? ⟨w1.heap.size, 0, none⟩ = some (.int .i64 c) := by rw [Lib.cell_of_heap hbx]; rfl
    have d1 : w8.cell? ⟨w1.heap.size, 1, none⟩ = some (.int .i64 n) := by rw [Lib.cell_of_heap hbx]; rfl
    have d2 : w8.cell? ⟨w1.heap.size, 2, none⟩ = some (.int .i64 5) := by rw [Lib.cell_of_heap hbx]; rfl
    have d3 : w8.cell? ⟨w1.heap.size, 3, none⟩ = some (.int .i64 1) := by rw [Lib.cell_of_heap hbx]; rfl
    have d4 : w8.cell? ⟨w1.heap.size, 4, none⟩ = some (.string ⟨#[]⟩) := by rw [Lib.cell_of_heap hbx]; rfl
    have d5 : w8.cell? ⟨w1.heap.size, 5, none⟩ = some (.slice none 0 0) := by rw [Lib.cell_of_heap hbx]; rfl
    have d6 : w8.cell? ⟨w1.heap.size, 6, none⟩ = some (.int .i64 0) := by rw [Lib.cell_of_heap hbx]; rfl
    have d7 : w8.cell? ⟨w1.heap.size, 7, none⟩ = some (.int .i64 0) := by rw [Lib.cell_of_heap hbx]; rfl
    have d8 : w8.cell? ⟨w1.heap.size, 8, none⟩ = some (.bool false) := by rw [Lib.cell_of_heap hbx]; rfl
    go_wp2_with fail
    have hBs := hB
    have hxs := hbx
    refine (HA.out ⟨c, n, 5, 1, ⟨#[]⟩, [], 0, 0, false⟩ (-1) 12 _ none 0 0 hBs (opCheck_total (.inl (by decide))) (rng_nil _) (Nat.le_of_ble_eq_true rfl)).mono ?_
    rintro e w9 ⟨rfl, hb⟩
    have hbx2 : w9.heap[w1.heap.size]? = some (.cells #[.int .i64 c, .int .i64 n, .int .i64 5, .int .i64 1, .string ⟨#[]⟩, .slice none 0 0, .int .i64 0, .int .i64 0, .bool false] 31) := (hb.block _ (Array.getElem?_eq_some_iff.1 hxs).1).trans hxs
    have hB2 := hBs.trans (hb.mono hBs.size)
    clear hB hbx d8 d7 d6 d5 d4 d3 d2 d1 d0 hxs hBs hb
    have hbx := hbx2
    have hB := hB2
    clear hbx2 hB2
    have d0 : w9.cell? ⟨w1.heap.size, 0, none⟩ = some (.int .i64 c) := by rw [Lib.cell_of_heap hbx]; rfl
    have d1 : w9.cell? ⟨w1.heap.size, 1, none⟩ = some (.int .i64 n) := by rw [Lib.cell_of_heap hbx]; rfl
    have d2 : w9.cell? ⟨w1.heap.size, 2, none⟩ = some (.int .i64 5) := by rw [Lib.cell_of_heap hbx]; rfl
    have d3 : w9.cell? ⟨w1.heap.size, 3, none⟩ = some (.int .i64 1) := by rw [Lib.cell_of_heap hbx]; rfl
    have d4 : w9.cell? ⟨w1.heap.size, 4, none⟩ = some (.string ⟨#[]⟩) := by rw [Lib.cell_of_heap hbx]; rfl
    have d5 : w9.cell? ⟨w1.heap.size, 5, none⟩ = some (.slice none 0 0) := by rw [Lib.cell_of_heap hbx]; rfl
    have d6 : w9.cell? ⟨w1.heap.size, 6, none⟩ = some (.int .i64 0) := by rw [Lib.cell_of_heap hbx]; rfl
    have d7 : w9.cell? ⟨w1.heap.size, 7, none⟩ = some (.int .i64 0) := by rw [Lib.cell_of_heap hbx]; rfl
    have d8 : w9.cell? ⟨w1.heap.size, 8, none⟩ = some (.bool false) := by rw [Lib.cell_of_heap hbx]; rfl
    go_wp2_with fail
    have hBs := hB
    have hxs := hbx
    refine (HA.out ⟨c, n, 5, 1, ⟨#[]⟩, [], 0, 0, false⟩ 1048577 12 _ none 0 0 hBs (opCheck_total (.inr (by decide))) (rng_nil _) (Nat.le_of_ble_eq_true rfl)).mono ?_
    rintro e w10 ⟨rfl, hb⟩
    have hbx2 : w10.heap[w1.heap.size]? = some (.cells #[.int .i64 c, .int .i64 n, .int .i64 5, .int .i64 1, .string ⟨#[]⟩, .slice none 0 0, .int .i64 0, .int .i64 0, .bool false] 31) := (hb.block _ (Array.getElem?_eq_some_iff.1 hxs).1).trans hxs
    have hB2 := hBs.trans (hb.mono hBs.size)
    clear hB hbx d8 d7 d6 d5 d4 d3 d2 d1 d0 hxs hBs hb
    have hbx := hbx2
    have hB := hB2
    clear hbx2 hB2
    go_wp2_with fail
    go_ret
    exact ⟨rfl, hB⟩
  · skip
    have y1 : (n == 0) = false := beq_eq_false_iff_ne.2 a1
    have hI : isIdP 0 n = false := decide_eq_false (by omega)
    have HN : Hid (n ≠ 0) := a1
    clear a1
    have d0 : w5.cell? ⟨w1.heap.size, 0, none⟩ = some (.int .i64 2) := by rw [Lib.cell_of_heap hbx]; rfl
    have d1 : w5.cell? ⟨w1.heap.size, 1, none⟩ = some (.int .i64 3) := by rw [Lib.cell_of_heap hbx]; rfl
    have d2 : w5.cell? ⟨w1.heap.size, 2, none⟩ = some (.int .i64 4) := by rw [Lib.cell_of_heap hbx]; rfl
    have d3 : w5.cell? ⟨w1.heap.size, 3, none⟩ = some (.int .i64 1) := by rw [Lib.cell_of_heap hbx]; rfl
    have d4 : w5.cell? ⟨w1.heap.size, 4, none⟩ = some (.string ⟨#[]⟩) := by rw [Lib.cell_of_heap hbx]; rfl
    have d5 : w5.cell? ⟨w1.heap.size, 5, none⟩ = some (.slice none 0 0) := by rw [Lib.cell_of_heap hbx]; rfl
    have d6 : w5.cell? ⟨w1.heap.size, 6, none⟩ = some (.int .i64 0) := by rw [Lib.cell_of_heap hbx]; rfl
    have d7 : w5.cell? ⟨w1.heap.size, 7, none⟩ = some (.int .i64 0) := by rw [Lib.cell_of_heap hbx]; rfl
    have d8 : w5.cell? ⟨w1.heap.size, 8, none⟩ = some (.bool false) := by rw [Lib.cell_of_heap hbx]; rfl
    have z0 : w5.frozen? ⟨w1.heap.size, 0, none⟩ = false := Lib.frozen_of_heap hbx 0
    have z1 : w5.frozen? ⟨w1.heap.size, 1, none⟩ = false := Lib.frozen_of_heap hbx 1
    go_wp2_with fail
    have hBs0 := hB.setCell (p := ⟨w1.heap.size, 0, none⟩) hB1.size (.int .i64 0)
    have hxs0 : (w5.setCell ⟨w1.heap.size, 0, none⟩ (.int .i64 0)).heap[w1.heap.size]? = some (.cells #[.int .i64 0, .int .i64 3, .int .i64 4, .int .i64 1, .string ⟨#[]⟩, .slice none 0 0, .int .i64 0, .int .i64 0, .bool false] 31) := (heap_setCell_same _ w1.heap.size 0 _ _ _ hbx).trans (by simp)
    have hBs1 := hBs0.setCell (p := ⟨w1.heap.size, 1, none⟩) hB1.size (.int .i64 n)
    have hxs1 : ((w5.setCell ⟨w1.heap.size, 0, none⟩ (.int .i64 0)).setCell ⟨w1.heap.size, 1, none⟩ (.int .i64 n)).heap[w1.heap.size]? = some (.cells #[.int .i64 0, .int .i64 n, .int .i64 4, .int .i64 1, .string ⟨#[]⟩, .slice none 0 0, .int .i64 0, .int .i64 0, .bool false] 31) := (heap_setCell_same _ w1.heap.size 1 _ _ _ hxs0).trans (by simp)
    have hBs := hBs1
    have hxs := hxs1
    refine (HA.out ⟨0, n, 4, 1, ⟨#[]⟩, [], 0, 0, false⟩ t 41 _ none 0 0 hBs (opCheck_id (hTt h0 h1) (by simp) (fun h => HN.out h.2) hI) (rng_nil _) (Nat.le_of_ble_eq_true rfl)).mono ?_
    rintro e w6 ⟨rfl, hb⟩
    have hbx2 : w6.heap[w1.heap.size]? = some (.cells #[.int .i64 0, .int .i64 n, .int .i64 4, .int .i64 1, .string ⟨#[]⟩, .slice none 0 0, .int .i64 0, .int .i64 0, .bool false] 31) := (hb.block _ (Array.getElem?_eq_some_iff.1 hxs).1).trans hxs
    have hB2 := hBs.trans (hb.mono hBs.size)
    clear hB hbx hxs1 hxs0 hBs1 hBs0 z1 z0 d8 d7 d6 d5 d4 d3 d2 d1 d0 hxs hBs hb
    have hbx := hbx2
    have hB := hB2
    clear hbx2 hB2
    have d0 : w6.cell? ⟨w1.heap.size, 0, none⟩ = some (.int .i64 0) := by rw [Lib.cell_of_heap hbx]; rfl
    have d1 : w6.cell? ⟨w1.heap.size, 1, none⟩ = some (.int .i64 n) := by rw [Lib.cell_of_heap hbx]; rfl
    have d2 : w6.cell? ⟨w1.heap.size, 2, none⟩ = some (.int .i64 4) := by rw [Lib.cell_of_heap hbx]; rfl
    have d3 : w6.cell? ⟨w1.heap.size, 3, none⟩ = some (.int .i64 1) := by rw [Lib.cell_of_heap hbx]; rfl
    have d4 : w6.cell? ⟨w1.heap.size, 4, none⟩ = some (.string ⟨#[]⟩) := by rw [Lib.cell_of_heap hbx]; rfl
    have d5 : w6.cell? ⟨w1.heap.size, 5, none⟩ = some (.slice none 0 0) := by rw [Lib.cell_of_heap hbx]; rfl
    have d6 : w6.cell? ⟨w1.heap.size, 6, none⟩ = some (.int .i64 0) := by rw [Lib.cell_of_heap hbx]; rfl
    have d7 : w6.cell? ⟨w1.heap.size, 7, none⟩ = some (.int .i64 0) := by rw [Lib.cell_of_heap hbx]; rfl
    have d8 : w6.cell? ⟨w1.heap.size, 8, none⟩ = some (.bool false) := by rw [Lib.cell_of_heap hbx]; rfl
    have z2 : w6.frozen? ⟨w1.heap.size, 2, none⟩ = false := Lib.frozen_of_heap hbx 2
    go_wp2_with fail
    have hBs0 := hB.setCell (p := ⟨w1.heap.size, 2, none⟩) hB1.size (.int .i64 0)
    have hxs0 : (w6.setCell ⟨w1.heap.size, 2, none⟩ (.int .i64 0)).heap[w1.heap.size]? = some (.cells #[.int .i64 0, .int .i64 n, .int .i64 0, .int .i64 1, .string ⟨#[]⟩, .slice none 0 0, .int .i64 0, .int .i64 0, .bool false] 31) := (heap_setCell_same _ w1.heap.size 2 _ _ _ hbx).trans (by simp)
    have hBs := hBs0
    have hxs := hxs0
    refine (HA.out ⟨0, n, 0, 1, ⟨#[]⟩, [], 0, 0, false⟩ t 40 _ none 0 0 hBs (opCheck_kind (hTt h0 h1) (.inl (by simp))) (rng_nil _) (Nat.le_of_ble_eq_true rfl)).mono ?_
    rintro e w7 ⟨rfl, hb⟩
    have hbx2 : w7.heap[w1.heap.size]? = some (.cells #[.int .i64 0, .int .i64 n, .int .i64 0, .int .i64 1, .string ⟨#[]⟩, .slice none 0 0, .int .i64 0, .int .i64 0, .bool false] 31) := (hb.block _ (Array.getElem?_eq_some_iff.1 hxs).1).trans hxs
    have hB2 := hBs.trans (hb.mono hBs.size)
    clear hB hbx hxs0 hBs0 z2 d8 d7 d6 d5 d4 d3 d2 d1 d0 hxs hBs hb
    have hbx := hbx2
    have hB := hB2
    clear hbx2 hB2
    have d0 : w7.cell? ⟨w1.heap.size, 0, none⟩ = some (.int .i64 0) := by rw [Lib.cell_of_heap hbx]; rfl
    have d1 : w7.cell? ⟨w1.heap.size, 1, none⟩ = some (.int .i64 n) := by rw [Lib.cell_of_heap hbx]; rfl
    have d2 : w7.cell? ⟨w1.heap.size, 2, none⟩ = some (.int .i64 0) := by rw [Lib.cell_of_heap hbx]; rfl
    have d3 : w7.cell? ⟨w1.heap.size, 3, none⟩ = some (.int .i64 1) := by rw [Lib.cell_of_heap hbx]; rfl
    have d4 : w7.cell? ⟨w1.heap.size, 4, none⟩ = some (.string ⟨#[]⟩) := by rw [Lib.cell_of_heap hbx]; rfl
    have d5 : w7.cell? ⟨w1.heap.size, 5, none⟩ = some (.slice none 0 0) := by rw [Lib.cell_of_heap hbx]; rfl
    have d6 : w7.cell? ⟨w1.heap.size, 6, none⟩ = some (.int .i64 0) := by rw [Lib.cell_of_heap hbx]; rfl
    have d7 : w7.cell? ⟨w1.heap.size, 7, none⟩ = some (.int .i64 0) := by rw [Lib.cell_of_heap hbx]; rfl
    have d8 : w7.cell? ⟨w1.heap.size, 8, none⟩ = some (.bool false) := by rw [Lib.cell_of_heap hbx]; rfl
    have z2 : w7.frozen? ⟨w1.heap.size, 2, none⟩ = false := Lib.frozen_of_heap hbx 2
    go_wp2_with fail
    have hBs0 := hB.setCell (p := ⟨w1.heap.size, 2, none⟩) hB1.size (.int .i64 5)
    have hxs0 : (w7.setCell ⟨w1.heap.size, 2, none⟩ (.int .i64 5)).heap[w1.heap.size]? = some (.cells #[.int .i64 0, .int .i64 n, .int .i64 5, .int .i64 1, .string ⟨#[]⟩, .slice none 0 0, .int .i64 0, .int .i64 0, .bool false] 31) := (heap_setCell_same _ w1.heap.size 2 _ _ _ hbx).trans (by simp)
    have hBs := hBs0
    have hxs := hxs0
    refine (HA.out ⟨0, n, 5, 1, ⟨#[]⟩, [], 0, 0, false⟩ t 40 _ none 0 0 hBs (opCheck_kind (hTt h0 h1) (.inr (by simp))) (rng_nil _) (Nat.le_of_ble_eq_true rfl)).mono ?_
    rintro e w8 ⟨rfl, hb⟩
    have hbx2 : w8.heap[w1.heap.size]? = some (.cells #[.int .i64 0, .int .i64 n, .int .i64 5, .int .i64 1, .string ⟨#[]⟩, .slice none 0 0, .int .i64 0, .int .i64 0, .bool false] 31) := (hb.block _ (Array.getElem?_eq_some_iff.1 hxs).1).trans hxs
    have hB2 := hBs.trans (hb.mono hBs.size)
    clear hB hbx hxs0 hBs0 z2 d8 d7 d6 d5 d4 d3 d2 d1 d0 hxs hBs hb
    have hbx := hbx2
    have hB := hB2
    clear hbx2 hB2
    have d0 : w8.cell? ⟨w1.heap.size, 0, none⟩ = some (.int .i64 0) := by rw [Lib.cell_of_heap hbx]; rfl
    have d1 : w8.cell? ⟨w1.heap.size, 1, none⟩ = some (.int .i64 n) := by rw [Lib.cell_of_heap hbx]; rfl
    have d2 : w8.cell? ⟨w1.heap.size, 2, none⟩ = some (.int .i64 5) := by rw [Lib.cell_of_heap hbx]; rfl
    have d3 : w8.cell? ⟨w1.heap.size, 3, none⟩ = some (.int .i64 1) := by rw [Lib.cell_of_heap hbx]; rfl
    have d4 : w8.cell? ⟨w1.heap.size, 4, none⟩ = some (.string ⟨#[]⟩) := by rw [Lib.cell_of_heap hbx]; rfl
    have d5 : w8.cell? ⟨w1.heap.size, 5, none⟩ = some (.slice none 0 0) := by rw [Lib.cell_of_heap hbx]; rfl
    have d6 : w8.cell? ⟨w1.heap.size, 6, none⟩ = some (.int .i64 0) := by rw [Lib.cell_of_heap hbx]; rfl
    have d7 : w8.cell? ⟨w1.heap.size, 7, none⟩ = some (.int .i64 0) := by rw [Lib.cell_of_heap hbx]; rfl
    have d8 : w8.cell? ⟨w1.heap.size, 8, none⟩ = some (.bool false) := by rw [Lib.cell_of_heap hbx]; rfl
    go_wp2_with fail
    have hBs := hB
    have hxs := hbx
    refine (HA.out ⟨0, n, 5, 1, ⟨#[]⟩, [], 0, 0, false⟩ (-1) 12 _ none 0 0 hBs (opCheck_total (.inl (by decide))) (rng_nil _) (Nat.le_of_ble_eq_true rfl)).mono ?_
    rintro e w9 ⟨rfl, hb⟩
    have hbx2 : w9.heap[w1.heap.size]? = some (.cells #[.int .i64 0, .int .i64 n, .int .i64 5, .int .i64 1, .string ⟨#[]⟩, .slice none 0 0, .int .i64 0, .int .i64 0, .bool false] 31) := (hb.block _ (Array.getElem?_eq_some_iff.1 hxs).1).trans hxs
    have hB2 := hBs.trans (hb.mono hBs.size)
    clear hB hbx d8 d7 d6 d5 d4 d3 d2 d1 d0 hxs hBs hb
    have hbx := hbx2
    have hB := hB2
    clear hbx2 hB2
    have d0 : w9.cell? ⟨w1.heap.size, 0, none⟩ = some (.int .i64 0) := by rw [Lib.cell_of_heap hbx]; rfl
    have d1 : w9.cell? ⟨w1.heap.size, 1, none⟩ = some (.int .i64 n) := by rw [Lib.cell_of_heap hbx]; rfl
    have d2 : w9.cell? ⟨w1.heap.size, 2, none⟩ = some (.int .i64 5) := by rw [Lib.cell_of_heap hbx]; rfl
    have d3 : w9.cell? ⟨w1.heap.size, 3, none⟩ = some (.int .i64 1) := by rw [Lib.cell_of_heap hbx]; rfl
    have d4 : w9.cell? ⟨w1.heap.size, 4, none⟩ = some (.string ⟨#[]⟩) := by rw [Lib.cell_of_heap hbx]; rfl
    have d5 : w9.cell? ⟨w1.heap.size, 5, none⟩ = some (.slice none 0 0) := by rw [Lib.cell_of_heap hbx]; rfl
    have d6 : w9.cell? ⟨w1.heap.size, 6, none⟩ = some (.int .i64 0) := by rw [Lib.cell_of_heap hbx]; rfl
    have d7 : w9.cell? ⟨w1.heap.size, 7, none⟩ = some (.int .i64 0) := by rw [Lib.cell_of_heap hbx]; rfl
    have d8 : w9.cell? ⟨w1.heap.size, 8, none⟩ = some (.bool false) := by rw [Lib.cell_of_heap hbx]; rfl
    go_wp2_with fail
    have hBs := hB
    have hxs := hbx
    refine (HA.out ⟨0, n, 5, 1, ⟨#[]⟩, [], 0, 0, false⟩ 1048577 12 _ none 0 0 hBs (opCheck_total (.inr (by decide))) (rng_nil _) (Nat.le_of_ble_eq_true rfl)).mono ?_
    rintro e w10 ⟨rfl, hb⟩
    have hbx2 : w10.heap[w1.heap.size]? = some (.cells #[.int .i64 0, .int .i64 n, .int .i64 5, .int .i64 1, .string ⟨#[]⟩, .slice none 0 0, .int .i64 0, .int .i64 0, .bool false] 31) := (hb.block _ (Array.getElem?_eq_some_iff.1 hxs).1).trans hxs
    have hB2 := hBs.trans (hb.mono hBs.size)
    clear hB hbx d8 d7 d6 d5 d4 d3 d2 d1 d0 hxs hBs hb
    have hbx := hbx2
    have hB := hB2
    clear hbx2 hB2
    go_wp2_with fail
    go_ret
    exact ⟨rfl, hB⟩
  · skip
    have y1 : (c == 0) = false := beq_eq_false_iff_ne.2 (by omega)
    have hI : isIdP c n = false := decide_eq_false (by omega)
    have hN : ¬ (c = 0 ∧ n = 0) := fun h => by omega
    clear a0
    have d0 : w5.cell? ⟨w1.heap.size, 0, none⟩ = some (.int .i64 2) := by rw [Lib.cell_of_heap hbx]; rfl
    have d1 : w5.cell? ⟨w1.heap.size, 1, none⟩ = some (.int .i64 3) := by rw [Lib.cell_of_heap hbx]; rfl
    have d2 : w5.cell? ⟨w1.heap.size, 2, none⟩ = some (.int .i64 4) := by rw [Lib.cell_of_heap hbx]; rfl
    have d3 : w5.cell? ⟨w1.heap.size, 3, none⟩ = some (.int .i64 1) := by rw [Lib.cell_of_heap hbx]; rfl
    have d4 : w5.cell? ⟨w1.heap.size, 4, none⟩ = some (.string ⟨#[]⟩) := by rw [Lib.cell_of_heap hbx]; rfl
    have d5 : w5.cell? ⟨w1.heap.size, 5, none⟩ = some (.slice none 0 0) := by rw [Lib.cell_of_heap hbx]; rfl
    have d6 : w5.cell? ⟨w1.heap.size, 6, none⟩ = some (.int .i64 0) := by rw [Lib.cell_of_heap hbx]; rfl
    have d7 : w5.cell? ⟨w1.heap.size, 7, none⟩ = some (.int .i64 0) := by rw [Lib.cell_of_heap hbx]; rfl
    have d8 : w5.cell? ⟨w1.heap.size, 8, none⟩ = some (.bool false) := by rw [Lib.cell_of_heap hbx]; rfl
    have z0 : w5.frozen? ⟨w1.heap.size, 0, none⟩ = false := Lib.frozen_of_heap hbx 0
    have z1 : w5.frozen? ⟨w1.heap.size, 1, none⟩ = false := Lib.frozen_of_heap hbx 1
    go_wp2_with fail
    have hBs0 := hB.setCell (p := ⟨w1.heap.size, 0, none⟩) hB1.size (.int .i64 c)
    have hxs0 : (w5.setCell ⟨w1.heap.size, 0, none⟩ (.int .i64 c)).heap[w1.heap.size]? = some (.cells #[.int .i64 c, .int .i64 3, .int .i64 4, .int .i64 1, .string ⟨#[]⟩, .slice none 0 0, .int .i64 0, .int .i64 0, .bool false] 31) := (heap_setCell_same _ w1.heap.size 0 _ _ _ hbx).trans (by simp)
    have hBs1 := hBs0.setCell (p := ⟨w1.heap.size, 1, none⟩) hB1.size (.int .i64 n)
    have hxs1 : ((w5.setCell ⟨w1.heap.size, 0, none⟩ (.int .i64 c)).setCell ⟨w1.heap.size, 1, none⟩ (.int .i64 n)).heap[w1.heap.size]? = some (.cells #[.int .i64 c, .int .i64 n, .int .i64 4, .int .i64 1, .string ⟨#[]⟩, .slice none 0 0, .int .i64 0, .int .i64 0, .bool false] 31) := (heap_setCell_same _ w1.heap.size 1 _ _ _ hxs0).trans (by simp)
    have hBs := hBs1
    have hxs := hxs1
    refine (HA.out ⟨c, n, 4, 1, ⟨#[]⟩, [], 0, 0, false⟩ t 41 _ none 0 0 hBs (opCheck_id (hTt h0 h1) (by simp) hN hI) (rng_nil _) (Nat.le_of_ble_eq_true rfl)).mono ?_
    rintro e w6 ⟨rfl, hb⟩
    have hbx2 : w6.heap[w1.heap.size]? = some (.cells #[.int .i64 c, .int .i64 n, .int .i64 4, .int .i64 1, .string ⟨#[]⟩, .slice none 0 0, .int .i64 0, .int .i64 0, .bool false] 31) := (hb.block _ (Array.getElem?_eq_some_iff.1 hxs).1).trans hxs
    have hB2 := hBs.trans (hb.mono hBs.size)
    clear hB hbx hxs1 hxs0 hBs1 hBs0 z1 z0 d8 d7 d6 d5 d4 d3 d2 d1 d0 hxs hBs hb
    have hbx := hbx2
    have hB := hB2
    clear hbx2 hB2
    have d0 : w6.cell? ⟨w1.heap.size, 0, none⟩ = some (.int .i64 c) := by rw [Lib.cell_of_heap hbx]; rfl
    have d1 : w6.cell? ⟨w1.heap.size, 1, none⟩ = some (.int .i64 n) := by rw [Lib.cell_of_heap hbx]; rfl
    have d2 : w6.cell? ⟨w1.heap.size, 2, none⟩ = some (.int .i64 4) := by rw [Lib.cell_of_heap hbx]; rfl
    have d3 : w6.cell? ⟨w1.heap.size, 3, none⟩ = some (.int .i64 1) := by rw [Lib.cell_of_heap hbx]; rfl
    have d4 : w6.cell? ⟨w1.heap.size, 4, none⟩ = some (.string ⟨#[]⟩) := by rw [Lib.cell_of_heap hbx]; rfl
    have d5 : w6.cell? ⟨w1.heap.size, 5, none⟩ = some (.slice none 0 0) := by rw [Lib.cell_of_heap hbx]; rfl
    have d6 : w6.cell? ⟨w1.heap.size, 6, none⟩ = some (.int .i64 0) := by rw [Lib.cell_of_heap hbx]; rfl
    have d7 : w6.cell? ⟨w1.heap.size, 7, none⟩ = some (.int .i64 0) := by rw [Lib.cell_of_heap hbx]; rfl
    have d8 : w6.cell? ⟨w1.heap.size, 8, none⟩ = some (.bool false) := by rw [Lib.cell_of_heap hbx]; rfl
    have z2 : w6.frozen? ⟨w1.heap.size, 2, none⟩ = false := Lib.frozen_of_heap hbx 2
    go_wp2_with fail
    have hBs0 := hB.setCell (p := ⟨w1.heap.size, 2, none⟩) hB1.size (.int .i64 0)
    have hxs0 : (w6.setCell ⟨w1.heap.size, 2, none⟩ (.int .i64 0)).heap[w1.heap.size]? = some (.cells #[.int .i64 c, .int .i64 n, .int .i64 0, .int .i64 1, .string ⟨#[]⟩, .slice none 0 0, .int .i64 0, .int .i64 0, .bool false] 31) := (heap_setCell_same _ w1.heap.size 2 _ _ _ hbx).trans (by simp)
    have hBs := hBs0
    have hxs := hxs0
    refine (HA.out ⟨c, n, 0, 1, ⟨#[]⟩, [], 0, 0, false⟩ t 40 _ none 0 0 hBs (opCheck_kind (hTt h0 h1) (.inl (by simp))) (rng_nil _) (Nat.le_of_ble_eq_true rfl)).mono ?_
    rintro e w7 ⟨rfl, hb⟩
    have hbx2 : w7.heap[w1.heap.size]? = some (.cells #[.int .i64 c, .int .i64 n, .int .i64 0, .int .i64 1, .string ⟨#[]⟩, .slice none 0 0, .int .i64 0, .int .i64 0, .bool false] 31) := (hb.block _ (Array.getElem?_eq_some_iff.1 hxs).1).trans hxs
    have hB2 := hBs.trans (hb.mono hBs.size)
    clear hB hbx hxs0 hBs0 z2 d8 d7 d6 d5 d4 d3 d2 d1 d0 hxs hBs hb
    have hbx := hbx2
    have hB := hB2
    clear hbx2 hB2
    have d0 : w7.cell? ⟨w1.heap.size, 0, none⟩ = some (.int .i64 c) := by rw [Lib.cell_of_heap hbx]; rfl
    have d1 : w7.cell? ⟨w1.heap.size, 1, none⟩ = some (.int .i64 n) := by rw [Lib.cell_of_heap hbx]; rfl
    have d2 : w7.cell? ⟨w1.heap.size, 2, none⟩ = some (.int .i64 0) := by rw [Lib.cell_of_heap hbx]; rfl
    have d3 : w7.cell? ⟨w1.heap.size, 3, none⟩ = some (.int .i64 1) := by rw [Lib.cell_of_heap hbx]; rfl
    have d4 : w7.cell? ⟨w1.heap.size, 4, none⟩ = some (.string ⟨#[]⟩) := by rw [Lib.cell_of_heap hbx]; rfl
    have d5 : w7.cell? ⟨w1.heap.size, 5, none⟩ = some (.slice none 0 0) := by rw [Lib.cell_of_heap hbx]; rfl
    have d6 : w7.cell? ⟨w1.heap.size, 6, none⟩ = some (.int .i64 0) := by rw [Lib.cell_of_heap hbx]; rfl
    have d7 : w7.cell? ⟨w1.heap.size, 7, none⟩ = some (.int .i64 0) := by rw [Lib.cell_of_heap hbx]; rfl
    have d8 : w7.cell? ⟨w1.heap.size, 8, none⟩ = some (.bool false) := by rw [Lib.cell_of_heap hbx]; rfl
    have z2 : w7.frozen? ⟨w1.heap.size, 2, none⟩ = false := Lib.frozen_of_heap hbx 2
    go_wp2_with fail
    have hBs0 := hB.setCell (p := ⟨w1.heap.size, 2, none⟩) hB1.size (.int .i64 5)
    have hxs0 : (w7.setCell ⟨w1.heap.size, 2, none⟩ (.int .i64 5)).heap[w1.heap.size]? = some (.cells #[.int .i64 c, .int .i64 n, .int .i64 5, .int .i64 1, .string ⟨#[]⟩, .slice none 0 0, .int .i64 0, .int .i64 0, .bool false] 31) := (heap_setCell_same _ w1.heap.size 2 _ _ _ hbx).trans (by simp)
    have hBs := hBs0
    have hxs := hxs0
    refine (HA.out ⟨c, n, 5, 1, ⟨#[]⟩, [], 0, 0, false⟩ t 40 _ none 0 0 hBs (opCheck_kind (hTt h0 h1) (.inr (by simp))) (rng_nil _) (Nat.le_of_ble_eq_true rfl)).mono ?_
    rintro e w8 ⟨rfl, hb⟩
    have hbx2 : w8.heap[w1.heap.size]? = some (.cells #[.int .i64 c, .int .i64 n, .int .i64 5, .int .i64 1, .string ⟨#[]⟩, .slice none 0 0, .int .i64 0, .int .i64 0, .bool false] 31) := (hb.block _ (Array.getElem?_eq_some_iff.1 hxs).1).trans hxs
    have hB2 := hBs.trans (hb.mono hBs.size)
    clear hB hbx hxs0 hBs0 z2 d8 d7 d6 d5 d4 d3 d2 d1 d0 hxs hBs hb
    have hbx := hbx2
    have hB := hB2
    clear hbx2 hB2
    have d0 : w8.cell? ⟨w1.heap.size, 0, none⟩ = some (.int .i64 c) := by rw [Lib.cell_of_heap hbx]; rfl
    have d1 : w8.cell? ⟨w1.heap.size, 1, none⟩ = some (.int .i64 n) := by rw [Lib.cell_of_heap hbx]; rfl
    have d2 : w8.cell? ⟨w1.heap.size, 2, none⟩ = some (.int .i64 5) := by rw [Lib.cell_of_heap hbx]; rfl
    have d3 : w8.cell? ⟨w1.heap.size, 3, none⟩ = some (.int .i64 1) := by rw [Lib.cell_of_heap hbx]; rfl
    have d4 : w8.cell? ⟨w1.heap.size, 4, none⟩ = some (.string ⟨#[]⟩) := by rw [Lib.cell_of_heap hbx]; rfl
    have d5 : w8.cell? ⟨w1.heap.size, 5, none⟩ = some (.slice none 0 0) := by rw [Lib.cell_of_heap hbx]; rfl
    have d6 : w8.cell? ⟨w1.heap.size, 6, none⟩ = some (.int .i64 0) := by rw [Lib.cell_of_heap hbx]; rfl
    have d7 : w8.cell? ⟨w1.heap.size, 7, none⟩ = some (.int .i64 0) := by rw [Lib.cell_of_heap hbx]; rfl
    have d8 : w8.cell? ⟨w1.heap.size, 8, none⟩ = some (.bool false) := by rw [Lib.cell_of_heap hbx]; rfl
    go_wp2_with fail
    have hBs := hB
    have hxs := hbx
    refine (HA.out ⟨c, n, 5, 1, ⟨#[]⟩, [], 0, 0, false⟩ (-1) 12 _ none 0 0 hBs (opCheck_total (.inl (by decide))) (rng_nil _) (Nat.le_of_ble_eq_true rfl)).mono ?_
    rintro e w9 ⟨rfl, hb⟩
    have hbx2 : w9.heap[w1.heap.size]? = some (.cells #[.int .i64 c, .int .i64 n, .int .i64 5, .int .i64 1, .string ⟨#[]⟩, .slice none 0 0, .int .i64 0, .int .i64 0, .bool false] 31) := (hb.block _ (Array.getElem?_eq_some_iff.1 hxs).1).trans hxs
    have hB2 := hBs.trans (hb.mono hBs.size)
    clear hB hbx d8 d7 d6 d5 d4 d3 d2 d1 d0 hxs hBs hb
    have hbx := hbx2
    have hB := hB2
    clear hbx2 hB2
    have d0 : w9.cell? ⟨w1.heap.size, 0, none⟩ = some (.int .i64 c) := by rw [Lib.cell_of_heap hbx]; rfl
    have d1 : w9.cell? ⟨w1.heap.size, 1, none⟩ = some (.int .i64 n) := by rw [Lib.cell_of_heap hbx]; rfl
    have d2 : w9.cell? ⟨w1.heap.size, 2, none⟩ = some (.int .i64 5) := by rw [Lib.cell_of_heap hbx]; rfl
    have d3 : w9.cell? ⟨w1.heap.size, 3, none⟩ = some (.int .i64 1) := by rw [Lib.cell_of_heap hbx]; rfl
    have d4 : w9.cell? ⟨w1.heap.size, 4, none⟩ = some (.string ⟨#[]⟩) := by rw [Lib.cell_of_heap hbx]; rfl
    have d5 : w9.cell? ⟨w1.heap.size, 5, none⟩ = some (.slice none 0 0) := by rw [Lib.cell_of_heap hbx]; rfl
    have d6 : w9.cell? ⟨w1.heap.size, 6, none⟩ = some (.int .i64 0) := by rw [Lib.cell_of_heap hbx]; rfl
    have d7 : w9.cell? ⟨w1.heap.size, 7, none⟩ = some (.int .i64 0) := by rw [Lib.cell_of_heap hbx]; rfl
    have d8 : w9.cell? ⟨w1.heap.size, 8, none⟩ = some (.bool false) := by rw [Lib.cell_of_heap hbx]; rfl
    go_wp2_with fail
    have hBs := hB
    have hxs := hbx
    refine (HA.out ⟨c, n, 5, 1, ⟨#[]⟩, [], 0, 0, false⟩ 1048577 12 _ none 0 0 hBs (opCheck_total (.inr (by decide))) (rng_nil _) (Nat.le_of_ble_eq_true rfl)).mono ?_
    rintro e w10 ⟨rfl, hb⟩
    have hbx2 : w10.heap[w1.heap.size]? = some (.cells #[.int .i64 c, .int .i64 n, .int .i64 5, .int .i64 1, .string ⟨#[]⟩, .slice none 0 0, .int .i64 0, .int .i64 0, .bool false] 31) := (hb.block _ (Array.getElem?_eq_some_iff.1 hxs).1).trans hxs
    have hB2 := hBs.trans (hb.mono hBs.size)
    clear hB hbx d8 d7 d6 d5 d4 d3 d2 d1 d0 hxs hBs hb
    have hbx := hbx2
    have hB := hB2
    clear hbx2 hB2
    go_wp2_with fail
    go_ret
    exact ⟨rfl, hB⟩
  · skip
    have y1 : (c == 0) = false := beq_eq_false_iff_ne.2 (by omega)
    have hI : isIdP c n = false := decide_eq_false (by omega)
    have hN : ¬ (c = 0 ∧ n = 0) := fun h => by omega
    have d0 : w5.cell? ⟨w1.heap.size, 0, none⟩ = some (.int .i64 2) := by rw [Lib.cell_of_heap hbx]; rfl
    have d1 : w5.cell? ⟨w1.heap.size, 1, none⟩ = some (.int .i64 3) := by rw [Lib.cell_of_heap hbx]; rfl
    have d2 : w5.cell? ⟨w1.heap.size, 2, none⟩ = some (.int .i64 4) := by rw [Lib.cell_of_heap hbx]; rfl
    have d3 : w5.cell? ⟨w1.heap.size, 3, none⟩ = some (.int .i64 1) := by rw [Lib.cell_of_heap hbx]; rfl
    have d4 : w5.cell? ⟨w1.heap.size, 4, none⟩ = some (.string ⟨#[]⟩) := by rw [Lib.cell_of_heap hbx]; rfl
    have d5 : w5.cell? ⟨w1.heap.size, 5, none⟩ = some (.slice none 0 0) := by rw [Lib.cell_of_heap hbx]; rfl
    have d6 : w5.cell? ⟨w1.heap.size, 6, none⟩ = some (.int .i64 0) := by rw [Lib.cell_of_heap hbx]; rfl
    have d7 : w5.cell? ⟨w1.heap.size, 7, none⟩ = some (.int .i64 0) := by rw [Lib.cell_of_heap hbx]; rfl
    have d8 : w5.cell? ⟨w1.heap.size, 8, none⟩ = some (.bool false) := by rw [Lib.cell_of_heap hbx]; rfl
    have z0 : w5.frozen? ⟨w1.heap.size, 0, none⟩ = false := Lib.frozen_of_heap hbx 0
    have z1 : w5.frozen? ⟨w1.heap.size, 1, none⟩ = false := Lib.frozen_of_heap hbx 1
    go_wp2_with fail
    have hBs0 := hB.setCell (p := ⟨w1.heap.size, 0, none⟩) hB1.size (.int .i64 c)
    have hxs0 : (w5.setCell ⟨w1.heap.size, 0, none⟩ (.int .i64 c)).heap[w1.heap.size]? = some (.cells #[.int .i64 c, .int .i64 3, .int .i64 4, .int .i64 1, .string ⟨#[]⟩, .slice none 0 0, .int .i64 0, .int .i64 0, .bool false] 31) := (heap_setCell_same _ w1.heap.size 0 _ _ _ hbx).trans (by simp)
    have hBs1 := hBs0.setCell (p := ⟨w1.heap.size, 1, none⟩) hB1.size (.int .i64 n)
    have hxs1 : ((w5.setCell ⟨w1.heap.size, 0, none⟩ (.int .i64 c)).setCell ⟨w1.heap.size, 1, none⟩ (.int .i64 n)).heap[w1.heap.size]? = some (.cells #[.int .i64 c, .int .i64 n, .int .i64 4, .int .i64 1, .string ⟨#[]⟩, .slice none 0 0, .int .i64 0, .int .i64 0, .bool false] 31) := (heap_setCell_same _ w1.heap.size 1 _ _ _ hxs0).trans (by simp)
    have hBs := hBs1
    have hxs := hxs1
    refine (HA.out ⟨c, n, 4, 1, ⟨#[]⟩, [], 0, 0, false⟩ t 41 _ none 0 0 hBs (opCheck_id (hTt h0 h1) (by simp) hN hI) (rng_nil _) (Nat.le_of_ble_eq_true rfl)).mono ?_
    rintro e w6 ⟨rfl, hb⟩
    have hbx2 : w6.heap[w1.heap.size]? = some (.cells #[.int .i64 c, .int .i64 n, .int .i64 4, .int .i64 1, .string ⟨#[]⟩, .slice none 0 0, .int .i64 0, .int .i64 0, .bool false] 31) := (hb.block _ (Array.getElem?_eq_some_iff.1 hxs).1).trans hxs
    have hB2 := hBs.trans (hb.mono hBs.size)
    clear hB hbx hxs1 hxs0 hBs1 hBs0 z1 z0 d8 d7 d6 d5 d4 d3 d2 d1 d0 hxs hBs hb
    have hbx := hbx2
    have hB := hB2
    clear hbx2 hB2
    have d0 : w6.cell? ⟨w1.heap.size, 0, none⟩ = some (.int .i64 c) := by rw [Lib.cell_of_heap hbx]; rfl
    have d1 : w6.cell? ⟨w1.heap.size, 1, none⟩ = some (.int .i64 n) := by rw [Lib.cell_of_heap hbx]; rfl
    have d2 : w6.cell? ⟨w1.heap.size, 2, none⟩ = some (.int .i64 4) := by rw [Lib.cell_of_heap hbx]; rfl
    have d3 : w6.cell? ⟨w1.heap.size, 3, none⟩ = some (.int .i64 1) := by rw [Lib.cell_of_heap hbx]; rfl
    have d4 : w6.cell? ⟨w1.heap.size, 4, none⟩ = some (.string ⟨#[]⟩) := by rw [Lib.cell_of_heap hbx]; rfl
    have d5 : w6.cell? ⟨w1.heap.size, 5, none⟩ = some (.slice none 0 0) := by rw [Lib.cell_of_heap hbx]; rfl
    have d6 : w6.cell? ⟨w1.heap.size, 6, none⟩ = some (.int .i64 0) := by rw [Lib.cell_of_heap hbx]; rfl
    have d7 : w6.cell? ⟨w1.heap.size, 7, none⟩ = some (.int .i64 0) := by rw [Lib.cell_of_heap hbx]; rfl
    have d8 : w6.cell? ⟨w1.heap.size, 8, none⟩ = some (.bool false) := by rw [Lib.cell_of_heap hbx]; rfl
    have z2 : w6.frozen? ⟨w1.heap.size, 2, none⟩ = false := Lib.frozen_of_heap hbx 2
    go_wp2_with fail
    have hBs0 := hB.setCell (p := ⟨w1.heap.size, 2, none⟩) hB1.size (.int .i64 0)
    have hxs0 : (w6.setCell ⟨w1.heap.size, 2, none⟩ (.int .i64 0)).heap[w1.heap.size]? = some (.cells #[.int .i64 c, .int .i64 n, .int .i64 0, .int .i64 1, .string ⟨#[]⟩, .slice none 0 0, .int .i64 0, .int .i64 0, .bool false] 31) := (heap_setCell_same _ w1.heap.size 2 _ _ _ hbx).trans (by simp)
    have hBs := hBs0
    have hxs := hxs0
    refine (HA.out ⟨c, n, 0, 1, ⟨#[]⟩, [], 0, 0, false⟩ t 40 _ none 0 0 hBs (opCheck_kind (hTt h0 h1) (.inl (by simp))) (rng_nil _) (Nat.le_of_ble_eq_true rfl)).mono ?_
    rintro e w7 ⟨rfl, hb⟩
    have hbx2 : w7.heap[w1.heap.size]? = some (.cells #[.int .i64 c, .int .i64 n, .int .i64 0, .int .i64 1, .string ⟨#[]⟩, .slice none 0 0, .int .i64 0, .int .i64 0, .bool false] 31) := (hb.block _ (Array.getElem?_eq_some_iff.1 hxs).1).trans hxs
    have hB2 := hBs.trans (hb.mono hBs.size)
    clear hB hbx hxs0 hBs0 z2 d8 d7 d6 d5 d4 d3 d2 d1 d0 hxs hBs hb
    have hbx := hbx2
    have hB := hB2
    clear hbx2 hB2
    have d0 : w7.cell? ⟨w1.heap.size, 0, none⟩ = some (.int .i64 c) := by rw [Lib.cell_of_heap hbx]; rfl
    have d1 : w7.cell? ⟨w1.heap.size, 1, none⟩ = some (.int .i64 n) := by rw [Lib.cell_of_heap hbx]; rfl
    have d2 : w7.cell? ⟨w1.heap.size, 2, none⟩ = some (.int .i64 0) := by rw [Lib.cell_of_heap hbx]; rfl
    have d3 : w7.cell? ⟨w1.heap.size, 3, none⟩ = some (.int .i64 1) := by rw [Lib.cell_of_heap hbx]; rfl
    have d4 : w7.cell? ⟨w1.heap.size, 4, none⟩ = some (.string ⟨#[]⟩) := by rw [Lib.cell_of_heap hbx]; rfl
    have d5 : w7.cell? ⟨w1.heap.size, 5, none⟩ = some (.slice none 0 0) := by rw [Lib.cell_of_heap hbx]; rfl
    have d6 : w7.cell? ⟨w1.heap.size, 6, none⟩ = some (.int .i64 0) := by rw [Lib.cell_of_heap hbx]; rfl
    have d7 : w7.cell? ⟨w1.heap.size, 7, none⟩ = some (.int .i64 0) := by rw [Lib.cell_of_heap hbx]; rfl
    have d8 : w7.cell? ⟨w1.heap.size, 8, none⟩ = some (.bool false) := by rw [Lib.cell_of_heap hbx]; rfl
    have z2 : w7.frozen? ⟨w1.heap.size, 2, none⟩ = false := Lib.frozen_of_heap hbx 2
    go_wp2_with fail
    have hBs0 := hB.setCell (p := ⟨w1.heap.size, 2, none⟩) hB1.size (.int .i64 5)
    have hxs0 : (w7.setCell ⟨w1.heap.size, 2, none⟩ (.int .i64 5)).heap[w1.heap.size]? = some (.cells #[.int .i64 c, .int .i64 n, .int .i64 5, .int .i64 1, .string ⟨#[]⟩, .slice none 0 0, .int .i64 0, .int .i64 0, .bool false] 31) := (heap_setCell_same _ w1.heap.size 2 _ _ _ hbx).trans (by simp)
    have hBs := hBs0
    have hxs := hxs0
    refine (HA.out ⟨c, n, 5, 1, ⟨#[]⟩, [], 0, 0, false⟩ t 40 _ none 0 0 hBs (opCheck_kind (hTt h0 h1) (.inr (by simp))) (rng_nil _) (Nat.le_of_ble_eq_true rfl)).mono ?_
    rintro e w8 ⟨rfl, hb⟩
    have hbx2 : w8.heap[w1.heap.size]? = some (.cells #[.int .i64 c, .int .i64 n, .int .i64 5, .int .i64 1, .string ⟨#[]⟩, .slice none 0 0, .int .i64 0, .int .i64 0, .bool false] 31) := (hb.block _ (Array.getElem?_eq_some_iff.1 hxs).1).trans hxs
    have hB2 := hBs.trans (hb.mono hBs.size)
    clear hB hbx hxs0 hBs0 z2 d8 d7 d6 d5 d4 d3 d2 d1 d0 hxs hBs hb
    have hbx := hbx2
    have hB := hB2
    clear hbx2 hB2
    have d0 : w8.cell? ⟨w1.heap.size, 0, none⟩ = some (.int .i64 c) := by rw [Lib.cell_of_heap hbx]; rfl
    have d1 : w8.cell? ⟨w1.heap.size, 1, none⟩ = some (.int .i64 n) := by rw [Lib.cell_of_heap hbx]; rfl
    have d2 : w8.cell? ⟨w1.heap.size, 2, none⟩ = some (.int .i64 5) := by rw [Lib.cell_of_heap hbx]; rfl
    have d3 : w8.cell? ⟨w1.heap.size, 3, none⟩ = some (.int .i64 1) := by rw [Lib.cell_of_heap hbx]; rfl
    have d4 : w8.cell? ⟨w1.heap.size, 4, none⟩ = some (.string ⟨#[]⟩) := by rw [Lib.cell_of_heap hbx]; rfl
    have d5 : w8.cell? ⟨w1.heap.size, 5, none⟩ = some (.slice none 0 0) := by rw [Lib.cell_of_heap hbx]; rfl
    have d6 : w8.cell? ⟨w1.heap.size, 6, none⟩ = some (.int .i64 0) := by rw [Lib.cell_of_heap hbx]; rfl
    have d7 : w8.cell? ⟨w1.heap.size, 7, none⟩ = some (.int .i64 0) := by rw [Lib.cell_of_heap hbx]; rfl
    have d8 : w8.cell? ⟨w1.heap.size, 8, none⟩ = some (.bool false) := by rw [Lib.cell_of_heap hbx]; rfl
    go_wp2_with fail
    have hBs := hB
    have hxs := hbx
    refine (HA.out ⟨c, n, 5, 1, ⟨#[]⟩, [], 0, 0, false⟩ (-1) 12 _ none 0 0 hBs (opCheck_total (.inl (by decide))) (rng_nil _) (Nat.le_of_ble_eq_true rfl)).mono ?_
    rintro e w9 ⟨rfl, hb⟩
    have hbx2 : w9.heap[w1.heap.size]? = some (.cells #[.int .i64 c, .int .i64 n, .int .i64 5, .int .i64 1, .string ⟨#[]⟩, .slice none 0 0, .int .i64 0, .int .i64 0, .bool false] 31) := (hb.block _ (Array.getElem?_eq_some_iff.1 hxs).1).trans hxs
    have hB2 := hBs.trans (hb.mono hBs.size)
    clear hB hbx d8 d7 d6 d5 d4 d3 d2 d1 d0 hxs hBs hb
    have hbx := hbx2
    have hB := hB2
    clear hbx2 hB2
    have d0 : w9.cell? ⟨w1.heap.size, 0, none⟩ = some (.int .i64 c) := by rw [Lib.cell_of_heap hbx]; rfl
    have d1 : w9.cell? ⟨w1.heap.size, 1, none⟩ = some (.int .i64 n) := by rw [Lib.cell_of_heap hbx]; rfl
    have d2 : w9.cell? ⟨w1.heap.size, 2, none⟩ = some (.int .i64 5) := by rw [Lib.cell_of_heap hbx]; rfl
    have d3 : w9.cell? ⟨w1.heap.size, 3, none⟩ = some (.int .i64 1) := by rw [Lib.cell_of_heap hbx]; rfl
    have d4 : w9.cell? ⟨w1.heap.size, 4, none⟩ = some (.string ⟨#[]⟩) := by rw [Lib.cell_of_heap hbx]; rfl
    have d5 : w9.cell? ⟨w1.heap.size, 5, none⟩ = some (.slice none 0 0) := by rw [Lib.cell_of_heap hbx]; rfl
    have d6 : w9.cell? ⟨w1.heap.size, 6, none⟩ = some (.int .i64 0) := by rw [Lib.cell_of_heap hbx]; rfl
    have d7 : w9.cell? ⟨w1.heap.size, 7, none⟩ = some (.int .i64 0) := by rw [Lib.cell_of_heap hbx]; rfl
    have d8 : w9.cell? ⟨w1.heap.size, 8, none⟩ = some (.bool false) := by rw [Lib.cell_of_heap hbx]; rfl
    go_wp2_with fail
    have hBs := hB
    have hxs := hbx
    refine (HA.out ⟨c, n, 5, 1, ⟨#[]⟩, [], 0, 0, false⟩ 1048577 12 _ none 0 0 hBs (opCheck_total (.inr (by decide))) (rng_nil _) (Nat.le_of_ble_eq_true rfl)).mono ?_
    rintro e w10 ⟨rfl, hb⟩
    have hbx2 : w10.heap[w1.heap.size]? = some (.cells #[.int .i64 c, .int .i64 n, .int .i64 5, .int .i64 1, .string ⟨#[]⟩, .slice none 0 0, .int .i64 0, .int .i64 0, .bool false] 31) := (hb.block _ (Array.getElem?_eq_some_iff.1 hxs).1).trans hxs
    have hB2 := hBs.trans (hb.mono hBs.size)
    clear hB hbx d8 d7 d6 d5 d4 d3 d2 d1 d0 hxs hBs hb
    have hbx := hbx2
    have hB := hB2
    clear hbx2 hB2
    go_wp2_with fail
    go_ret
    exact ⟨rfl, hB⟩
  · skip
    have y1 : (c == 0) = false := beq_eq_false_iff_ne.2 (by omega)
    have hI : isIdP c n = false := decide_eq_false (by omega)
    have hN : ¬ (c = 0 ∧ n = 0) := fun h => by omega
    have d0 : w5.cell? ⟨w1.heap.size, 0, none⟩ = some (.int .i64 2) := by rw [Lib.cell_of_heap hbx]; rfl
    have d1 : w5.cell? ⟨w1.heap.size, 1, none⟩ = some (.int .i64 3) := by rw [Lib.cell_of_heap hbx]; rfl
    have d2 : w5.cell? ⟨w1.heap.size, 2, none⟩ = some (.int .i64 4) := by rw [Lib.cell_of_heap hbx]; rfl
    have d3 : w5.cell? ⟨w1.heap.size, 3, none⟩ = some (.int .i64 1) := by rw [Lib.cell_of_heap hbx]; rfl
    have d4 : w5.cell? ⟨w1.heap.size, 4, none⟩ = some (.string ⟨#[]⟩) := by rw [Lib.cell_of_heap hbx]; rfl
    have d5 : w5.cell? ⟨w1.heap.size, 5, none⟩ = some (.slice none 0 0) := by rw [Lib.cell_of_heap hbx]; rfl
    have d6 : w5.cell? ⟨w1.heap.size, 6, none⟩ = some (.int .i64 0) := by rw [Lib.cell_of_heap hbx]; rfl
    have d7 : w5.cell? ⟨w1.heap.size, 7, none⟩ = some (.int .i64 0) := by rw [Lib.cell_of_heap hbx]; rfl
    have d8 : w5.cell? ⟨w1.heap.size, 8, none⟩ = some (.bool false) := by rw [Lib.cell_of_heap hbx]; rfl
    have z0 : w5.frozen? ⟨w1.heap.size, 0, none⟩ = false := Lib.frozen_of_heap hbx 0
    have z1 : w5.frozen? ⟨w1.heap.size, 1, none⟩ = false := Lib.frozen_of_heap hbx 1
    go_wp2_with fail
    have hBs0 := hB.setCell (p := ⟨w1.heap.size, 0, none⟩) hB1.size (.int .i64 c)
    have hxs0 : (w5.setCell ⟨w1.heap.size, 0, none⟩ (.int .i64 c)).heap[w1.heap.size]? = some (.cells #[.int .i64 c, .int .i64 3, .int .i64 4, .int .i64 1, .string ⟨#[]⟩, .slice none 0 0, .int .i64 0, .int .i64 0, .bool false] 31) := (heap_setCell_same _ w1.heap.size 0 _ _ _ hbx).trans (by simp)
    have hBs1 := hBs0.setCell (p := ⟨w1.heap.size, 1, none⟩) hB1.size (.int .i64 n)
    have hxs1 : ((w5.setCell ⟨w1.heap.size, 0, none⟩ (.int .i64 c)).setCell ⟨w1.heap.size, 1, none⟩ (.int .i64 n)).heap[w1.heap.size]? = some (.cells #[.int .i64 c, .int .i64 n, .int .i64 4, .int .i64 1, .string ⟨#[]⟩, .slice none 0 0, .int .i64 0, .int .i64 0, .bool false] 31) := (heap_setCell_same _ w1.heap.size 1 _ _ _ hxs0).trans (by simp)
    have hBs := hBs1
    have hxs := hxs1
    refine (HA.out ⟨c, n, 4, 1, ⟨#[]⟩, [], 0, 0, false⟩ t 41 _ none 0 0 hBs (opCheck_id (hTt h0 h1) (by simp) hN hI) (rng_nil _) (Nat.le_of_ble_eq_true rfl)).mono ?_
    rintro e w6 ⟨rfl, hb⟩
    have hbx2 : w6.heap[w1.heap.size]? = some (.cells #[.int .i64 c, .int .i64 n, .int .i64 4, .int .i64 1, .string ⟨#[]⟩, .slice none 0 0, .int .i64 0, .int .i64 0, .bool false] 31) := (hb.block _ (Array.getElem?_eq_some_iff.1 hxs).1).trans hxs
    have hB2 := hBs.trans (hb.mono hBs.size)
    clear hB hbx hxs1 hxs0 hBs1 hBs0 z1 z0 d8 d7 d6 d5 d4 d3 d2 d1 d0 hxs hBs hb
    have hbx := hbx2
    have hB := hB2
    clear hbx2 hB2
    have d0 : w6.cell? ⟨w1.heap.size, 0, none⟩ = some (.int .i64 c) := by rw [Lib.cell_of_heap hbx]; rfl
    have d1 : w6.cell? ⟨w1.heap.size, 1, none⟩ = some (.int .i64 n) := by rw [Lib.cell_of_heap hbx]; rfl
    have d2 : w6.cell? ⟨w1.heap.size, 2, none⟩ = some (.int .i64 4) := by rw [Lib.cell_of_heap hbx]; rfl
    have d3 : w6.cell? ⟨w1.heap.size, 3, none⟩ = some (.int .i64 1) := by rw [Lib.cell_of_heap hbx]; rfl
    have d4 : w6.cell? ⟨w1.heap.size, 4, none⟩ = some (.string ⟨#[]⟩) := by rw [Lib.cell_of_heap hbx]; rfl
    have d5 : w6.cell? ⟨w1.heap.size, 5, none⟩ = some (.slice none 0 0) := by rw [Lib.cell_of_heap hbx]; rfl
    have d6 : w6.cell? ⟨w1.heap.size, 6, none⟩ = some (.int .i64 0) := by rw [Lib.cell_of_heap hbx]; rfl
    have d7 : w6.cell? ⟨w1.heap.size, 7, none⟩ = some (.int .i64 0) := by rw [Lib.cell_of_heap hbx]; rfl
    have d8 : w6.cell? ⟨w1.heap.size, 8, none⟩ = some (.bool false) := by rw [Lib.cell_of_heap hbx]; rfl
    have z2 : w6.frozen? ⟨w1.heap.size, 2, none⟩ = false := Lib.frozen_of_heap hbx 2
    go_wp2_with fail
    have hBs0 := hB.setCell (p := ⟨w1.heap.size, 2, none⟩) hB1.size (.int .i64 0)
    have hxs0 : (w6.setCell ⟨w1.heap.size, 2, none⟩ (.int .i64 0)).heap[w1.heap.size]? = some (.cells #[.int .i64 c, .int .i64 n, .int .i64 0, .int .i64 1, .string ⟨#[]⟩, .slice none 0 0, .int .i64 0, .int .i64 0, .bool false] 31) := (heap_setCell_same _ w1.heap.size 2 _ _ _ hbx).trans (by simp)
    have hBs := hBs0
    have hxs := hxs0
    refine (HA.out ⟨c, n, 0, 1, ⟨#[]⟩, [], 0, 0, false⟩ t 40 _ none 0 0 hBs (opCheck_kind (hTt h0 h1) (.inl (by simp))) (rng_nil _) (Nat.le_of_ble_eq_true rfl)).mono ?_
    rintro e w7 ⟨rfl, hb⟩
    have hbx2 : w7.heap[w1.heap.size]? = some (.cells #[.int .i64 c, .int .i64 n, .int .i64 0, .int .i64 1, .string ⟨#[]⟩, .slice none 0 0, .int .i64 0, .int .i64 0, .bool false] 31) := (hb.block _ (Array.getElem?_eq_some_iff.1 hxs).1).trans hxs
    have hB2 := hBs.trans (hb.mono hBs.size)
    clear hB hbx hxs0 hBs0 z2 d8 d7 d6 d5 d4 d3 d2 d1 d0 hxs hBs hb
    have hbx := hbx2
    have hB := hB2
    clear hbx2 hB2
    have d0 : w7.cell? ⟨w1.heap.size, 0, none⟩ = some (.int .i64 c) := by rw [Lib.cell_of_heap hbx]; rfl
    have d1 : w7.cell? ⟨w1.heap.size, 1, none⟩ = some (.int .i64 n) := by rw [Lib.cell_of_heap hbx]; rfl
    have d2 : w7.cell? ⟨w1.heap.size, 2, none⟩ = some (.int .i64 0) := by rw [Lib.cell_of_heap hbx]; rfl
    have d3 : w7.cell? ⟨w1.heap.size, 3, none⟩ = some (.int .i64 1) := by rw [Lib.cell_of_heap hbx]; rfl
    have d4 : w7.cell? ⟨w1.heap.size, 4, none⟩ = some (.string ⟨#[]⟩) := by rw [Lib.cell_of_heap hbx]; rfl
    have d5 : w7.cell? ⟨w1.heap.size, 5, none⟩ = some (.slice none 0 0) := by rw [Lib.cell_of_heap hbx]; rfl
    have d6 : w7.cell? ⟨w1.heap.size, 6, none⟩ = some (.int .i64 0) := by rw [Lib.cell_of_heap hbx]; rfl
    have d7 : w7.cell? ⟨w1.heap.size, 7, none⟩ = some (.int .i64 0) := by rw [Lib.cell_of_heap hbx]; rfl
    have d8 : w7.cell? ⟨w1.heap.size, 8, none⟩ = some (.bool false) := by rw [Lib.cell_of_heap hbx]; rfl
    have z2 : w7.frozen? ⟨w1.heap.size, 2, none⟩ = false := Lib.frozen_of_heap hbx 2
    go_wp2_with fail
    have hBs0 := hB.setCell (p := ⟨w1.heap.size, 2, none⟩) hB1.size (.int .i64 5)
    have hxs0 : (w7.setCell ⟨w1.heap.size, 2, none⟩ (.int .i64 5)).heap[w1.heap.size]? = some (.cells #[.int .i64 c, .int .i64 n, .int .i64 5, .int .i64 1, .string ⟨#[]⟩, .slice none 0 0, .int .i64 0, .int .i64 0, .bool false] 31) := (heap_setCell_same _ w1.heap.size 2 _ _ _ hbx).trans (by simp)
    have hBs := hBs0
    have hxs := hxs0
    refine (HA.out ⟨c, n, 5, 1, ⟨#[]⟩, [], 0, 0, false⟩ t 40 _ none 0 0 hBs (opCheck_kind (hTt h0 h1) (.inr (by simp))) (rng_nil _) (Nat.le_of_ble_eq_true rfl)).mono ?_
    rintro e w8 ⟨rfl, hb⟩
    have hbx2 : w8.heap[w1.heap.size]? = some (.cells #[.int .i64 c, .int .i64 n, .int .i64 5, .int .i64 1, .string ⟨#[]⟩, .slice none 0 0, .int .i64 0, .int .i64 0, .bool false] 31) := (hb.block _ (Array.getElem?_eq_some_iff.1 hxs).1).trans hxs
    have hB2 := hBs.trans (hb.mono hBs.size)
    clear hB hbx hxs0 hBs0 z2 d8 d7 d6 d5 d4 d3 d2 d1 d0 hxs hBs hb
    have hbx := hbx2
    have hB := hB2
    clear hbx2 hB2
    have d0 : w8.cell? ⟨w1.heap.size, 0, none⟩ = some (.int .i64 c) := by rw [Lib.cell_of_heap hbx]; rfl
    have d1 : w8.cell? ⟨w1.heap.size, 1, none⟩ = some (.int .i64 n) := by rw [Lib.cell_of_heap hbx]; rfl
    have d2 : w8.cell? ⟨w1.heap.size, 2, none⟩ = some (.int .i64 5) := by rw [Lib.cell_of_heap hbx]; rfl
    have d3 : w8.cell? ⟨w1.heap.size, 3, none⟩ = some (.int .i64 1) := by rw [Lib.cell_of_heap hbx]; rfl
    have d4 : w8.cell? ⟨w1.heap.size, 4, none⟩ = some (.string ⟨#[]⟩) := by rw [Lib.cell_of_heap hbx]; rfl
    have d5 : w8.cell? ⟨w1.heap.size, 5, none⟩ = some (.slice none 0 0) := by rw [Lib.cell_of_heap hbx]; rfl
    have d6 : w8.cell? ⟨w1.heap.size, 6, none⟩ = some (.int .i64 0) := by rw [Lib.cell_of_heap hbx]; rfl
    have d7 : w8.cell? ⟨w1.heap.size, 7, none⟩ = some (.int .i64 0) := by rw [Lib.cell_of_heap hbx]; rfl
    have d8 : w8.cell? ⟨w1.heap.size, 8, none⟩ = some (.bool false) := by rw [Lib.cell_of_heap hbx]; rfl
    go_wp2_with fail
    have hBs := hB
    have hxs := hbx
    refine (HA.out ⟨c, n, 5, 1, ⟨#[]⟩, [], 0, 0, false⟩ (-1) 12 _ none 0 0 hBs (opCheck_total (.inl (by decide))) (rng_nil _) (Nat.le_of_ble_eq_true rfl)).mono ?_
    rintro e w9 ⟨rfl, hb⟩
    have hbx2 : w9.heap[w1.heap.size]? = some (.cells #[.int .i64 c, .int .i64 n, .int .i64 5, .int .i64 1, .string ⟨#[]⟩, .slice none 0 0, .int .i64 0, .int .i64 0, .bool false] 31) := (hb.block _ (Array.getElem?_eq_some_iff.1 hxs).1).trans hxs
    have hB2 := hBs.trans (hb.mono hBs.size)
    clear hB hbx d8 d7 d6 d5 d4 d3 d2 d1 d0 hxs hBs hb
    have hbx := hbx2
    have hB := hB2
    clear hbx2 hB2
    have d0 : w9.cell? ⟨w1.heap.size, 0, none⟩ = some (.int .i64 c) := by rw [Lib.cell_of_heap hbx]; rfl
    have d1 : w9.cell? ⟨w1.heap.size, 1, none⟩ = some (.int .i64 n) := by rw [Lib.cell_of_heap hbx]; rfl
    have d2 : w9.cell? ⟨w1.heap.size, 2, none⟩ = some (.int .i64 5) := by rw [Lib.cell_of_heap hbx]; rfl
    have d3 : w9.cell? ⟨w1.heap.size, 3, none⟩ = some (.int .i64 1) := by rw [Lib.cell_of_heap hbx]; rfl
    have d4 : w9.cell? ⟨w1.heap.size, 4, none⟩ = some (.string ⟨#[]⟩) := by rw [Lib.cell_of_heap hbx]; rfl
    have d5 : w9.cell? ⟨w1.heap.size, 5, none⟩ = some (.slice none 0 0) := by rw [Lib.cell_of_heap hbx]; rfl
    have d6 : w9.cell? ⟨w1.heap.size, 6, none⟩ = some (.int .i64 0) := by rw [Lib.cell_of_heap hbx]; rfl
    have d7 : w9.cell? ⟨w1.heap.size, 7, none⟩ = some (.int .i64 0) := by rw [Lib.cell_of_heap hbx]; rfl
    have d8 : w9.cell? ⟨w1.heap.size, 8, none⟩ = some (.bool false) := by rw [Lib.cell_of_heap hbx]; rfl
    go_wp2_with fail
    have hBs := hB
    have hxs := hbx
    refine (HA.out ⟨c, n, 5, 1, ⟨#[]⟩, [], 0, 0, false⟩ 1048577 12 _ none 0 0 hBs (opCheck_total (.inr (by decide))) (rng_nil _) (Nat.le_of_ble_eq_true rfl)).mono ?_
    rintro e w10 ⟨rfl, hb⟩
    have hbx2 : w10.heap[w1.heap.size]? = some (.cells #[.int .i64 c, .int .i64 n, .int .i64 5, .int .i64 1, .string ⟨#[]⟩, .slice none 0 0, .int .i64 0, .int .i64 0, .bool false] 31) := (hb.block _ (Array.getElem?_eq_some_iff.1 hxs).1).trans hxs
    have hB2 := hBs.trans (hb.mono hBs.size)
    clear hB hbx d8 d7 d6 d5 d4 d3 d2 d1 d0 hxs hBs hb
    have hbx := hbx2
    have hB := hB2
    clear hbx2 hB2
    go_wp2_with fail
    go_ret
    exact ⟨rfl, hB⟩
  · skip
    have y1 : (c == 0) = false := beq_eq_false_iff_ne.2 (by omega)
    have hI : isIdP c n = false := decide_eq_false (by omega)
    have hN : ¬ (c = 0 ∧ n = 0) := fun h => by omega
    have d0 : w5.cell? ⟨w1.heap.size, 0, none⟩ = some (.int .i64 2) := by rw [Lib.cell_of_heap hbx]; rfl
    have d1 : w5.cell? ⟨w1.heap.size, 1, none⟩ = some (.int .i64 3) := by rw [Lib.cell_of_heap hbx]; rfl
    have d2 : w5.cell? ⟨w1.heap.size, 2, none⟩ = some (.int .i64 4) := by rw [Lib.cell_of_heap hbx]; rfl
    have d3 : w5.cell? ⟨w1.heap.size, 3, none⟩ = some (.int .i64 1) := by rw [Lib.cell_of_heap hbx]; rfl
    have d4 : w5.cell? ⟨w1.heap.size, 4, none⟩ = some (.string ⟨#[]⟩) := by rw [Lib.cell_of_heap hbx]; rfl
    have d5 : w5.cell? ⟨w1.heap.size, 5, none⟩ = some (.slice none 0 0) := by rw [Lib.cell_of_heap hbx]; rfl
    have d6 : w5.cell? ⟨w1.heap.size, 6, none⟩ = some (.int .i64 0) := by rw [Lib.cell_of_heap hbx]; rfl
    have d7 : w5.cell? ⟨w1.heap.size, 7, none⟩ = some (.int .i64 0) := by rw [Lib.cell_of_heap hbx]; rfl
    have d8 : w5.cell? ⟨w1.heap.size, 8, none⟩ = some (.bool false) := by rw [Lib.cell_of_heap hbx]; rfl
    have z0 : w5.frozen? ⟨w1.heap.size, 0, none⟩ = false := Lib.frozen_of_heap hbx 0
    have z1 : w5.frozen? ⟨w1.heap.size, 1, none⟩ = false := Lib.frozen_of_heap hbx 1
    go_wp2_with fail
    have hBs0 := hB.setCell (p := ⟨w1.heap.size, 0, none⟩) hB1.size (.int .i64 c)
    have hxs0 : (w5.setCell ⟨w1.heap.size, 0, none⟩ (.int .i64 c)).heap[w1.heap.size]? = some (.cells #[.int .i64 c, .int .i64 3, .int .i64 4, .int .i64 1, .string ⟨#[]⟩, .slice none 0 0, .int .i64 0, .int .i64 0, .bool false] 31) := (heap_setCell_same _ w1.heap.size 0 _ _ _ hbx).trans (by simp)
    have hBs1 := hBs0.setCell (p := ⟨w1.heap.size, 1, none⟩) hB1.size (.int .i64 n)
    have hxs1 : ((w5.setCell ⟨w1.heap.size, 0, none⟩ (.int .i64 c)).setCell ⟨w1.heap.size, 1, none⟩ (.int .i64 n)).heap[w1.heap.size]? = some (.cells #[.int .i64 c, .int .i64 n, .int .i64 4, .int .i64 1, .string ⟨#[]⟩, .slice none 0 0, .int .i64 0, .int .i64 0, .bool false] 31) := (heap_setCell_same _ w1.heap.size 1 _ _ _ hxs0).trans (by simp)
    have hBs := hBs1
    have hxs := hxs1
    refine (HA.out ⟨c, n, 4, 1, ⟨#[]⟩, [], 0, 0, false⟩ t 41 _ none 0 0 hBs (opCheck_id (hTt h0 h1) (by simp) hN hI) (rng_nil _) (Nat.le_of_ble_eq_true rfl)).mono ?_
    rintro e w6 ⟨rfl, hb⟩
    have hbx2 : w6.heap[w1.heap.size]? = some (.cells #[.int .i64 c, .int .i64 n, .int .i64 4, .int .i64 1, .string ⟨#[]⟩, .slice none 0 0, .int .i64 0, .int .i64 0, .bool false] 31) := (hb.block _ (Array.getElem?_eq_some_iff.1 hxs).1).trans hxs
    have hB2 := hBs.trans (hb.mono hBs.size)
    clear hB hbx hxs1 hxs0 hBs1 hBs0 z1 z0 d8 d7 d6 d5 d4 d3 d2 d1 d0 hxs hBs hb
    have hbx := hbx2
    have hB := hB2
    clear hbx2 hB2
    have d0 : w6.cell? ⟨w1.heap.size, 0, none⟩ = some (.int .i64 c) := by rw [Lib.cell_of_heap hbx]; rfl
    have d1 : w6.cell? ⟨w1.heap.size, 1, none⟩ = some (.int .i64 n) := by rw [Lib.cell_of_heap hbx]; rfl
    have d2 : w6.cell? ⟨w1.heap.size, 2, none⟩ = some (.int .i64 4) := by rw [Lib.cell_of_heap hbx]; rfl
    have d3 : w6.cell? ⟨w1.heap.size, 3, none⟩ = some (.int .i64 1) := by rw [Lib.cell_of_heap hbx]; rfl
    have d4 : w6.cell? ⟨w1.heap.size, 4, none⟩ = some (.string ⟨#[]⟩) := by rw [Lib.cell_of_heap hbx]; rfl
    have d5 : w6.cell? ⟨w1.heap.size, 5, none⟩ = some (.slice none 0 0) := by rw [Lib.cell_of_heap hbx]; rfl
    have d6 : w6.cell? ⟨w1.heap.size, 6, none⟩ = some (.int .i64 0) := by rw [Lib.cell_of_heap hbx]; rfl
    have d7 : w6.cell? ⟨w1.heap.size, 7, none⟩ = some (.int .i64 0) := by rw [Lib.cell_of_heap hbx]; rfl
    have d8 : w6.cell? ⟨w1.heap.size, 8, none⟩ = some (.bool false) := by rw [Lib.cell_of_heap hbx]; rfl
    have z2 : w6.frozen? ⟨w1.heap.size, 2, none⟩ = false := Lib.frozen_of_heap hbx 2
    go_wp2_with fail
    have hBs0 := hB.setCell (p := ⟨w1.heap.size, 2, none⟩) hB1.size (.int .i64 0)
    have hxs0 : (w6.setCell ⟨w1.heap.size, 2, none⟩ (.int .i64 0)).heap[w1.heap.size]? = some (.cells #[.int .i64 c, .int .i64 n, .int .i64 0, .int .i64 1, .string ⟨#[]⟩, .slice none 0 0, .int .i64 0, .int .i64 0, .bool false] 31) := (heap_setCell_same _ w1.heap.size 2 _ _ _ hbx).trans (by simp)
    have hBs := hBs0
    have hxs := hxs0
    refine (HA.out ⟨c, n, 0, 1, ⟨#[]⟩, [], 0, 0, false⟩ t 40 _ none 0 0 hBs (opCheck_kind (hTt h0 h1) (.inl (by simp))) (rng_nil _) (Nat.le_of_ble_eq_true rfl)).mono ?_
    rintro e w7 ⟨rfl, hb⟩
    have hbx2 : w7.heap[w1.heap.size]? = some (.cells #[.int .i64 c, .int .i64 n, .int .i64 0, .int .i64 1, .string ⟨#[]⟩, .slice none 0 0, .int .i64 0, .int .i64 0, .bool false] 31) := (hb.block _ (Array.getElem?_eq_some_iff.1 hxs).1).trans hxs
    have hB2 := hBs.trans (hb.mono hBs.size)
    clear hB hbx hxs0 hBs0 z2 d8 d7 d6 d5 d4 d3 d2 d1 d0 hxs hBs hb
    have hbx := hbx2
    have hB := hB2
    clear hbx2 hB2
    have d0 : w7.cell? ⟨w1.heap.size, 0, none⟩ = some (.int .i64 c) := by rw [Lib.cell_of_heap hbx]; rfl
    have d1 : w7.cell? ⟨w1.heap.size, 1, none⟩ = some (.int .i64 n) := by rw [Lib.cell_of_heap hbx]; rfl
    have d2 : w7.cell? ⟨w1.heap.size, 2, none⟩ = some (.int .i64 0) := by rw [Lib.cell_of_heap hbx]; rfl
    have d3 : w7.cell? ⟨w1.heap.size, 3, none⟩ = some (.int .i64 1) := by rw [Lib.cell_of_heap hbx]; rfl
    have d4 : w7.cell? ⟨w1.heap.size, 4, none⟩ = some (.string ⟨#[]⟩) := by rw [Lib.cell_of_heap hbx]; rfl
    have d5 : w7.cell? ⟨w1.heap.size, 5, none⟩ = some (.slice none 0 0) := by rw [Lib.cell_of_heap hbx]; rfl
    have d6 : w7.cell? ⟨w1.heap.size, 6, none⟩ = some (.int .i64 0) := by rw [Lib.cell_of_heap hbx]; rfl
    have d7 : w7.cell? ⟨w1.heap.size, 7, none⟩ = some (.int .i64 0) := by rw [Lib.cell_of_heap hbx]; rfl
    have d8 : w7.cell? ⟨w1.heap.size, 8, none⟩ = some (.bool false) := by rw [Lib.cell_of_heap hbx]; rfl
    have z2 : w7.frozen? ⟨w1.heap.size, 2, none⟩ = false := Lib.frozen_of_heap hbx 2
    go_wp2_with fail
    have hBs0 := hB.setCell (p := ⟨w1.heap.size, 2, none⟩) hB1.size (.int .i64 5)
    have hxs0 : (w7.setCell ⟨w1.heap.size, 2, none⟩ (.int .i64 5)).heap[w1.heap.size]? = some (.cells #[.int .i64 c, .int .i64 n, .int .i64 5, .int .i64 1, .string ⟨#[]⟩, .slice none 0 0, .int .i64 0, .int .i64 0, .bool false] 31) := (heap_setCell_same _ w1.heap.size 2 _ _ _ hbx).trans (by simp)
    have hBs := hBs0
    have hxs := hxs0
    refine (HA.out ⟨c, n, 5, 1, ⟨#[]⟩, [], 0, 0, false⟩ t 40 _ none 0 0 hBs (opCheck_kind (hTt h0 h1) (.inr (by simp))) (rng_nil _) (Nat.le_of_ble_eq_true rfl)).mono ?_
    rintro e w8 ⟨rfl, hb⟩
    have hbx2 : w8.heap[w1.heap.size]? = some (.cells #[.int .i64 c, .int .i64 n, .int .i64 5, .int .i64 1, .string ⟨#[]⟩, .slice none 0 0, .int .i64 0, .int .i64 0, .bool false] 31) := (hb.block _ (Array.getElem?_eq_some_iff.1 hxs).1).trans hxs
    have hB2 := hBs.trans (hb.mono hBs.size)
    clear hB hbx hxs0 hBs0 z2 d8 d7 d6 d5 d4 d3 d2 d1 d0 hxs hBs hb
    have hbx := hbx2
    have hB := hB2
    clear hbx2 hB2
    have d0 : w8.cell? ⟨w1.heap.size, 0, none⟩ = some (.int .i64 c) := by rw [Lib.cell_of_heap hbx]; rfl
    have d1 : w8.cell? ⟨w1.heap.size, 1, none⟩ = some (.int .i64 n) := by rw [Lib.cell_of_heap hbx]; rfl
    have d2 : w8.cell? ⟨w1.heap.size, 2, none⟩ = some (.int .i64 5) := by rw [Lib.cell_of_heap hbx]; rfl
    have d3 : w8.cell? ⟨w1.heap.size, 3, none⟩ = some (.int .i64 1) := by rw [Lib.cell_of_heap hbx]; rfl
    have d4 : w8.cell? ⟨w1.heap.size, 4, none⟩ = some (.string ⟨#[]⟩) := by rw [Lib.cell_of_heap hbx]; rfl
    have d5 : w8.cell? ⟨w1.heap.size, 5, none⟩ = some (.slice none 0 0) := by rw [Lib.cell_of_heap hbx]; rfl
    have d6 : w8.cell? ⟨w1.heap.size, 6, none⟩ = some (.int .i64 0) := by rw [Lib.cell_of_heap hbx]; rfl
    have d7 : w8.cell? ⟨w1.heap.size, 7, none⟩ = some (.int .i64 0) := by rw [Lib.cell_of_heap hbx]; rfl
    have d8 : w8.cell? ⟨w1.heap.size, 8, none⟩ = some (.bool false) := by rw [Lib.cell_of_heap hbx]; rfl
    go_wp2_with fail
    have hBs := hB
    have hxs := hbx
    refine (HA.out ⟨c, n, 5, 1, ⟨#[]⟩, [], 0, 0, false⟩ (-1) 12 _ none 0 0 hBs (opCheck_total (.inl (by decide))) (rng_nil _) (Nat.le_of_ble_eq_true rfl)).mono ?_
    rintro e w9 ⟨rfl, hb⟩
    have hbx2 : w9.heap[w1.heap.size]? = some (.cells #[.int .i64 c, .int .i64 n, .int .i64 5, .int .i64 1, .string ⟨#[]⟩, .slice none 0 0, .int .i64 0, .int .i64 0, .bool false] 31) := (hb.block _ (Array.getElem?_eq_some_iff.1 hxs).1).trans hxs
    have hB2 := hBs.trans (hb.mono hBs.size)
    clear hB hbx d8 d7 d6 d5 d4 d3 d2 d1 d0 hxs hBs hb
    have hbx := hbx2
    have hB := hB2
    clear hbx2 hB2
    have d0 : w9.cell? ⟨w1.heap.size, 0, none⟩ = some (.int .i64 c) := by rw [Lib.cell_of_heap hbx]; rfl
    have d1 : w9.cell? ⟨w1.heap.size, 1, none⟩ = some (.int .i64 n) := by rw [Lib.cell_of_heap hbx]; rfl
    have d2 : w9.cell? ⟨w1.heap.size, 2, none⟩ = some (.int .i64 5) := by rw [Lib.cell_of_heap hbx]; rfl
    have d3 : w9.cell? ⟨w1.heap.size, 3, none⟩ = some (.int .i64 1) := by rw [Lib.cell_of_heap hbx]; rfl
    have d4 : w9.cell? ⟨w1.heap.size, 4, none⟩ = some (.string ⟨#[]⟩) := by rw [Lib.cell_of_heap hbx]; rfl
    have d5 : w9.cell? ⟨w1.heap.size, 5, none⟩ = some (.slice none 0 0) := by rw [Lib.cell_of_heap hbx]; rfl
    have d6 : w9.cell? ⟨w1.heap.size, 6, none⟩ = some (.int .i64 0) := by rw [Lib.cell_of_heap hbx]; rfl
    have d7 : w9.cell? ⟨w1.heap.size, 7, none⟩ = some (.int .i64 0) := by rw [Lib.cell_of_heap hbx]; rfl
    have d8 : w9.cell? ⟨w1.heap.size, 8, none⟩ = some (.bool false) := by rw [Lib.cell_of_heap hbx]; rfl
    go_wp2_with fail
    have hBs := hB
    have hxs := hbx
    refine (HA.out ⟨c, n, 5, 1, ⟨#[]⟩, [], 0, 0, false⟩ 1048577 12 _ none 0 0 hBs (opCheck_total (.inr (by decide))) (rng_nil _) (Nat.le_of_ble_eq_true rfl)).mono ?_
    rintro e w10 ⟨rfl, hb⟩
    have hbx2 : w10.heap[w1.heap.size]? = some (.cells #[.int .i64 c, .int .i64 n, .int .i64 5, .int .i64 1, .string ⟨#[]⟩, .slice none 0 0, .int .i64 0, .int .i64 0, .bool false] 31) := (hb.block _ (Array.getElem?_eq_some_iff.1 hxs).1).trans hxs
    have hB2 := hBs.trans (hb.mono hBs.size)
    clear hB hbx d8 d7 d6 d5 d4 d3 d2 d1 d0 hxs hBs hb
    have hbx := hbx2
    have hB := hB2
    clear hbx2 hB2
    go_wp2_with fail
    go_ret
    exact ⟨rfl, hB⟩
end Go.Proofs.YthiigmbhahbkbaaDoor
