import Derived.Test.YtkdhcokefnffaaaDoorMcA
import Derived.Test.YtkdhcokefnffaaaDoorMaS
/-! The sentences' own command. -/
namespace Go.Proofs.YtkdhcokefnffaaaDoor
open Go.RowKit Go.Lib Sp
set_option maxRecDepth 100000

theorem rw_none (w : World) : Rw rangeV 2 w none 0 0 [] := ⟨rfl, ⟨Nat.le_refl _, Nat.zero_le _⟩, fun h => absurd h (Nat.lt_irrefl _)⟩
set_option maxHeartbeats 8000000 in
theorem commandS {w : World} {ta pa : Option Addr} {tn tc pn pc : Nat} {zs ys : List Int} (ht : Rw rune1 1 w ta tn tc zs) (hp : Rw int1 1 w pa pn pc ys) (hpn : pn ≤ 9223372036854775807) (f0 f1 f2 f3 f4 f5 f6 f7 f8 f9 : Int) (on : Bool) :
    Calls Tryd.prog 13 #[.agg #[.int .i64 f0, .int .i64 f1, .int .i64 f2, .int .i64 f3, .int .i64 f4, .int .i64 f5, .int .i64 f6, .int .i64 f7, .slice ta tn tc, .slice pa pn pc, .bool on, .int .i64 f8, .int .u8 f9]] w fun e w' => ∃ (x : Cm) (b : Option Addr) (m cp : Nat), e = .returned (opVal x.op (.slice b m cp)) ∧ x.Ok ∧ Rw rangeV 2 w' b m cp x.op.l ∧ (∀ g, b = some g → w.heap.size ≤ g.block ∧ g.block < w'.heap.size) ∧ Below w.heap.size w w' := by
  have HP1 := fun w => pick_any f5 8 (by omega) (by omega) w
  have HP2 := fun w => pick_any f6 1024 (by omega) (by omega) w
  obtain ⟨w3, hw3⟩ : ∃ W, ((w.alloc (.cells #[.int .i64 f0, .int .i64 f1, .int .i64 f2, .int .i64 f3, .int .i64 f4, .int .i64 f5, .int .i64 f6, .int .i64 f7, .slice ta tn tc, .slice pa pn pc, .bool on, .int .i64 f8, .int .u8 f9] 26)).alloc (.cells #[.int .i64 0, .int .i64 0, .int .i64 0, .int .i64 0, .string ⟨#[]⟩, .slice none 0 0, .int .i64 0, .int .i64 0, .bool false] 35)).alloc (.cells #[.int .i64 0, .int .i64 0, .int .i64 0, .int .i64 0, .string ⟨#[]⟩, .slice none 0 0, .int .i64 0, .int .i64 0, .bool false] 35) = W := ⟨_, rfl⟩
  have hb3 : Below w.heap.size w w3 := by
    rw [← hw3]
    repeat (refine Below.alloc ?_ (by simp; try omega) _)
    exact Below.refl _ _
  have hT : w3.heap[w.heap.size]? = some (.cells #[.int .i64 f0, .int .i64 f1, .int .i64 f2, .int .i64 f3, .int .i64 f4, .int .i64 f5, .int .i64 f6, .int .i64 f7, .slice ta tn tc, .slice pa pn pc, .bool on, .int .i64 f8, .int .u8 f9] 26) := by
    rw [← hw3]
    simp only [World.alloc, Array.getElem?_push, Array.size_push]
    rw [if_neg (by omega), if_neg (by omega), if_pos trivial]
  have hR : w3.heap[w.heap.size + 1]? = some (.cells #[.int .i64 0, .int .i64 0, .int .i64 0, .int .i64 0, .string ⟨#[]⟩, .slice none 0 0, .int .i64 0, .int .i64 0, .bool false] 35) := by rw [← hw3]; simp only [World.alloc, Array.getElem?_push, Array.size_push]; simp
  have hO : w3.heap[w.heap.size + 1 + 1]? = some (.cells #[.int .i64 0, .int .i64 0, .int .i64 0, .int .i64 0, .string ⟨#[]⟩, .slice none 0 0, .int .i64 0, .int .i64 0, .bool false] 35) := by rw [← hw3]; simp only [World.alloc, Array.getElem?_push, Array.size_push]; simp
  obtain ⟨t0, t1, t2, t3, t4, t5, t6, t7, t8, t9, t10, t11, t12⟩ := box13 hT
  have o0 : w3.cell? ⟨w.heap.size + 1 + 1, 0, none⟩ = some (.int .i64 0) := by rw [Lib.cell_of_heap hO]; rfl
  have o1 : w3.cell? ⟨w.heap.size + 1 + 1, 1, none⟩ = some (.int .i64 0) := by rw [Lib.cell_of_heap hO]; rfl
  have FO : ∀ i, w3.frozen? ⟨w.heap.size + 1 + 1, i, none⟩ = false := fun i => Lib.frozen_of_heap hO i
  have HB : Hid (Below w.heap.size w w3 ∧ w3.heap[w.heap.size]? = some (.cells #[.int .i64 f0, .int .i64 f1, .int .i64 f2, .int .i64 f3, .int .i64 f4, .int .i64 f5, .int .i64 f6, .int .i64 f7, .slice ta tn tc, .slice pa pn pc, .bool on, .int .i64 f8, .int .u8 f9] 26) ∧ w3.heap[w.heap.size + 1]? = some (.cells #[.int .i64 0, .int .i64 0, .int .i64 0, .int .i64 0, .string ⟨#[]⟩, .slice none 0 0, .int .i64 0, .int .i64 0, .bool false] 35) ∧ w3.heap[w.heap.size + 1 + 1]? = some (.cells #[.int .i64 0, .int .i64 0, .int .i64 0, .int .i64 0, .string ⟨#[]⟩, .slice none 0 0, .int .i64 0, .int .i64 0, .bool false] 35)) := ⟨hb3, hT, hR, hO⟩
  clear hb3 hT hR hO
  go_enter Tryd.func13, Tryd.ntmps13
  go_wp2_with fail
  refine wp_region_held_drew (S := (fun W => ∀ p : Addr, p.block = w.heap.size → W.cell? p = w3.cell? p)) (by kernel_rfl) ?hS1 (fun hHeld => ?rest1)
  case hS1 => (intro p hp; rfl)
  refine takeD (i := 0) (d := some 4) (v := ?vT2) rfl rfl (by kernel_rfl) (by kernel_rfl) (by kernel_rfl) (fun _ _ _ h => h) (Or.inl ⟨by rfl, ?hyT2⟩) (by assumption) ?rstT2
  case hyT2 => (intro w hSw; (try dsimp only at hSw); go_simp; (try with_reducible rfl))
  try simp only [Act.put, List.setIfInBounds_toArray, List.set_cons_zero, List.set_cons_succ]
  refine takeD (i := 1) (d := some 5) (v := ?vT3) rfl rfl (by kernel_rfl) (by kernel_rfl) (by kernel_rfl) (fun _ _ _ h => h) (Or.inl ⟨by rfl, ?hyT3⟩) (by assumption) ?rstT3
  case hyT3 => (intro w hSw; (try dsimp only at hSw); go_simp; (try with_reducible rfl))
  try simp only [Act.put, List.setIfInBounds_toArray, List.set_cons_zero, List.set_cons_succ]
  refine takeD (i := 4) (d := some 8) (v := ?vT4) rfl rfl (by kernel_rfl) (by kernel_rfl) (by kernel_rfl) (fun _ _ _ h => h) (Or.inl ⟨by rfl, ?hyT4⟩) (by assumption) ?rstT4
  case hyT4 => (intro w hSw; (try dsimp only at hSw); go_simp; (try with_reducible rfl))
  try simp only [Act.put, List.setIfInBounds_toArray, List.set_cons_zero, List.set_cons_succ]
  refine takeD (i := 5) (d := some 9) (v := ?vT5) rfl rfl (by kernel_rfl) (by kernel_rfl) (by kernel_rfl) (fun _ _ _ h => h) (Or.inl ⟨by rfl, ?hyT5⟩) (by assumption) ?rstT5
  case hyT5 => (intro w hSw; (try dsimp only at hSw); go_simp; (try with_reducible rfl))
  try simp only [Act.put, List.setIfInBounds_toArray, List.set_cons_zero, List.set_cons_succ]
  refine wpAnyH_ready (rs := [2]) (by kernel_rfl) (by simp) ?_
  refine AllReadyH.cons rfl (fun K hK => ?_) AllReadyH.nil
  go_simp
  refine (HP1 _).mono ?_
  rintro e2 w2 ⟨c, rfl, hc, rfl⟩
  have wrc : IntKind.i64.wrap (1 + (c : Int)) = 1 + (c : Int) := IntWalk.i64_in _ (by omega)
  clear hHeld
  refine hK.out _ _ ?hS6 (fun hHeld => ?rest6)
  case hS6 => (intro p hp; rfl)
  clear hK K
  try simp only [Act.put, List.setIfInBounds_toArray, List.set_cons_zero, List.set_cons_succ]
  refine takeD (i := 3) (d := some 7) (v := ?vT7) rfl rfl (by kernel_rfl) (by kernel_rfl) (by kernel_rfl) (fun _ _ _ h => h) (Or.inl ⟨by rfl, ?hyT7⟩) (by assumption) ?rstT7
  case hyT7 => (intro w hSw; (try dsimp only at hSw); go_simp; (try with_reducible rfl))
  try simp only [Act.put, List.setIfInBounds_toArray, List.set_cons_zero, List.set_cons_succ]
  refine wpAnyH_ready (rs := [6]) (by kernel_rfl) (by simp) ?_
  refine AllReadyH.cons rfl (fun K hK => ?_) AllReadyH.nil
  go_simp
  refine (HP2 _).mono ?_
  rintro e2 w2 ⟨n, rfl, hn, rfl⟩
  have wrn : IntKind.i64.wrap (1 + (n : Int)) = 1 + (n : Int) := IntWalk.i64_in _ (by omega)
  clear hHeld
  refine hK.out _ _ ?hS8 (fun hHeld => ?rest8)
  case hS8 => (intro p hp; rfl)
  clear hK K
  try simp only [Act.put, List.setIfInBounds_toArray, List.set_cons_zero, List.set_cons_succ]
  refine takeD (i := 7) (d := some 11) (v := ?vT9) rfl rfl (by kernel_rfl) (by kernel_rfl) (by kernel_rfl) (fun _ _ _ h => h) (Or.inl ⟨by rfl, ?hyT9⟩) (by assumption) ?rstT9
  case hyT9 => (intro w hSw; (try dsimp only at hSw); go_simp; (try with_reducible rfl))
  try simp only [Act.put, List.setIfInBounds_toArray, List.set_cons_zero, List.set_cons_succ]
  refine takeD (i := 8) (d := some 12) (v := ?vT10) rfl rfl (by kernel_rfl) (by kernel_rfl) (by kernel_rfl) (fun _ _ _ h => h) (Or.inl ⟨by rfl, ?hyT10⟩) (by assumption) ?rstT10
  case hyT10 => (intro w hSw; (try dsimp only at hSw); go_simp; (try with_reducible rfl))
  try simp only [Act.put, List.setIfInBounds_toArray, List.set_cons_zero, List.set_cons_succ]
  refine takeD (i := 9) (d := some 13) (v := ?vT11) rfl rfl (by kernel_rfl) (by kernel_rfl) (by kernel_rfl) (fun _ _ _ h => h) (Or.inl ⟨by rfl, ?hyT11⟩) (by assumption) ?rstT11
  case hyT11 => (intro w hSw; (try dsimp only at hSw); go_simp; (try with_reducible rfl))
  try simp only [Act.put, List.setIfInBounds_toArray, List.set_cons_zero, List.set_cons_succ]
  refine takeD (i := 10) (d := some 14) (v := ?vT12) rfl rfl (by kernel_rfl) (by kernel_rfl) (by kernel_rfl) (fun _ _ _ h => h) (Or.inl ⟨by rfl, ?hyT12⟩) (by assumption) ?rstT12
  case hyT12 => (intro w hSw; (try dsimp only at hSw); go_simp; (try with_reducible rfl))
  try simp only [Act.put, List.setIfInBounds_toArray, List.set_cons_zero, List.set_cons_succ]
  refine wpAnyH_ready (rs := [11]) (by kernel_rfl) (by simp) ?_
  refine AllReadyH.cons rfl (fun K hK => ?_) AllReadyH.nil
  go_simp
  clear hHeld
  refine hK.out _ _ ?hS13 (fun hHeld => ?rest13)
  case hS13 => (intro p hp; exact (cell_set_ne _ _ _ _ p (by rw [hp]; omega)).trans (cell_set_ne _ _ _ _ p (by rw [hp]; omega)))
  clear hK K
  try simp only [Act.put, List.setIfInBounds_toArray, List.set_cons_zero, List.set_cons_succ]
  refine wpAnyH_done (by kernel_rfl) ?_ _
  clear hHeld
  obtain ⟨hb3, hT, hR, hO⟩ := HB.out
  obtain ⟨w4, hw4⟩ : ∃ W, ((w3.setCell ⟨w.heap.size + 1 + 1, 0, none⟩ (.int .i64 (1 + (c : Int)))).setCell ⟨w.heap.size + 1 + 1, 1, none⟩ (.int .i64 (1 + (n : Int)))).drew = W := ⟨_, rfl⟩
  have hO4 : w4.heap[w.heap.size + 1 + 1]? = some (.cells #[.int .i64 (1 + (c : Int)), .int .i64 (1 + (n : Int)), .int .i64 0, .int .i64 0, .string ⟨#[]⟩, .slice none 0 0, .int .i64 0, .int .i64 0, .bool false] 35) := hw4 ▸ heap_setCell_cells (heap_setCell_cells hO 0 _) 1 _
  have hC4 : Chg (fun g => g = w.heap.size + 1 + 1) w3 w4 := hw4 ▸ ((Chg.set (D := fun g => g = w.heap.size + 1 + 1) (q := w.heap.size + 1 + 1) 0 w3 _ rfl).trans (Chg.set (D := fun g => g = w.heap.size + 1 + 1) (q := w.heap.size + 1 + 1) 1 _ _ rfl)).drew
  have hT4 := hC4.block hT (by omega)
  have hR4 := hC4.block hR (by omega)
  have hCw : Chg (fun g => w.heap.size ≤ g) w w4 := (Chg.of_below hb3).trans (hC4.mono (fun _ _ e => by omega))
  have HK : Hid (Chg (fun g => w.heap.size ≤ g) w w4 ∧ w4.heap[w.heap.size]? = some (.cells #[.int .i64 f0, .int .i64 f1, .int .i64 f2, .int .i64 f3, .int .i64 f4, .int .i64 f5, .int .i64 f6, .int .i64 f7, .slice ta tn tc, .slice pa pn pc, .bool on, .int .i64 f8, .int .u8 f9] 26) ∧ w4.heap[w.heap.size + 1]? = some (.cells #[.int .i64 0, .int .i64 0, .int .i64 0, .int .i64 0, .string ⟨#[]⟩, .slice none 0 0, .int .i64 0, .int .i64 0, .bool false] 35) ∧ w4.heap[w.heap.size + 1 + 1]? = some (.cells #[.int .i64 (1 + (c : Int)), .int .i64 (1 + (n : Int)), .int .i64 0, .int .i64 0, .string ⟨#[]⟩, .slice none 0 0, .int .i64 0, .int .i64 0, .bool false] 35) ∧ c < 8 ∧ n < 1024) := ⟨hCw, hT4, hR4, hO4, by omega, by omega⟩
  clear t0 t1 t2 t3 t4 t5 t6 t7 t8 t9 t10 t11 t12 o0 o1 FO hw3 HB HP1 HP2 hb3 hT hR hO hO4 hC4 hR4 hCw wrc wrn hc hn
  obtain ⟨t0, t1, t2, t3, t4, t5, t6, t7, t8, t9, t10, t11, t12⟩ := box13 hT4
  clear hT4
  have HP3 := fun w => pick_any f4 3 (by omega) (by omega) w
  go_wp2_with fail
  refine (HP3 _).mono ?_
  rintro e w5 ⟨q, rfl, hq, rfl⟩
  clear HP3
  obtain rfl | rfl | rfl : q = 0 ∨ q = 1 ∨ q = 2 := by omega
  · obtain ⟨hC5, hT5, hR5, hO5, hc, hn⟩ := HK.out
    clear HK
    clear t0 t1 t2 t3 t4 t5 t6 t7 t8 t9 t10 t11 t12
    obtain ⟨w6, ew6⟩ : ∃ W, w5.setCell ⟨w.heap.size + 1 + 1, 2, none⟩ (.int .i64 1) = W := ⟨_, rfl⟩
    have hO6 : w6.heap[w.heap.size + 1 + 1]? = some (.cells #[.int .i64 (1 + (c : Int)), .int .i64 (1 + (n : Int)), .int .i64 1, .int .i64 0, .string ⟨#[]⟩, .slice none 0 0, .int .i64 0, .int .i64 0, .bool false] 35) := ew6 ▸ heap_setCell_cells hO5 2 _
    have hS6 : Chg (fun g => g = w.heap.size + 1 + 1) w5 w6 := ew6 ▸ Chg.set (D := fun g => g = w.heap.size + 1 + 1) (q := w.heap.size + 1 + 1) 2 w5 _ rfl
    have hT6 := hS6.block hT5 (by omega)
    have hR6 := hS6.block hR5 (by omega)
    have hC6 : Chg (fun g => w.heap.size ≤ g) w w6 := hC5.trans (hS6.mono (fun _ _ e => by omega))
    have x6 : w5.cell? ⟨w.heap.size + 1 + 1, 2, none⟩ = some (.int .i64 0) := by rw [Lib.cell_of_heap hO5]; rfl
    have y6 := Lib.frozen_of_heap hO5 2
    have HL := lettersS (ht.below (hC6.below (fun _ e => e) (Nat.le_refl _)))
    obtain ⟨t0, t1, t2, t3, t4, t5, t6, t7, t8, t9, t10, t11, t12⟩ := box13 hT6
    go_wp2_with fail
    refine HL.mono ?_
    rintro e w7 ⟨S, rfl, hTX, hb7⟩
    have HTX : Hid (TextS S) := hTX
    clear HL ew6 x6 y6 hTX
    clear t0 t1 t2 t3 t4 t5 t6 t7 t8 t9 t10 t11 t12
    have hT7 := (hb7.block _ (Array.getElem?_eq_some_iff.1 hT6).1).trans hT6
    have hR7 := (hb7.block _ (Array.getElem?_eq_some_iff.1 hR6).1).trans hR6
    have hO7 := (hb7.block _ (Array.getElem?_eq_some_iff.1 hO6).1).trans hO6
    have hC7 := hC6.trans (Chg.of_below hb7)
    obtain ⟨w8, ew8⟩ : ∃ W, w7.setCell ⟨w.heap.size + 1 + 1, 4, none⟩ (.string (strB S)) = W := ⟨_, rfl⟩
    have hO8 : w8.heap[w.heap.size + 1 + 1]? = some (.cells #[.int .i64 (1 + (c : Int)), .int .i64 (1 + (n : Int)), .int .i64 1, .int .i64 0, .string (strB S), .slice none 0 0, .int .i64 0, .int .i64 0, .bool false] 35) := ew8 ▸ heap_setCell_cells hO7 4 _
    have hS8 : Chg (fun g => g = w.heap.size + 1 + 1) w7 w8 := ew8 ▸ Chg.set (D := fun g => g = w.heap.size + 1 + 1) (q := w.heap.size + 1 + 1) 4 w7 _ rfl
    have hT8 := hS8.block hT7 (by omega)
    have hR8 := hS8.block hR7 (by omega)
    have hC8 : Chg (fun g => w.heap.size ≤ g) w w8 := hC7.trans (hS8.mono (fun _ _ e => by omega))
    have x8 : w7.cell? ⟨w.heap.size + 1 + 1, 4, none⟩ = some (.string ⟨#[]⟩) := by rw [Lib.cell_of_heap hO7]; rfl
    have y8 := Lib.frozen_of_heap hO7 4
    have HP4 := fun w => pick_any f7 1048321 (by omega) (by omega) w
    obtain ⟨t0, t1, t2, t3, t4, t5, t6, t7, t8, t9, t10, t11, t12⟩ := box13 hT8
    go_wp2_with fail
    refine (HP4 _).mono ?_
    rintro e w9 ⟨z, rfl, hz, rfl⟩
    clear HP4 ew8 x8 y8
    clear t0 t1 t2 t3 t4 t5 t6 t7 t8 t9 t10 t11 t12
    obtain ⟨w10, ew10⟩ : ∃ W, w9.setCell ⟨w.heap.size + 1 + 1, 3, none⟩ (.int .i64 (z : Int)) = W := ⟨_, rfl⟩
    have hO10 : w10.heap[w.heap.size + 1 + 1]? = some (.cells #[.int .i64 (1 + (c : Int)), .int .i64 (1 + (n : Int)), .int .i64 1, .int .i64 (z : Int), .string (strB S), .slice none 0 0, .int .i64 0, .int .i64 0, .bool false] 35) := ew10 ▸ heap_setCell_cells hO8 3 _
    have hS10 : Chg (fun g => g = w.heap.size + 1 + 1) w9 w10 := ew10 ▸ Chg.set (D := fun g => g = w.heap.size + 1 + 1) (q := w.heap.size + 1 + 1) 3 w9 _ rfl
    have hT10 := hS10.block hT8 (by omega)
    have hR10 := hS10.block hR8 (by omega)
    have hC10 : Chg (fun g => w.heap.size ≤ g) w w10 := hC8.trans (hS10.mono (fun _ _ e => by omega))
    have x10 : w9.cell? ⟨w.heap.size + 1 + 1, 3, none⟩ = some (.int .i64 0) := by rw [Lib.cell_of_heap hO8]; rfl
    have y10 := Lib.frozen_of_heap hO8 3
    have HE : Hid (w10.heap[w.heap.size + 1]? = some (.cells #[.int .i64 0, .int .i64 0, .int .i64 0, .int .i64 0, .string ⟨#[]⟩, .slice none 0 0, .int .i64 0, .int .i64 0, .bool false] 35) ∧ Chg (fun g => w.heap.size ≤ g) w w10) := ⟨hR10, hC10⟩
    have FR : ∀ i, w10.frozen? ⟨w.heap.size + 1, i, none⟩ = false := fun i => Lib.frozen_of_heap hR10 i
    obtain ⟨a0, a1, a2, a3, a4, a5, a6, a7, a8⟩ := box9 hO10
    obtain ⟨r0, r1, r2, r3, r4, r5, r6, r7, r8⟩ := box9 hR10
    clear hR10 hO10 hC10
    go_wp2_with fail
    obtain ⟨hx, hCx⟩ := set9 HE.out.1 (.int .i64 (1 + (c : Int))) (.int .i64 (1 + (n : Int))) (.int .i64 1) (.int .i64 (z : Int)) (.string (strB S)) (.slice none 0 0) (.int .i64 0) (.int .i64 0) (.bool false)
    clear a0 a1 a2 a3 a4 a5 a6 a7 a8 r0 r1 r2 r3 r4 r5 r6 r7 r8 FR
    revert hx hCx
    generalize World.setCell _ ⟨w.heap.size + 1, 8, none⟩ (.bool false) = w9
    intro hx hCx
    obtain ⟨r0, r1, r2, r3, r4, r5, r6, r7, r8⟩ := box9 hx
    refine bodyPost_ret (v := .agg #[.int .i64 (1 + (c : Int)), .int .i64 (1 + (n : Int)), .int .i64 1, .int .i64 (z : Int), .string (strB S), .slice none 0 0, .int .i64 0, .int .i64 0, .bool false]) (by simp [results, Tryd.results13, go_sem, r0, r1, r2, r3, r4, r5, r6, r7, r8]) rfl ?_
    exact ⟨.ins (1 + c) (1 + n) z S, none, 0, 0, by simp only [opVal, Cm.op, Int.natCast_add]; rfl, (by obtain ⟨t1, t2, r, t3, t4, t5⟩ := HTX.out; exact ⟨by omega, by omega, t1, t2, r, t3, t4, t5, by omega⟩), rw_none _, (fun _ e => by cases e), (HE.out.2.trans (hCx.mono (fun _ _ e => by omega))).below (fun _ e => e) (Nat.le_refl _)⟩
  · obtain ⟨hC5, hT5, hR5, hO5, hc, hn⟩ := HK.out
    clear HK
    clear t0 t1 t2 t3 t4 t5 t6 t7 t8 t9 t10 t11 t12
    obtain ⟨w6, ew6⟩ : ∃ W, w5.setCell ⟨w.heap.size + 1 + 1, 2, none⟩ (.int .i64 2) = W := ⟨_, rfl⟩
    have hO6 : w6.heap[w.heap.size + 1 + 1]? = some (.cells #[.int .i64 (1 + (c : Int)), .int .i64 (1 + (n : Int)), .int .i64 2, .int .i64 0, .string ⟨#[]⟩, .slice none 0 0, .int .i64 0, .int .i64 0, .bool false] 35) := ew6 ▸ heap_setCell_cells hO5 2 _
    have hS6 : Chg (fun g => g = w.heap.size + 1 + 1) w5 w6 := ew6 ▸ Chg.set (D := fun g => g = w.heap.size + 1 + 1) (q := w.heap.size + 1 + 1) 2 w5 _ rfl
    have hT6 := hS6.block hT5 (by omega)
    have hR6 := hS6.block hR5 (by omega)
    have hC6 : Chg (fun g => w.heap.size ≤ g) w w6 := hC5.trans (hS6.mono (fun _ _ e => by omega))
    have x6 : w5.cell? ⟨w.heap.size + 1 + 1, 2, none⟩ = some (.int .i64 0) := by rw [Lib.cell_of_heap hO5]; rfl
    have y6 := Lib.frozen_of_heap hO5 2
    have HL := stepsS (hp.below (hC6.below (fun _ e => e) (Nat.le_refl _))) hpn
    obtain ⟨t0, t1, t2, t3, t4, t5, t6, t7, t8, t9, t10, t11, t12⟩ := box13 hT6
    go_wp2_with fail
    refine HL.mono ?_
    rintro e w7 ⟨b, m, cp, l, rfl, hOw, hRO, hll, hb7⟩
    have hrw7 := hOw.rw_ layG
    have hge : ∀ g, b = some g → w6.heap.size ≤ g.block ∧ g.block < w7.heap.size := fun g e => by subst e; exact ⟨hOw.ge rfl, hOw.lt rfl⟩
    have hl6 := (Array.getElem?_eq_some_iff.1 hO6).1
    have HRO : Hid (RO 0 0 l ∧ 1 ≤ l.length ∧ l.length ≤ 1000) := ⟨hRO, hll⟩
    clear HL ew6 x6 y6 hOw hRO hll
    clear t0 t1 t2 t3 t4 t5 t6 t7 t8 t9 t10 t11 t12
    have hT7 := (hb7.block _ (Array.getElem?_eq_some_iff.1 hT6).1).trans hT6
    have hR7 := (hb7.block _ (Array.getElem?_eq_some_iff.1 hR6).1).trans hR6
    have hO7 := (hb7.block _ (Array.getElem?_eq_some_iff.1 hO6).1).trans hO6
    have hC7 := hC6.trans (Chg.of_below hb7)
    obtain ⟨w8, ew8⟩ : ∃ W, w7.setCell ⟨w.heap.size + 1 + 1, 5, none⟩ (.slice b m cp) = W := ⟨_, rfl⟩
    have hO8 : w8.heap[w.heap.size + 1 + 1]? = some (.cells #[.int .i64 (1 + (c : Int)), .int .i64 (1 + (n : Int)), .int .i64 2, .int .i64 0, .string ⟨#[]⟩, .slice b m cp, .int .i64 0, .int .i64 0, .bool false] 35) := ew8 ▸ heap_setCell_cells hO7 5 _
    have hS8 : Chg (fun g => g = w.heap.size + 1 + 1) w7 w8 := ew8 ▸ Chg.set (D := fun g => g = w.heap.size + 1 + 1) (q := w.heap.size + 1 + 1) 5 w7 _ rfl
    have hT8 := hS8.block hT7 (by omega)
    have hR8 := hS8.block hR7 (by omega)
    have hC8 : Chg (fun g => w.heap.size ≤ g) w w8 := hC7.trans (hS8.mono (fun _ _ e => by omega))
    have x8 : w7.cell? ⟨w.heap.size + 1 + 1, 5, none⟩ = some (.slice none 0 0) := by rw [Lib.cell_of_heap hO7]; rfl
    have y8 := Lib.frozen_of_heap hO7 5
    have hrw8 := hrw7.chg hS8 (fun g e => by have := hge g e; omega)
    have HRW : Hid (Rw rangeV 2 w8 b m cp (intL l) ∧ w7.heap.size ≤ w8.heap.size) := ⟨hrw8, hS8.size⟩
    clear hrw7 hrw8
    have HE : Hid (w8.heap[w.heap.size + 1]? = some (.cells #[.int .i64 0, .int .i64 0, .int .i64 0, .int .i64 0, .string ⟨#[]⟩, .slice none 0 0, .int .i64 0, .int .i64 0, .bool false] 35) ∧ Chg (fun g => w.heap.size ≤ g) w w8) := ⟨hR8, hC8⟩
    have FR : ∀ i, w8.frozen? ⟨w.heap.size + 1, i, none⟩ = false := fun i => Lib.frozen_of_heap hR8 i
    obtain ⟨a0, a1, a2, a3, a4, a5, a6, a7, a8⟩ := box9 hO8
    obtain ⟨r0, r1, r2, r3, r4, r5, r6, r7, r8⟩ := box9 hR8
    clear hR8 hO8 hC8
    go_wp2_with fail
    obtain ⟨hx, hCx⟩ := set9 HE.out.1 (.int .i64 (1 + (c : Int))) (.int .i64 (1 + (n : Int))) (.int .i64 2) (.int .i64 0) (.string ⟨#[]⟩) (.slice b m cp) (.int .i64 0) (.int .i64 0) (.bool false)
    clear a0 a1 a2 a3 a4 a5 a6 a7 a8 r0 r1 r2 r3 r4 r5 r6 r7 r8 FR
    revert hx hCx
    generalize World.setCell _ ⟨w.heap.size + 1, 8, none⟩ (.bool false) = w9
    intro hx hCx
    obtain ⟨r0, r1, r2, r3, r4, r5, r6, r7, r8⟩ := box9 hx
    refine bodyPost_ret (v := .agg #[.int .i64 (1 + (c : Int)), .int .i64 (1 + (n : Int)), .int .i64 2, .int .i64 0, .string ⟨#[]⟩, .slice b m cp, .int .i64 0, .int .i64 0, .bool false]) (by simp [results, Tryd.results13, go_sem, r0, r1, r2, r3, r4, r5, r6, r7, r8]) rfl ?_
    exact ⟨.hide (1 + c) (1 + n) l, b, m, cp, by simp only [opVal, Cm.op, Int.natCast_add]; rfl, (by obtain ⟨t1, t2⟩ := HRO.out; exact ⟨by omega, by omega, t2, t1⟩), HRW.out.1.chg hCx (fun g e => by have := hge g e; omega), (fun g e => by have := hge g e; have := HRW.out.2; have := hCx.size; omega), (HE.out.2.trans (hCx.mono (fun _ _ e => by omega))).below (fun _ e => e) (Nat.le_refl _)⟩
  · obtain ⟨hC5, hT5, hR5, hO5, hc, hn⟩ := HK.out
    clear HK
    clear t0 t1 t2 t3 t4 t5 t6 t7 t8 t9 t10 t11 t12
    obtain ⟨C, hC0⟩ : ∃ C : Nat, 1 + (c : Int) = (C : Int) := ⟨1 + c, by omega⟩
    obtain ⟨N, hN0⟩ : ∃ N : Nat, 1 + (n : Int) = (N : Int) := ⟨1 + n, by omega⟩
    rw [hC0, hN0] at hO5
    have hc1 : 1 ≤ C ∧ C ≤ 8 := by omega
    have hn1 : 1 ≤ N ∧ N ≤ 1024 := by omega
    clear hC0 hN0 hc hn hw4
    obtain ⟨w6, ew6⟩ : ∃ W, w5.setCell ⟨w.heap.size + 1 + 1, 2, none⟩ (.int .i64 4) = W := ⟨_, rfl⟩
    have hO6 : w6.heap[w.heap.size + 1 + 1]? = some (.cells #[.int .i64 (C : Int), .int .i64 (N : Int), .int .i64 4, .int .i64 0, .string ⟨#[]⟩, .slice none 0 0, .int .i64 0, .int .i64 0, .bool false] 35) := ew6 ▸ heap_setCell_cells hO5 2 _
    have hS6 : Chg (fun g => g = w.heap.size + 1 + 1) w5 w6 := ew6 ▸ Chg.set (D := fun g => g = w.heap.size + 1 + 1) (q := w.heap.size + 1 + 1) 2 w5 _ rfl
    have hT6 := hS6.block hT5 (by omega)
    have hR6 := hS6.block hR5 (by omega)
    have hC6 : Chg (fun g => w.heap.size ≤ g) w w6 := hC5.trans (hS6.mono (fun _ _ e => by omega))
    have x6 : w5.cell? ⟨w.heap.size + 1 + 1, 2, none⟩ = some (.int .i64 0) := by rw [Lib.cell_of_heap hO5]; rfl
    have y6 := Lib.frozen_of_heap hO5 2
    obtain ⟨t0, t1, t2, t3, t4, t5, t6, t7, t8, t9, t10, t11, t12⟩ := box13 hT6
    have HP5 := fun w => pick_any f7 8 (by omega) (by omega) w
    have HP6 := fun w => pick_any f3 1024 (by omega) (by omega) w
    have k6 : w6.cell? ⟨w.heap.size + 1 + 1, 6, none⟩ = some (.int .i64 0) := by rw [Lib.cell_of_heap hO6]; rfl
    have k7 : w6.cell? ⟨w.heap.size + 1 + 1, 7, none⟩ = some (.int .i64 0) := by rw [Lib.cell_of_heap hO6]; rfl
    have FO : ∀ i, w6.frozen? ⟨w.heap.size + 1 + 1, i, none⟩ = false := fun i => Lib.frozen_of_heap hO6 i
    go_wp2_with fail
    refine wp_region_held_drew (S := (fun W => ∀ p : Addr, p.block = w.heap.size → W.cell? p = w6.cell? p)) (by kernel_rfl) ?hS14 (fun hHeld => ?rest14)
    case hS14 => (intro p hp; rfl)
    refine takeD (i := 0) (d := some 20) (v := ?vT15) rfl rfl (by kernel_rfl) (by kernel_rfl) (by kernel_rfl) (fun _ _ _ h => h) (Or.inl ⟨by rfl, ?hyT15⟩) (by assumption) ?rstT15
    case hyT15 => (intro w hSw; (try dsimp only at hSw); go_simp; (try with_reducible rfl))
    try simp only [Act.put, List.setIfInBounds_toArray, List.set_cons_zero, List.set_cons_succ]
    refine takeD (i := 1) (d := some 21) (v := ?vT16) rfl rfl (by kernel_rfl) (by kernel_rfl) (by kernel_rfl) (fun _ _ _ h => h) (Or.inl ⟨by rfl, ?hyT16⟩) (by assumption) ?rstT16
    case hyT16 => (intro w hSw; (try dsimp only at hSw); go_simp; (try with_reducible rfl))
    try simp only [Act.put, List.setIfInBounds_toArray, List.set_cons_zero, List.set_cons_succ]
    refine takeD (i := 4) (d := some 24) (v := ?vT17) rfl rfl (by kernel_rfl) (by kernel_rfl) (by kernel_rfl) (fun _ _ _ h => h) (Or.inl ⟨by rfl, ?hyT17⟩) (by assumption) ?rstT17
    case hyT17 => (intro w hSw; (try dsimp only at hSw); go_simp; (try with_reducible rfl))
    try simp only [Act.put, List.setIfInBounds_toArray, List.set_cons_zero, List.set_cons_succ]
    refine takeD (i := 5) (d := some 25) (v := ?vT18) rfl rfl (by kernel_rfl) (by kernel_rfl) (by kernel_rfl) (fun _ _ _ h => h) (Or.inl ⟨by rfl, ?hyT18⟩) (by assumption) ?rstT18
    case hyT18 => (intro w hSw; (try dsimp only at hSw); go_simp; (try with_reducible rfl))
    try simp only [Act.put, List.setIfInBounds_toArray, List.set_cons_zero, List.set_cons_succ]
    refine wpAnyH_ready (rs := [2]) (by kernel_rfl) (by simp) ?_
    refine AllReadyH.cons rfl (fun K hK => ?_) AllReadyH.nil
    go_simp
    refine (HP5 _).mono ?_
    rintro e2 w2 ⟨x, rfl, hx, rfl⟩
    have wrx : IntKind.i64.wrap (1 + (x : Int)) = 1 + (x : Int) := IntWalk.i64_in _ (by omega)
    clear hHeld
    refine hK.out _ _ ?hS19 (fun hHeld => ?rest19)
    case hS19 => (intro p hp; rfl)
    clear hK K
    try simp only [Act.put, List.setIfInBounds_toArray, List.set_cons_zero, List.set_cons_succ]
    refine takeD (i := 3) (d := some 23) (v := ?vT20) rfl rfl (by kernel_rfl) (by kernel_rfl) (by kernel_rfl) (fun _ _ _ h => h) (Or.inl ⟨by rfl, ?hyT20⟩) (by assumption) ?rstT20
    case hyT20 => (intro w hSw; (try dsimp only at hSw); go_simp; (try with_reducible rfl))
    try simp only [Act.put, List.setIfInBounds_toArray, List.set_cons_zero, List.set_cons_succ]
    refine wpAnyH_ready (rs := [6]) (by kernel_rfl) (by simp) ?_
    refine AllReadyH.cons rfl (fun K hK => ?_) AllReadyH.nil
    go_simp
    refine (HP6 _).mono ?_
    rintro e2 w2 ⟨y, rfl, hy, rfl⟩
    have wry : IntKind.i64.wrap (1 + (y : Int)) = 1 + (y : Int) := IntWalk.i64_in _ (by omega)
    clear hHeld
    refine hK.out _ _ ?hS21 (fun hHeld => ?rest21)
    case hS21 => (intro p hp; rfl)
    clear hK K
    try simp only [Act.put, List.setIfInBounds_toArray, List.set_cons_zero, List.set_cons_succ]
    refine takeD (i := 7) (d := some 27) (v := ?vT22) rfl rfl (by kernel_rfl) (by kernel_rfl) (by kernel_rfl) (fun _ _ _ h => h) (Or.inl ⟨by rfl, ?hyT22⟩) (by assumption) ?rstT22
    case hyT22 => (intro w hSw; (try dsimp only at hSw); go_simp; (try with_reducible rfl))
    try simp only [Act.put, List.setIfInBounds_toArray, List.set_cons_zero, List.set_cons_succ]
    refine takeD (i := 8) (d := some 28) (v := ?vT23) rfl rfl (by kernel_rfl) (by kernel_rfl) (by kernel_rfl) (fun _ _ _ h => h) (Or.inl ⟨by rfl, ?hyT23⟩) (by assumption) ?rstT23
    case hyT23 => (intro w hSw; (try dsimp only at hSw); go_simp; (try with_reducible rfl))
    try simp only [Act.put, List.setIfInBounds_toArray, List.set_cons_zero, List.set_cons_succ]
    refine takeD (i := 9) (d := some 29) (v := ?vT24) rfl rfl (by kernel_rfl) (by kernel_rfl) (by kernel_rfl) (fun _ _ _ h => h) (Or.inl ⟨by rfl, ?hyT24⟩) (by assumption) ?rstT24
    case hyT24 => (intro w hSw; (try dsimp only at hSw); go_simp; (try with_reducible rfl))
    try simp only [Act.put, List.setIfInBounds_toArray, List.set_cons_zero, List.set_cons_succ]
    refine wpAnyH_ready (rs := [10]) (by kernel_rfl) (by simp) ?_
    refine AllReadyH.cons rfl (fun K hK => ?_) AllReadyH.nil
    go_simp
    clear hHeld
    refine hK.out _ _ ?hS25 (fun hHeld => ?rest25)
    case hS25 => (intro p hp; exact (cell_set_ne _ _ _ _ p (by rw [hp]; omega)).trans (cell_set_ne _ _ _ _ p (by rw [hp]; omega)))
    clear hK K
    try simp only [Act.put, List.setIfInBounds_toArray, List.set_cons_zero, List.set_cons_succ]
    refine wpAnyH_done (by kernel_rfl) ?_ _
    clear hHeld HP5 HP6 ew6 x6 y6
    obtain ⟨w7, ew7⟩ : ∃ W, ((w6.setCell ⟨w.heap.size + 1 + 1, 6, none⟩ (.int .i64 (1 + (x : Int)))).setCell ⟨w.heap.size + 1 + 1, 7, none⟩ (.int .i64 (1 + (y : Int)))).drew = W := ⟨_, rfl⟩
    obtain ⟨X, hX0⟩ : ∃ X : Nat, 1 + (x : Int) = (X : Int) := ⟨1 + x, by omega⟩
    obtain ⟨Y, hY0⟩ : ∃ Y : Nat, 1 + (y : Int) = (Y : Int) := ⟨1 + y, by omega⟩
    have hx1 : 1 ≤ X ∧ X ≤ 8 := by omega
    have hy1 : 1 ≤ Y ∧ Y ≤ 1024 := by omega
    have hO7 : w7.heap[w.heap.size + 1 + 1]? = some (.cells #[.int .i64 (C : Int), .int .i64 (N : Int), .int .i64 4, .int .i64 0, .string ⟨#[]⟩, .slice none 0 0, .int .i64 (1 + (x : Int)), .int .i64 (1 + (y : Int)), .bool false] 35) := ew7 ▸ heap_setCell_cells (heap_setCell_cells hO6 6 _) 7 _
    have hS7 : Chg (fun g => g = w.heap.size + 1 + 1) w6 w7 := ew7 ▸ ((Chg.set (D := fun g => g = w.heap.size + 1 + 1) (q := w.heap.size + 1 + 1) 6 w6 _ rfl).trans (Chg.set (D := fun g => g = w.heap.size + 1 + 1) (q := w.heap.size + 1 + 1) 7 _ _ rfl)).drew
    have hT7 := hS7.block hT6 (by omega)
    have hR7 := hS7.block hR6 (by omega)
    have hC7 : Chg (fun g => w.heap.size ≤ g) w w7 := hC6.trans (hS7.mono (fun _ _ e => by omega))
    rw [hX0, hY0] at hO7
    rw [ew7]
    clear k6 k7 FO hS7 hX0 hY0 ew7
    clear t0 t1 t2 t3 t4 t5 t6 t7 t8 t9 t10 t11 t12
    have HI := run_eqID
    have HG : Tryd.prog.eqGuardType Tryd.prog.depth 29 = false := by kernel_rfl
    obtain ⟨a0, a1, a2, a3, a4, a5, a6, a7, a8⟩ := box9 hO7
    have A4 := And.intro a0 (And.intro a1 (And.intro a6 a7))
    cases g1 : ((X : Int) == (C : Int)) with
    | true =>
     cases g2 : ((Y : Int) == (N : Int)) with
     | true =>
      clear A4
      have HXC : Hid ((X : Int) = (C : Int)) := eq_of_beq g1
      have HP7 := fun w => pick_pos (X : Int) 8 (by omega) (by omega) (by omega) w
      go_wp2_with fail
      refine (HP7 _).mono ?_
      rintro e w8 ⟨z, rfl, hz, rfl⟩
      have hz8 : z < 8 := by omega
      have HZ : Hid ((z : Int) = (X : Int) % 8) := hz
      clear hz
      have wrz : IntKind.i64.wrap (1 + (z : Int)) = 1 + (z : Int) := IntWalk.i64_in _ (by omega)
      clear HP7 a0 a1 a2 a3 a4 a5 a6 a7 a8 g1 g2
      obtain ⟨w9, ew9⟩ : ∃ W, w8.setCell ⟨w.heap.size + 1 + 1, 6, none⟩ (.int .i64 (1 + (z : Int))) = W := ⟨_, rfl⟩
      have hO9 : w9.heap[w.heap.size + 1 + 1]? = some (.cells #[.int .i64 (C : Int), .int .i64 (N : Int), .int .i64 4, .int .i64 0, .string ⟨#[]⟩, .slice none 0 0, .int .i64 (1 + (z : Int)), .int .i64 (Y : Int), .bool false] 35) := ew9 ▸ heap_setCell_cells hO7 6 _
      have hS9 : Chg (fun g => g = w.heap.size + 1 + 1) w8 w9 := ew9 ▸ Chg.set (D := fun g => g = w.heap.size + 1 + 1) (q := w.heap.size + 1 + 1) 6 w8 _ rfl
      have hT9 := hS9.block hT7 (by omega)
      have hR9 := hS9.block hR7 (by omega)
      have hC9 : Chg (fun g => w.heap.size ≤ g) w w9 := hC7.trans (hS9.mono (fun _ _ e => by omega))
      have x9 : w8.cell? ⟨w.heap.size + 1 + 1, 6, none⟩ = some (.int .i64 (X : Int)) := by rw [Lib.cell_of_heap hO7]; rfl
      have y9 := Lib.frozen_of_heap hO7 6
      obtain ⟨wz, ewz⟩ : ∃ W, w9.setCell ⟨w.heap.size + 1 + 1, 8, none⟩ (.bool on) = W := ⟨_, rfl⟩
      have hOz : wz.heap[w.heap.size + 1 + 1]? = some (.cells #[.int .i64 (C : Int), .int .i64 (N : Int), .int .i64 4, .int .i64 0, .string ⟨#[]⟩, .slice none 0 0, .int .i64 (1 + (z : Int)), .int .i64 (Y : Int), .bool on] 35) := ewz ▸ heap_setCell_cells hO9 8 _
      have hSz : Chg (fun g => g = w.heap.size + 1 + 1) w9 wz := ewz ▸ Chg.set (D := fun g => g = w.heap.size + 1 + 1) (q := w.heap.size + 1 + 1) 8 w9 _ rfl
      have hTz := hSz.block hT9 (by omega)
      have hRz := hSz.block hR9 (by omega)
      have hCz : Chg (fun g => w.heap.size ≤ g) w wz := hC9.trans (hSz.mono (fun _ _ e => by omega))
      have xz : w9.cell? ⟨w.heap.size + 1 + 1, 8, none⟩ = some (.bool false) := by rw [Lib.cell_of_heap hO9]; rfl
      have yz := Lib.frozen_of_heap hO9 8
      obtain ⟨t0, t1, t2, t3, t4, t5, t6, t7, t8, t9, t10, t11, t12⟩ := box13 hT9
      have HE : Hid (wz.heap[w.heap.size + 1]? = some (.cells #[.int .i64 0, .int .i64 0, .int .i64 0, .int .i64 0, .string ⟨#[]⟩, .slice none 0 0, .int .i64 0, .int .i64 0, .bool false] 35) ∧ Chg (fun g => w.heap.size ≤ g) w wz) := ⟨hRz, hCz⟩
      have FR : ∀ i, wz.frozen? ⟨w.heap.size + 1, i, none⟩ = false := fun i => Lib.frozen_of_heap hRz i
      obtain ⟨a0, a1, a2, a3, a4, a5, a6, a7, a8⟩ := box9 hOz
      obtain ⟨r0, r1, r2, r3, r4, r5, r6, r7, r8⟩ := box9 hRz
      clear hRz hOz hCz
      go_wp2_with fail
      obtain ⟨hx, hCx⟩ := set9 HE.out.1 (.int .i64 (C : Int)) (.int .i64 (N : Int)) (.int .i64 4) (.int .i64 0) (.string ⟨#[]⟩) (.slice none 0 0) (.int .i64 (1 + (z : Int))) (.int .i64 (Y : Int)) (.bool on)
      clear a0 a1 a2 a3 a4 a5 a6 a7 a8 r0 r1 r2 r3 r4 r5 r6 r7 r8 FR
      revert hx hCx
      generalize World.setCell _ ⟨w.heap.size + 1, 8, none⟩ (.bool on) = w9
      intro hx hCx
      obtain ⟨r0, r1, r2, r3, r4, r5, r6, r7, r8⟩ := box9 hx
      refine bodyPost_ret (v := .agg #[.int .i64 (C : Int), .int .i64 (N : Int), .int .i64 4, .int .i64 0, .string ⟨#[]⟩, .slice none 0 0, .int .i64 (1 + (z : Int)), .int .i64 (Y : Int), .bool on]) (by simp [results, Tryd.results13, go_sem, r0, r1, r2, r3, r4, r5, r6, r7, r8]) rfl ?_
      exact ⟨.stat C N (1 + z) Y on, none, 0, 0, by simp only [opVal, Cm.op, Int.natCast_add]; rfl, ⟨by omega, by omega, by omega, by omega, fun h => by have := HZ.out; have := HXC.out; omega⟩, rw_none _, (fun _ e => by cases e), (HE.out.2.trans (hCx.mono (fun _ _ e => by omega))).below (fun _ e => e) (Nat.le_refl _)⟩
     | false =>
      have HG2 : Hid (¬ (Y : Int) = (N : Int)) := beq_eq_false_iff_ne.1 g2
      obtain ⟨wz, ewz⟩ : ∃ W, w7.setCell ⟨w.heap.size + 1 + 1, 8, none⟩ (.bool on) = W := ⟨_, rfl⟩
      have hOz : wz.heap[w.heap.size + 1 + 1]? = some (.cells #[.int .i64 (C : Int), .int .i64 (N : Int), .int .i64 4, .int .i64 0, .string ⟨#[]⟩, .slice none 0 0, .int .i64 (X : Int), .int .i64 (Y : Int), .bool on] 35) := ewz ▸ heap_setCell_cells hO7 8 _
      have hSz : Chg (fun g => g = w.heap.size + 1 + 1) w7 wz := ewz ▸ Chg.set (D := fun g => g = w.heap.size + 1 + 1) (q := w.heap.size + 1 + 1) 8 w7 _ rfl
      have hTz := hSz.block hT7 (by omega)
      have hRz := hSz.block hR7 (by omega)
      have hCz : Chg (fun g => w.heap.size ≤ g) w wz := hC7.trans (hSz.mono (fun _ _ e => by omega))
      have xz : w7.cell? ⟨w.heap.size + 1 + 1, 8, none⟩ = some (.bool false) := by rw [Lib.cell_of_heap hO7]; rfl
      have yz := Lib.frozen_of_heap hO7 8
      obtain ⟨t0, t1, t2, t3, t4, t5, t6, t7, t8, t9, t10, t11, t12⟩ := box13 hT7
      clear a0 a1 a2 a3 a4 a5 a6 a7 a8
      obtain ⟨a0, a1, a6, a7⟩ := A4
      have HE : Hid (wz.heap[w.heap.size + 1]? = some (.cells #[.int .i64 0, .int .i64 0, .int .i64 0, .int .i64 0, .string ⟨#[]⟩, .slice none 0 0, .int .i64 0, .int .i64 0, .bool false] 35) ∧ Chg (fun g => w.heap.size ≤ g) w wz) := ⟨hRz, hCz⟩
      have FR : ∀ i, wz.frozen? ⟨w.heap.size + 1, i, none⟩ = false := fun i => Lib.frozen_of_heap hRz i
      obtain ⟨b0, b1, b2, b3, b4, b5, b6, b7, b8⟩ := box9 hOz
      obtain ⟨r0, r1, r2, r3, r4, r5, r6, r7, r8⟩ := box9 hRz
      clear hRz hOz hCz
      go_wp2_with fail
      obtain ⟨hx, hCx⟩ := set9 HE.out.1 (.int .i64 (C : Int)) (.int .i64 (N : Int)) (.int .i64 4) (.int .i64 0) (.string ⟨#[]⟩) (.slice none 0 0) (.int .i64 (X : Int)) (.int .i64 (Y : Int)) (.bool on)
      clear b0 b1 b2 b3 b4 b5 b6 b7 b8 r0 r1 r2 r3 r4 r5 r6 r7 r8 FR
      revert hx hCx
      generalize World.setCell _ ⟨w.heap.size + 1, 8, none⟩ (.bool on) = w9
      intro hx hCx
      obtain ⟨r0, r1, r2, r3, r4, r5, r6, r7, r8⟩ := box9 hx
      refine bodyPost_ret (v := .agg #[.int .i64 (C : Int), .int .i64 (N : Int), .int .i64 4, .int .i64 0, .string ⟨#[]⟩, .slice none 0 0, .int .i64 (X : Int), .int .i64 (Y : Int), .bool on]) (by simp [results, Tryd.results13, go_sem, r0, r1, r2, r3, r4, r5, r6, r7, r8]) rfl ?_
      exact ⟨.stat C N X Y on, none, 0, 0, rfl, ⟨by omega, by omega, by omega, by omega, fun h => HG2.out h.2⟩, rw_none _, (fun _ e => by cases e), (HE.out.2.trans (hCx.mono (fun _ _ e => by omega))).below (fun _ e => e) (Nat.le_refl _)⟩
    | false =>
      have HG1 : Hid (¬ (X : Int) = (C : Int)) := beq_eq_false_iff_ne.1 g1
      obtain ⟨wz, ewz⟩ : ∃ W, w7.setCell ⟨w.heap.size + 1 + 1, 8, none⟩ (.bool on) = W := ⟨_, rfl⟩
      have hOz : wz.heap[w.heap.size + 1 + 1]? = some (.cells #[.int .i64 (C : Int), .int .i64 (N : Int), .int .i64 4, .int .i64 0, .string ⟨#[]⟩, .slice none 0 0, .int .i64 (X : Int), .int .i64 (Y : Int), .bool on] 35) := ewz ▸ heap_setCell_cells hO7 8 _
      have hSz : Chg (fun g => g = w.heap.size + 1 + 1) w7 wz := ewz ▸ Chg.set (D := fun g => g = w.heap.size + 1 + 1) (q := w.heap.size + 1 + 1) 8 w7 _ rfl
      have hTz := hSz.block hT7 (by omega)
      have hRz := hSz.block hR7 (by omega)
      have hCz : Chg (fun g => w.heap.size ≤ g) w wz := hC7.trans (hSz.mono (fun _ _ e => by omega))
      have xz : w7.cell? ⟨w.heap.size + 1 + 1, 8, none⟩ = some (.bool false) := by rw [Lib.cell_of_heap hO7]; rfl
      have yz := Lib.frozen_of_heap hO7 8
      obtain ⟨t0, t1, t2, t3, t4, t5, t6, t7, t8, t9, t10, t11, t12⟩ := box13 hT7
      clear a0 a1 a2 a3 a4 a5 a6 a7 a8
      obtain ⟨a0, a1, a6, a7⟩ := A4
      have HE : Hid (wz.heap[w.heap.size + 1]? = some (.cells #[.int .i64 0, .int .i64 0, .int .i64 0, .int .i64 0, .string ⟨#[]⟩, .slice none 0 0, .int .i64 0, .int .i64 0, .bool false] 35) ∧ Chg (fun g => w.heap.size ≤ g) w wz) := ⟨hRz, hCz⟩
      have FR : ∀ i, wz.frozen? ⟨w.heap.size + 1, i, none⟩ = false := fun i => Lib.frozen_of_heap hRz i
      obtain ⟨b0, b1, b2, b3, b4, b5, b6, b7, b8⟩ := box9 hOz
      obtain ⟨r0, r1, r2, r3, r4, r5, r6, r7, r8⟩ := box9 hRz
      clear hRz hOz hCz
      go_wp2_with fail
      obtain ⟨hx, hCx⟩ := set9 HE.out.1 (.int .i64 (C : Int)) (.int .i64 (N : Int)) (.int .i64 4) (.int .i64 0) (.string ⟨#[]⟩) (.slice none 0 0) (.int .i64 (X : Int)) (.int .i64 (Y : Int)) (.bool on)
      clear b0 b1 b2 b3 b4 b5 b6 b7 b8 r0 r1 r2 r3 r4 r5 r6 r7 r8 FR
      revert hx hCx
      generalize World.setCell _ ⟨w.heap.size + 1, 8, none⟩ (.bool on) = w9
      intro hx hCx
      obtain ⟨r0, r1, r2, r3, r4, r5, r6, r7, r8⟩ := box9 hx
      refine bodyPost_ret (v := .agg #[.int .i64 (C : Int), .int .i64 (N : Int), .int .i64 4, .int .i64 0, .string ⟨#[]⟩, .slice none 0 0, .int .i64 (X : Int), .int .i64 (Y : Int), .bool on]) (by simp [results, Tryd.results13, go_sem, r0, r1, r2, r3, r4, r5, r6, r7, r8]) rfl ?_
      exact ⟨.stat C N X Y on, none, 0, 0, rfl, ⟨by omega, by omega, by omega, by omega, fun h => HG1.out h.1⟩, rw_none _, (fun _ e => by cases e), (HE.out.2.trans (hCx.mono (fun _ _ e => by omega))).below (fun _ e => e) (Nat.le_refl _)⟩
end Go.Proofs.YtkdhcokefnffaaaDoor
