import Derived.Test.YthiigmbhahbkbaaDoorOpJ0
import Derived.Test.YthiigmbhahbkbaaDoorOpJ1
import Derived.Test.YthiigmbhahbkbaaDoorOpJ2
import Derived.Test.YthiigmbhahbkbaaDoorOpJ3
namespace Go.Proofs.YthiigmbhahbkbaaDoor
open Go.RowKit Go.Lib Sp
set_option maxRecDepth 100000

theorem tmod_fix (k n : Int) (hn : 0 < n) : (k.tmod n < 0 → k.tmod n + n = k % n) ∧ (¬ k.tmod n < 0 → k.tmod n = k % n) := by
  have h0 := Int.emod_nonneg k (show n ≠ 0 by omega)
  have h1 := Int.emod_lt_of_pos k hn
  have h2 : k.tmod n = k % n ∨ k.tmod n = k % n - n := by
    rw [Int.tmod_eq_emod]
    split
    · left; omega
    · right; rw [show (n.natAbs : Int) = n by omega]
  omega
set_option maxHeartbeats 400000 in
theorem pick_any (k n : Int) (hn : 0 < n) (hn2 : n ≤ 1000000000) (w : World) :
    Calls Tryd.prog 9 #[.int .i64 k, .int .i64 n] w fun e w' => e = .returned (.int .i64 (k % n)) ∧ w' = w := by
  obtain ⟨f1, f2⟩ := tmod_fix k n hn
  have hb0 := Int.emod_nonneg k (show n ≠ 0 by omega)
  have hb1 := Int.emod_lt_of_pos k hn
  have t0 : (n == 0) = false := beq_eq_false_iff_ne.2 (by omega)
  have t1 : (n == -1) = false := beq_eq_false_iff_ne.2 (by omega)
  generalize hr : k % n = r at *
  generalize hm : k.tmod n = m at *
  by_cases h : m < 0
  · have e1 := f1 h
    subst e1
    clear f1 f2
    go_enter Tryd.func9, Tryd.ntmps9
    go_wp2_with fail
    go_ret
    exact ⟨rfl, rfl⟩
  · have e1 := f2 h
    subst e1
    clear f1 f2
    go_enter Tryd.func9, Tryd.ntmps9
    go_wp2_with fail
    go_ret
    exact ⟨rfl, rfl⟩

/-- the text of j times the rune e9 -/
def eL (j : Nat) : List UInt8 := encs (List.replicate j 233)
def eS (j : Nat) : ByteArray := ⟨(eL j).toArray⟩
theorem eS_next (j : Nat) : eS j ++ ⟨#[195, 169]⟩ = eS (j + 1) := by
  have h : eL (j + 1) = eL j ++ [195, 169] := by
    unfold eL
    rw [List.replicate_succ', encs_append]
    rfl
  apply ByteArray.ext
  rw [ByteArray.data_append]
  unfold eS
  rw [h]
  simp
theorem okE : okR 233 := ⟨by decide, by decide⟩
theorem eS_text (j : Nat) : IsText (eS j) (List.replicate j 233) := ⟨rfl, fun r hr => by rw [List.eq_of_mem_replicate hr]; exact okE⟩
theorem eS_size (j : Nat) : (eS j).size = j * 2 := by
  have h : ∀ j, (eL j).length = j * 2 := by
    intro j
    induction j with
    | zero => rfl
    | succ j ih =>
      have : eL (j + 1) = eL j ++ [195, 169] := by
        unfold eL
        rw [List.replicate_succ', encs_append]
        rfl
      rw [this, List.length_append, ih]; simp; omega
  show (eL j).toArray.size = _
  rw [List.size_toArray, h]
theorem check_eS (j : Nat) : check (eS j) = ((j : Int), 0, 0) := by rw [(eS_text j).check, List.length_replicate]
theorem check_eSz : check (eS 256 ++ ⟨#[122]⟩) = (257, 0, 0) := by
  have h : IsText (eS 256 ++ ⟨#[122]⟩) (List.replicate 256 233 ++ [122]) := by
    refine ⟨?_, fun r hr => ?_⟩
    · rw [encs_append, ByteArray.data_append]
      unfold eS eL
      simp
      rfl
    · rcases List.mem_append.1 hr with hr | hr
      · rw [List.eq_of_mem_replicate hr]; exact okE
      · simp at hr; subst hr; exact ⟨by decide, by decide⟩
  rw [h.check]
  simp
theorem check_z : check ⟨#[122]⟩ = (1, 0, 0) := by kernel_rfl
theorem insOk {c n p total : Int} {s : ByteArray} {m : Int} (hI : (c = 0 ∧ n = 0) ∨ isIdP c n = true) (hT : 0 ≤ total ∧ total ≤ 1048576) (hc : check s = (m, 0, 0)) (h1 : 1 ≤ m) (h2 : m ≤ 256) (h3 : 0 ≤ p ∧ p ≤ total) (h4 : total + m ≤ 1048576) : opCheck ⟨c, n, 1, p, s, [], 0, 0, false⟩ total = 0 := by
  rw [opCheck_ins hT hI]; simp only [insP, hc]; rw [if_neg (by simp), if_neg (by omega), if_neg (by omega), if_neg (by omega), if_neg (by omega)]
theorem insGrow {c n p total : Int} {s : ByteArray} {m : Int} (hI : (c = 0 ∧ n = 0) ∨ isIdP c n = true) (hT : 0 ≤ total ∧ total ≤ 1048576) (hc : check s = (m, 0, 0)) (h1 : 1 ≤ m) (h2 : m ≤ 256) (h3 : 0 ≤ p ∧ p ≤ total) (h4 : 1048576 < total + m) : opCheck ⟨c, n, 1, p, s, [], 0, 0, false⟩ total = 24 := by
  rw [opCheck_ins hT hI]; simp only [insP, hc]; rw [if_neg (by simp), if_neg (by omega), if_neg (by omega), if_neg (by omega), if_pos (by omega)]
theorem insLong {c n p total : Int} {s : ByteArray} {m : Int} (hI : (c = 0 ∧ n = 0) ∨ isIdP c n = true) (hT : 0 ≤ total ∧ total ≤ 1048576) (hc : check s = (m, 0, 0)) (h2 : 256 < m) : opCheck ⟨c, n, 1, p, s, [], 0, 0, false⟩ total = 14 := by
  rw [opCheck_ins hT hI]; simp only [insP, hc]; rw [if_neg (by simp), if_neg (by omega), if_pos (by omega)]
theorem insPlace {c n p total : Int} {s : ByteArray} {m : Int} (hI : (c = 0 ∧ n = 0) ∨ isIdP c n = true) (hT : 0 ≤ total ∧ total ≤ 1048576) (hc : check s = (m, 0, 0)) (h1 : 1 ≤ m) (h2 : m ≤ 256) (h3 : p < 0 ∨ total < p) : opCheck ⟨c, n, 1, p, s, [], 0, 0, false⟩ total = 12 := by
  rw [opCheck_ins hT hI]; simp only [insP, hc]; rw [if_neg (by simp), if_neg (by omega), if_neg (by omega), if_pos (by omega)]

set_option maxHeartbeats 8000000 in
theorem opOrder_any (k c n : Int) (w : World) (hw : Bar w) : Calls Tryd.prog 3 #[.int .i64 k, .int .i64 c, .int .i64 n] w fun e w' => e = .returned (.bool true) ∧ Below w.heap.size w w' := by
  have HA : Hid (∀ (o : OpV) (total want : Int) (w' : World) (a : Option Addr) (m cap : Nat), Below w.heap.size w w' → opCheck o total = want → Rng w' a m cap o.l → o.s.size ≤ 9223372036854775807 → Calls Tryd.prog 12 #[opVal o (.slice a m cap), .int .i64 total, .int .i64 want] w' fun e w'' => e = .returned (.bool true) ∧ Below w'.heap.size w' w'') := fun o total want w' a m cap hb hq h hs => asked_is hq h hs (hw.below hb)
  have b0 := Int.emod_nonneg k (show (1000000 : Int) ≠ 0 by decide)
  have b1 := Int.emod_lt_of_pos k (show (0 : Int) < 1000000 by decide)
  have HP : Hid (∀ w : World, Calls Tryd.prog 9 #[.int .i64 k, .int .i64 1000000] w fun e w' => e = .returned (.int .i64 (k % 1000000)) ∧ w' = w) := pick_any k 1000000 (by decide) (by decide)
  generalize k % 1000000 = u at *
  go_enter Tryd.func3, Tryd.ntmps3
  go_wp2_with fail
  refine (HP.out _).mono ?_
  rintro e w0 ⟨rfl, hw0⟩
  subst hw0
  go_wp2_with fail
  obtain ⟨t, ht⟩ : ∃ t, 1 + u = t := ⟨_, rfl⟩
  rw [ht]
  have h0 : 1 ≤ t := by omega
  have h1 : t ≤ 1000000 := by omega
  clear ht b0 b1 HP
  have HO : Hid (∀ (j : Nat), j < 4 → ∀ w' : World, Below w0.heap.size w0 w' → Calls Tryd.prog 10 #[.int .i64 (j : Int), .int .i64 t, .int .i64 c, .int .i64 n] w' fun e w'' => e = .returned (.bool true) ∧ Below w'.heap.size w' w'') := fun j hj w' hb => by
    have : j = 0 ∨ j = 1 ∨ j = 2 ∨ j = 3 := by omega
    rcases this with rfl | rfl | rfl | rfl
    · exact orders_0 t c n h0 h1 w' (hw.below hb)
    · exact orders_1 t c n h0 h1 w' (hw.below hb)
    · exact orders_2 t c n h0 h1 w' (hw.below hb)
    · exact orders_3 t c n h0 h1 w' (hw.below hb)
  clear hw
  go_loopw [7, 8] (fun vk vo w' => ∃ j : Nat, vk = .int .i64 j ∧ j ≤ 4 ∧ Below w0.heap.size w0 w') (fun vk _ _ => 4 - (RowKit.intOf vk).toNat)
  case atStart => exact ⟨0, rfl, by omega, Below.refl _ _⟩
  case round =>
    obtain ⟨j, rfl, hj4, hB⟩ := hrel
    by_cases hj : j < 4
    · have hj' : (j : Int) < 4 := by omega
      go_wp2_with fail
      refine (HO.out j hj _ hB).mono ?_
      rintro e w1 ⟨rfl, hb1⟩
      have hB1 := hB.trans (hb1.mono hB.size)
      clear hB hb1
      go_wp2_with fail
      go_roundw
      case rel => exact ⟨j + 1, by go_num, by omega, hB1⟩
      case measure => simp [RowKit.intOf]; omega
    · obtain rfl : j = 4 := by omega
      clear HO
      have hB0 := hB
      clear hB
      go_wp2_with fail
      refine (base_0 t _).mono ?_
      rintro e w1 ⟨rfl, hb1⟩
      have hB1 := hB0.trans (hb1.mono hB0.size)
      clear hB0 hb1
      simp only [opVal]
      go_wp2_with fail
      go_loopw [10] (fun vi w' => ∃ j : Nat, vi = .int .i64 j ∧ j ≤ 256 ∧ Below w0.heap.size w0 w' ∧ w'.heap[w1.heap.size]? = some (.cells #[.int .i64 2, .int .i64 3, .int .i64 1, .int .i64 t, .string (eS j), .slice none 0 0, .int .i64 0, .int .i64 0, .bool false] 31)) (fun vi _ => 256 - (RowKit.intOf vi).toNat)
      case atStart =>
        refine ⟨0, rfl, by omega, hB1.alloc hB1.size _, alloc_last _ _ _ rfl⟩
      case round =>
        obtain ⟨j, rfl, hj6, hB, hbx⟩ := hrel
        by_cases hj7 : j < 256
        · have hj8 : (j : Int) < 256 := by omega
          have hsz := eS_size j
          have d4 : wr.cell? ⟨w1.heap.size, 4, none⟩ = some (.string (eS j)) := by rw [Lib.cell_of_heap hbx]; rfl
          have z4 : wr.frozen? ⟨w1.heap.size, 4, none⟩ = false := Lib.frozen_of_heap hbx 4
          have hx4 : (wr.setCell ⟨w1.heap.size, 4, none⟩ (.string (eS (j + 1)))).heap[w1.heap.size]? = some (.cells #[.int .i64 2, .int .i64 3, .int .i64 1, .int .i64 t, .string (eS (j + 1)), .slice none 0 0, .int .i64 0, .int .i64 0, .bool false] 31) := (heap_setCell_same _ w1.heap.size 4 _ _ (.string (eS (j + 1))) hbx).trans (by simp)
          go_wp2_with fail
          rw [eS_next]
          refine ⟨⟨j + 1, by go_num, by omega, hB.setCell (p := ⟨w1.heap.size, 4, none⟩) hB1.size _, hx4⟩, ?_⟩
          simp [RowKit.intOf]; omega
        · obtain rfl : j = 256 := by omega
          obtain ⟨w2, rfl⟩ : ∃ x, x = wr := ⟨_, rfl⟩
          have c1 : Hid (check (eS 256) = (256, 0, 0)) := check_eS 256
          have c2 : Hid (check (eS 256 ++ ⟨#[122]⟩) = (257, 0, 0)) := check_eSz
          have s1 : Hid ((eS 256).size = 512) := eS_size 256
          have s2 : Hid ((eS 256 ++ ⟨#[122]⟩ : ByteArray).size ≤ 9223372036854775807) := by
            show _ ≤ _
            rw [ByteArray.size_append, s1.out]; exact (show 512 + 1 ≤ 9223372036854775807 by omega)
          generalize eS 256 = S at *
          clear hj hj4 hj6 hj7
          have s1' := s1.out
          have d0 : w2.cell? ⟨w1.heap.size, 0, none⟩ = some (.int .i64 2) := by rw [Lib.cell_of_heap hbx]; rfl
          have d1 : w2.cell? ⟨w1.heap.size, 1, none⟩ = some (.int .i64 3) := by rw [Lib.cell_of_heap hbx]; rfl
          have d2 : w2.cell? ⟨w1.heap.size, 2, none⟩ = some (.int .i64 1) := by rw [Lib.cell_of_heap hbx]; rfl
          have d3 : w2.cell? ⟨w1.heap.size, 3, none⟩ = some (.int .i64 t) := by rw [Lib.cell_of_heap hbx]; rfl
          have d4 : w2.cell? ⟨w1.heap.size, 4, none⟩ = some (.string S) := by rw [Lib.cell_of_heap hbx]; rfl
          have d5 : w2.cell? ⟨w1.heap.size, 5, none⟩ = some (.slice none 0 0) := by rw [Lib.cell_of_heap hbx]; rfl
          have d6 : w2.cell? ⟨w1.heap.size, 6, none⟩ = some (.int .i64 0) := by rw [Lib.cell_of_heap hbx]; rfl
          have d7 : w2.cell? ⟨w1.heap.size, 7, none⟩ = some (.int .i64 0) := by rw [Lib.cell_of_heap hbx]; rfl
          have d8 : w2.cell? ⟨w1.heap.size, 8, none⟩ = some (.bool false) := by rw [Lib.cell_of_heap hbx]; rfl
          go_wp2_with fail
          have hBs := hB
          have hxs := hbx
          refine (HA.out ⟨2, 3, 1, t, S, [], 0, 0, false⟩ t 0 _ none 0 0 hBs (insOk (m := 256) (.inr rfl) (by omega) c1.out (by decide) (by decide) (by omega) (by omega)) (rng_nil _) (by show S.size ≤ _; rw [s1.out]; decide)).mono ?_
          rintro e w3 ⟨rfl, hb⟩
          have hbx2 : w3.heap[w1.heap.size]? = some (.cells #[.int .i64 2, .int .i64 3, .int .i64 1, .int .i64 t, .string S, .slice none 0 0, .int .i64 0, .int .i64 0, .bool false] 31) := (hb.block _ (Array.getElem?_eq_some_iff.1 hxs).1).trans hxs
          have hB2 := hBs.trans (hb.mono hBs.size)
          clear hB hbx d8 d7 d6 d5 d4 d3 d2 d1 d0 hxs hBs hb
          have hbx := hbx2
          have hB := hB2
          clear hbx2 hB2
          have d0 : w3.cell? ⟨w1.heap.size, 0, none⟩ = some (.int .i64 2) := by rw [Lib.cell_of_heap hbx]; rfl
          have d1 : w3.cell? ⟨w1.heap.size, 1, none⟩ = some (.int .i64 3) := by rw [Lib.cell_of_heap hbx]; rfl
          have d2 : w3.cell? ⟨w1.heap.size, 2, none⟩ = some (.int .i64 1) := by rw [Lib.cell_of_heap hbx]; rfl
          have d3 : w3.cell? ⟨w1.heap.size, 3, none⟩ = some (.int .i64 t) := by rw [Lib.cell_of_heap hbx]; rfl
          have d4 : w3.cell? ⟨w1.heap.size, 4, none⟩ = some (.string S) := by rw [Lib.cell_of_heap hbx]; rfl
          have d5 : w3.cell? ⟨w1.heap.size, 5, none⟩ = some (.slice none 0 0) := by rw [Lib.cell_of_heap hbx]; rfl
          have d6 : w3.cell? ⟨w1.heap.size, 6, none⟩ = some (.int .i64 0) := by rw [Lib.cell_of_heap hbx]; rfl
          have d7 : w3.cell? ⟨w1.heap.size, 7, none⟩ = some (.int .i64 0) := by rw [Lib.cell_of_heap hbx]; rfl
          have d8 : w3.cell? ⟨w1.heap.size, 8, none⟩ = some (.bool false) := by rw [Lib.cell_of_heap hbx]; rfl
          go_wp2_with fail
          have hBs := hB
          have hxs := hbx
          refine (HA.out ⟨2, 3, 1, t, S, [], 0, 0, false⟩ 1048320 0 _ none 0 0 hBs (insOk (m := 256) (.inr rfl) (by omega) c1.out (by decide) (by decide) (by omega) (by omega)) (rng_nil _) (by show S.size ≤ _; rw [s1.out]; decide)).mono ?_
          rintro e w4 ⟨rfl, hb⟩
          have hbx2 : w4.heap[w1.heap.size]? = some (.cells #[.int .i64 2, .int .i64 3, .int .i64 1, .int .i64 t, .string S, .slice none 0 0, .int .i64 0, .int .i64 0, .bool false] 31) := (hb.block _ (Array.getElem?_eq_some_iff.1 hxs).1).trans hxs
          have hB2 := hBs.trans (hb.mono hBs.size)
          clear hB hbx d8 d7 d6 d5 d4 d3 d2 d1 d0 hxs hBs hb
          have hbx := hbx2
          have hB := hB2
          clear hbx2 hB2
          have d0 : w4.cell? ⟨w1.heap.size, 0, none⟩ = some (.int .i64 2) := by rw [Lib.cell_of_heap hbx]; rfl
          have d1 : w4.cell? ⟨w1.heap.size, 1, none⟩ = some (.int .i64 3) := by rw [Lib.cell_of_heap hbx]; rfl
          have d2 : w4.cell? ⟨w1.heap.size, 2, none⟩ = some (.int .i64 1) := by rw [Lib.cell_of_heap hbx]; rfl
          have d3 : w4.cell? ⟨w1.heap.size, 3, none⟩ = some (.int .i64 t) := by rw [Lib.cell_of_heap hbx]; rfl
          have d4 : w4.cell? ⟨w1.heap.size, 4, none⟩ = some (.string S) := by rw [Lib.cell_of_heap hbx]; rfl
          have d5 : w4.cell? ⟨w1.heap.size, 5, none⟩ = some (.slice none 0 0) := by rw [Lib.cell_of_heap hbx]; rfl
          have d6 : w4.cell? ⟨w1.heap.size, 6, none⟩ = some (.int .i64 0) := by rw [Lib.cell_of_heap hbx]; rfl
          have d7 : w4.cell? ⟨w1.heap.size, 7, none⟩ = some (.int .i64 0) := by rw [Lib.cell_of_heap hbx]; rfl
          have d8 : w4.cell? ⟨w1.heap.size, 8, none⟩ = some (.bool false) := by rw [Lib.cell_of_heap hbx]; rfl
          go_wp2_with fail
          have hBs := hB
          have hxs := hbx
          refine (HA.out ⟨2, 3, 1, t, S, [], 0, 0, false⟩ 1048321 24 _ none 0 0 hBs (insGrow (m := 256) (.inr rfl) (by omega) c1.out (by decide) (by decide) (by omega) (by omega)) (rng_nil _) (by show S.size ≤ _; rw [s1.out]; decide)).mono ?_
          rintro e w5 ⟨rfl, hb⟩
          have hbx2 : w5.heap[w1.heap.size]? = some (.cells #[.int .i64 2, .int .i64 3, .int .i64 1, .int .i64 t, .string S, .slice none 0 0, .int .i64 0, .int .i64 0, .bool false] 31) := (hb.block _ (Array.getElem?_eq_some_iff.1 hxs).1).trans hxs
          have hB2 := hBs.trans (hb.mono hBs.size)
          clear hB hbx d8 d7 d6 d5 d4 d3 d2 d1 d0 hxs hBs hb
          have hbx := hbx2
          have hB := hB2
          clear hbx2 hB2
          have d0 : w5.cell? ⟨w1.heap.size, 0, none⟩ = some (.int .i64 2) := by rw [Lib.cell_of_heap hbx]; rfl
          have d1 : w5.cell? ⟨w1.heap.size, 1, none⟩ = some (.int .i64 3) := by rw [Lib.cell_of_heap hbx]; rfl
          have d2 : w5.cell? ⟨w1.heap.size, 2, none⟩ = some (.int .i64 1) := by rw [Lib.cell_of_heap hbx]; rfl
          have d3 : w5.cell? ⟨w1.heap.size, 3, none⟩ = some (.int .i64 t) := by rw [Lib.cell_of_heap hbx]; rfl
          have d4 : w5.cell? ⟨w1.heap.size, 4, none⟩ = some (.string S) := by rw [Lib.cell_of_heap hbx]; rfl
          have d5 : w5.cell? ⟨w1.heap.size, 5, none⟩ = some (.slice none 0 0) := by rw [Lib.cell_of_heap hbx]; rfl
          have d6 : w5.cell? ⟨w1.heap.size, 6, none⟩ = some (.int .i64 0) := by rw [Lib.cell_of_heap hbx]; rfl
          have d7 : w5.cell? ⟨w1.heap.size, 7, none⟩ = some (.int .i64 0) := by rw [Lib.cell_of_heap hbx]; rfl
          have d8 : w5.cell? ⟨w1.heap.size, 8, none⟩ = some (.bool false) := by rw [Lib.cell_of_heap hbx]; rfl
          go_wp2_with fail
          have hBs := hB
          have hxs := hbx
          refine (HA.out ⟨2, 3, 1, t, S, [], 0, 0, false⟩ 1048576 24 _ none 0 0 hBs (insGrow (m := 256) (.inr rfl) (by omega) c1.out (by decide) (by decide) (by omega) (by omega)) (rng_nil _) (by show S.size ≤ _; rw [s1.out]; decide)).mono ?_
          rintro e w6 ⟨rfl, hb⟩
          have hbx2 : w6.heap[w1.heap.size]? = some (.cells #[.int .i64 2, .int .i64 3, .int .i64 1, .int .i64 t, .string S, .slice none 0 0, .int .i64 0, .int .i64 0, .bool false] 31) := (hb.block _ (Array.getElem?_eq_some_iff.1 hxs).1).trans hxs
          have hB2 := hBs.trans (hb.mono hBs.size)
          clear hB hbx d8 d7 d6 d5 d4 d3 d2 d1 d0 hxs hBs hb
          have hbx := hbx2
          have hB := hB2
          clear hbx2 hB2
          have d0 : w6.cell? ⟨w1.heap.size, 0, none⟩ = some (.int .i64 2) := by rw [Lib.cell_of_heap hbx]; rfl
          have d1 : w6.cell? ⟨w1.heap.size, 1, none⟩ = some (.int .i64 3) := by rw [Lib.cell_of_heap hbx]; rfl
          have d2 : w6.cell? ⟨w1.heap.size, 2, none⟩ = some (.int .i64 1) := by rw [Lib.cell_of_heap hbx]; rfl
          have d3 : w6.cell? ⟨w1.heap.size, 3, none⟩ = some (.int .i64 t) := by rw [Lib.cell_of_heap hbx]; rfl
          have d4 : w6.cell? ⟨w1.heap.size, 4, none⟩ = some (.string S) := by rw [Lib.cell_of_heap hbx]; rfl
          have d5 : w6.cell? ⟨w1.heap.size, 5, none⟩ = some (.slice none 0 0) := by rw [Lib.cell_of_heap hbx]; rfl
          have d6 : w6.cell? ⟨w1.heap.size, 6, none⟩ = some (.int .i64 0) := by rw [Lib.cell_of_heap hbx]; rfl
          have d7 : w6.cell? ⟨w1.heap.size, 7, none⟩ = some (.int .i64 0) := by rw [Lib.cell_of_heap hbx]; rfl
          have d8 : w6.cell? ⟨w1.heap.size, 8, none⟩ = some (.bool false) := by rw [Lib.cell_of_heap hbx]; rfl
          have z4 : w6.frozen? ⟨w1.heap.size, 4, none⟩ = false := Lib.frozen_of_heap hbx 4
          have z3 : w6.frozen? ⟨w1.heap.size, 3, none⟩ = false := Lib.frozen_of_heap hbx 3
          go_wp2_with fail
          have hBs0 := hB.setCell (p := ⟨w1.heap.size, 4, none⟩) hB1.size (.string (S ++ ⟨#[122]⟩))
          have hxs0 : (w6.setCell ⟨w1.heap.size, 4, none⟩ (.string (S ++ ⟨#[122]⟩))).heap[w1.heap.size]? = some (.cells #[.int .i64 2, .int .i64 3, .int .i64 1, .int .i64 t, .string (S ++ ⟨#[122]⟩), .slice none 0 0, .int .i64 0, .int .i64 0, .bool false] 31) := (heap_setCell_same _ w1.heap.size 4 _ _ _ hbx).trans (by simp)
          have hBs1 := hBs0.setCell (p := ⟨w1.heap.size, 3, none⟩) hB1.size (.int .i64 (-1))
          have hxs1 : ((w6.setCell ⟨w1.heap.size, 4, none⟩ (.string (S ++ ⟨#[122]⟩))).setCell ⟨w1.heap.size, 3, none⟩ (.int .i64 (-1))).heap[w1.heap.size]? = some (.cells #[.int .i64 2, .int .i64 3, .int .i64 1, .int .i64 (-1), .string (S ++ ⟨#[122]⟩), .slice none 0 0, .int .i64 0, .int .i64 0, .bool false] 31) := (heap_setCell_same _ w1.heap.size 3 _ _ _ hxs0).trans (by simp)
          have hBs := hBs1
          have hxs := hxs1
          have HH := HA.out ⟨2, 3, 1, -1, (S ++ ⟨#[122]⟩), [], 0, 0, false⟩ 1048576 14 _ none 0 0 hBs (insLong (m := 257) (.inr rfl) (by omega) c2.out (by decide)) (rng_nil _) s2.out 
          simp only [opVal] at HH
          refine HH.mono ?_
          clear HH
          rintro e w7 ⟨rfl, hb⟩
          have hbx2 : w7.heap[w1.heap.size]? = some (.cells #[.int .i64 2, .int .i64 3, .int .i64 1, .int .i64 (-1), .string (S ++ ⟨#[122]⟩), .slice none 0 0, .int .i64 0, .int .i64 0, .bool false] 31) := (hb.block _ (Array.getElem?_eq_some_iff.1 hxs).1).trans hxs
          have hB2 := hBs.trans (hb.mono hBs.size)
          clear hB hbx hxs1 hxs0 hBs1 hBs0 z3 z4 d8 d7 d6 d5 d4 d3 d2 d1 d0 hxs hBs hb
          have hbx := hbx2
          have hB := hB2
          clear hbx2 hB2
          have d0 : w7.cell? ⟨w1.heap.size, 0, none⟩ = some (.int .i64 2) := by rw [Lib.cell_of_heap hbx]; rfl
          have d1 : w7.cell? ⟨w1.heap.size, 1, none⟩ = some (.int .i64 3) := by rw [Lib.cell_of_heap hbx]; rfl
          have d2 : w7.cell? ⟨w1.heap.size, 2, none⟩ = some (.int .i64 1) := by rw [Lib.cell_of_heap hbx]; rfl
          have d3 : w7.cell? ⟨w1.heap.size, 3, none⟩ = some (.int .i64 (-1)) := by rw [Lib.cell_of_heap hbx]; rfl
          have d4 : w7.cell? ⟨w1.heap.size, 4, none⟩ = some (.string (S ++ ⟨#[122]⟩)) := by rw [Lib.cell_of_heap hbx]; rfl
          have d5 : w7.cell? ⟨w1.heap.size, 5, none⟩ = some (.slice none 0 0) := by rw [Lib.cell_of_heap hbx]; rfl
          have d6 : w7.cell? ⟨w1.heap.size, 6, none⟩ = some (.int .i64 0) := by rw [Lib.cell_of_heap hbx]; rfl
          have d7 : w7.cell? ⟨w1.heap.size, 7, none⟩ = some (.int .i64 0) := by rw [Lib.cell_of_heap hbx]; rfl
          have d8 : w7.cell? ⟨w1.heap.size, 8, none⟩ = some (.bool false) := by rw [Lib.cell_of_heap hbx]; rfl
          have z4 : w7.frozen? ⟨w1.heap.size, 4, none⟩ = false := Lib.frozen_of_heap hbx 4
          go_wp2_with fail
          have hBs0 := hB.setCell (p := ⟨w1.heap.size, 4, none⟩) hB1.size (.string ⟨#[122]⟩)
          have hxs0 : (w7.setCell ⟨w1.heap.size, 4, none⟩ (.string ⟨#[122]⟩)).heap[w1.heap.size]? = some (.cells #[.int .i64 2, .int .i64 3, .int .i64 1, .int .i64 (-1), .string ⟨#[122]⟩, .slice none 0 0, .int .i64 0, .int .i64 0, .bool false] 31) := (heap_setCell_same _ w1.heap.size 4 _ _ _ hbx).trans (by simp)
          have hBs := hBs0
          have hxs := hxs0
          have HH := HA.out ⟨2, 3, 1, -1, ⟨#[122]⟩, [], 0, 0, false⟩ 1048576 12 _ none 0 0 hBs (insPlace (m := 1) (.inr rfl) (by omega) check_z (by decide) (by decide) (by omega)) (rng_nil _) (Nat.le_of_ble_eq_true rfl) 
          simp only [opVal] at HH
          refine HH.mono ?_
          clear HH
          rintro e w8 ⟨rfl, hb⟩
          have hbx2 : w8.heap[w1.heap.size]? = some (.cells #[.int .i64 2, .int .i64 3, .int .i64 1, .int .i64 (-1), .string ⟨#[122]⟩, .slice none 0 0, .int .i64 0, .int .i64 0, .bool false] 31) := (hb.block _ (Array.getElem?_eq_some_iff.1 hxs).1).trans hxs
          have hB2 := hBs.trans (hb.mono hBs.size)
          clear hB hbx hxs0 hBs0 z4 d8 d7 d6 d5 d4 d3 d2 d1 d0 hxs hBs hb
          have hbx := hbx2
          have hB := hB2
          clear hbx2 hB2
          go_wp2_with fail
          go_ret
          exact ⟨rfl, hB⟩
end Go.Proofs.YthiigmbhahbkbaaDoor
