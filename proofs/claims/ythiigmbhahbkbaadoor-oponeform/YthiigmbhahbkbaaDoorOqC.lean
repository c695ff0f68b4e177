import Derived.Test.YthiigmbhahbkbaaDoorOqB
import Derived.Test.YthiigmbhahbkbaaDoorOpR
namespace Go.Proofs.YthiigmbhahbkbaaDoor
open Go.RowKit Go.Lib Sp
set_option maxRecDepth 100000

def fixL : List UInt8 := [50, 46, 56, 32, 111, 102, 102, 32, 51, 46, 49, 55]
def fixO : OpV := ⟨2, 8, 4, 0, ⟨#[]⟩, [], 3, 17, false⟩
theorem fix_read : readP fixL = fixO := by kernel_rfl
theorem itoa_2 : Lib.itoa 2 = [50] := by simp [Lib.itoa, Lib.decDigits]
theorem itoa_8 : Lib.itoa 8 = [56] := by simp [Lib.itoa, Lib.decDigits]
theorem itoa_3 : Lib.itoa 3 = [51] := by simp [Lib.itoa, Lib.decDigits]
theorem itoa_17 : Lib.itoa 17 = [49, 55] := by simp [Lib.itoa, Lib.decDigits]
theorem fix_taken : Taken fixL := by
  unfold Taken
  rw [fix_read]
  refine ⟨by decide, ?_⟩
  simp only [printP, fixO, wordB, idB]
  rw [itoa_2, itoa_8, itoa_3, itoa_17]
  decide
set_option maxHeartbeats 4000000 in
theorem opOneForm_any (l : List UInt8) (hl : l.length ≤ 1048576) (w : World) (hw : Bar w) (hp : Pow w) (hd : Deb w) (he : Errs w) :
    Calls Tryd.prog 8 #[.string (bs l)] w fun e w' => e = .returned (.bool true) ∧ Below w.heap.size w w' := by
  have HG : Tryd.prog.eqGuardType Tryd.prog.depth 25 = false := by kernel_rfl
  have HI1 : ∀ w, (Op.equalIn 10000 25 (.agg #[.int .i64 2, .int .i64 8]) (.agg #[.int .i64 2, .int .i64 8])).run Tryd.prog w = .ok true w := fun w => run_eqID w 2 8 2 8
  have HI2 : ∀ w, (Op.equalIn 10000 25 (.agg #[.int .i64 3, .int .i64 17]) (.agg #[.int .i64 3, .int .i64 17])).run Tryd.prog w = .ok true w := fun w => run_eqID w 3 17 3 17
  have HF : Hid (∀ w' : World, Below w.heap.size w w' → Calls Tryd.prog 23 #[] w' fun e w'' => e = .returned (.bool true) ∧ Below w'.heap.size w' w'') := fun w' hb => opFixed_any w' (hw.below hb) (hp.below hb) (hd.below hb)
  have HQ : Hid (∀ w' : World, Below w.heap.size w w' → Calls Tryd.prog 34 #[.string ⟨#[50, 46, 56, 32, 111, 102, 102, 32, 51, 46, 49, 55]⟩] w' fun e w'' => ∃ a m cap, e = .returned (.tuple #[opVal fixO (.slice a m cap), .int .i64 0]) ∧ Below w'.heap.size w' w'') := fun w' hb => by
    have h := parse_yes fixL (by decide) fix_taken w' (hw.below hb) (hp.below hb) (hd.below hb) (he.below hb)
    rw [fix_read] at h
    refine Calls.mono h ?_
    rintro e w'' ⟨a, m, cap, rfl, _, _, hb2⟩
    exact ⟨a, m, cap, rfl, hb2⟩
  by_cases hT : Taken l
  · have HS : Hid (∀ w' : World, Below w.heap.size w w' → Calls Tryd.prog 34 #[.string (bs l)] w' fun e w'' => ∃ a m cap, e = .returned (.tuple #[opVal (readP l) (.slice a m cap), .int .i64 0]) ∧ Rng w'' a m cap (readP l).l ∧ (∀ g off, a = some ⟨g, off, none⟩ → w'.heap.size ≤ g) ∧ Below w'.heap.size w' w'') := fun w' hb => parse_yes l hl hT w' (hw.below hb) (hp.below hb) (hd.below hb) (he.below hb)
    have hsz := readP_size l
    have HP : Hid (∀ (w' : World) (a : Option Addr) (m cap : Nat), Below w.heap.size w w' → Rng w' a m cap (readP l).l → Calls Tryd.prog 25 #[opVal (readP l) (.slice a m cap)] w' fun e w'' => e = .returned (.tuple #[.string (bs l), .int .i64 0]) ∧ Below w'.heap.size w' w'') := fun w' a m cap hb hR => by
      have := print_right hR hT.1 (by omega) (hw.below hb) (hp.below hb) (hd.below hb)
      rw [hT.2] at this
      exact this
    clear hT hw hp hd he hsz hl
    generalize readP l = o at *
    generalize bs l = S at *
    obtain ⟨c, n, k, p, s, L, tc, tn, on⟩ := o
    simp only [opVal, fixO] at *
    go_enter Tryd.func8, Tryd.ntmps8
    go_wp2_with fail
    refine (HF.out _ (Below.refl _ _)).mono ?_
    rintro e w1 ⟨rfl, hB1⟩
    go_wp2_with fail
    refine (HQ.out _ hB1).mono ?_
    rintro e w2 ⟨fa, fm, fcap, rfl, hb2⟩
    have hB2 := hB1.trans (hb2.mono hB1.size)
    clear hb2 hB1
    have hB3 := hB2.alloc hB2.size (Obj.cells #[.int .i64 2, .int .i64 8, .int .i64 4, .int .i64 0, .string ⟨#[]⟩, .slice fa fm fcap, .int .i64 3, .int .i64 17, .bool false] 31)
    have x3 : (w2.alloc (Obj.cells #[.int .i64 2, .int .i64 8, .int .i64 4, .int .i64 0, .string ⟨#[]⟩, .slice fa fm fcap, .int .i64 3, .int .i64 17, .bool false] 31)).heap[w2.heap.size]? = some (Obj.cells #[.int .i64 2, .int .i64 8, .int .i64 4, .int .i64 0, .string ⟨#[]⟩, .slice fa fm fcap, .int .i64 3, .int .i64 17, .bool false] 31) := alloc_last _ _ _ rfl
    go_wp2_with fail
    refine (HS.out _ hB3).mono ?_
    rintro e w4 ⟨a, m, cap, rfl, hR, hAt, hb4⟩
    have hB4 := hB3.trans (hb4.mono hB3.size)
    have x4 := (hb4.block _ (Array.getElem?_eq_some_iff.1 x3).1).trans x3
    have hRb : Hid (∀ g off, a = some ⟨g, off, none⟩ → 0 < m → g ≠ w2.heap.size) := fun g off ha _ => by have h1 := hAt g off ha; simp at h1; omega
    clear hb4 hB3 x3 hAt
    have d0 : w4.cell? ⟨w2.heap.size, 0, none⟩ = some (.int .i64 2) := by rw [Lib.cell_of_heap x4]; rfl
    have z10 : w4.frozen? ⟨w2.heap.size, 0, none⟩ = false := Lib.frozen_of_heap x4 0
    have d1 : w4.cell? ⟨w2.heap.size, 1, none⟩ = some (.int .i64 8) := by rw [Lib.cell_of_heap x4]; rfl
    have z11 : w4.frozen? ⟨w2.heap.size, 1, none⟩ = false := Lib.frozen_of_heap x4 1
    have d2 : w4.cell? ⟨w2.heap.size, 2, none⟩ = some (.int .i64 4) := by rw [Lib.cell_of_heap x4]; rfl
    have z12 : w4.frozen? ⟨w2.heap.size, 2, none⟩ = false := Lib.frozen_of_heap x4 2
    have d3 : w4.cell? ⟨w2.heap.size, 3, none⟩ = some (.int .i64 0) := by rw [Lib.cell_of_heap x4]; rfl
    have z13 : w4.frozen? ⟨w2.heap.size, 3, none⟩ = false := Lib.frozen_of_heap x4 3
    have d4 : w4.cell? ⟨w2.heap.size, 4, none⟩ = some (.string ⟨#[]⟩) := by rw [Lib.cell_of_heap x4]; rfl
    have z14 : w4.frozen? ⟨w2.heap.size, 4, none⟩ = false := Lib.frozen_of_heap x4 4
    have d5 : w4.cell? ⟨w2.heap.size, 5, none⟩ = some (.slice fa fm fcap) := by rw [Lib.cell_of_heap x4]; rfl
    have z15 : w4.frozen? ⟨w2.heap.size, 5, none⟩ = false := Lib.frozen_of_heap x4 5
    have d6 : w4.cell? ⟨w2.heap.size, 6, none⟩ = some (.int .i64 3) := by rw [Lib.cell_of_heap x4]; rfl
    have z16 : w4.frozen? ⟨w2.heap.size, 6, none⟩ = false := Lib.frozen_of_heap x4 6
    have d7 : w4.cell? ⟨w2.heap.size, 7, none⟩ = some (.int .i64 17) := by rw [Lib.cell_of_heap x4]; rfl
    have z17 : w4.frozen? ⟨w2.heap.size, 7, none⟩ = false := Lib.frozen_of_heap x4 7
    have d8 : w4.cell? ⟨w2.heap.size, 8, none⟩ = some (.bool false) := by rw [Lib.cell_of_heap x4]; rfl
    have z18 : w4.frozen? ⟨w2.heap.size, 8, none⟩ = false := Lib.frozen_of_heap x4 8
    have hx9 := set9g (v0 := .int .i64 c) (v1 := .int .i64 n) (v2 := .int .i64 k) (v3 := .int .i64 p) (v4 := .string s) (v5 := .slice a m cap) (v6 := .int .i64 tc) (v7 := .int .i64 tn) (v8 := .bool on) x4
    have hq0 := hB4.setCell (p := ⟨w2.heap.size, 0, none⟩) hB2.size (.int .i64 c)
    have hq1 := hq0.setCell (p := ⟨w2.heap.size, 1, none⟩) hB2.size (.int .i64 n)
    have hq2 := hq1.setCell (p := ⟨w2.heap.size, 2, none⟩) hB2.size (.int .i64 k)
    have hq3 := hq2.setCell (p := ⟨w2.heap.size, 3, none⟩) hB2.size (.int .i64 p)
    have hq4 := hq3.setCell (p := ⟨w2.heap.size, 4, none⟩) hB2.size (.string s)
    have hq5 := hq4.setCell (p := ⟨w2.heap.size, 5, none⟩) hB2.size (.slice a m cap)
    have hq6 := hq5.setCell (p := ⟨w2.heap.size, 6, none⟩) hB2.size (.int .i64 tc)
    have hq7 := hq6.setCell (p := ⟨w2.heap.size, 7, none⟩) hB2.size (.int .i64 tn)
    have hq8 := hq7.setCell (p := ⟨w2.heap.size, 8, none⟩) hB2.size (.bool on)
    obtain ⟨w9, hw9⟩ : ∃ w9, (((((((((w4.setCell ⟨w2.heap.size, 0, none⟩ (.int .i64 c)).setCell ⟨w2.heap.size, 1, none⟩ (.int .i64 n)).setCell ⟨w2.heap.size, 2, none⟩ (.int .i64 k)).setCell ⟨w2.heap.size, 3, none⟩ (.int .i64 p)).setCell ⟨w2.heap.size, 4, none⟩ (.string s)).setCell ⟨w2.heap.size, 5, none⟩ (.slice a m cap)).setCell ⟨w2.heap.size, 6, none⟩ (.int .i64 tc)).setCell ⟨w2.heap.size, 7, none⟩ (.int .i64 tn)).setCell ⟨w2.heap.size, 8, none⟩ (.bool on)) = w9 := ⟨_, rfl⟩
    have hRg : Rng w9 a m cap L := by
      rw [← hw9]
      refine rng_set ?_ _ _ _ hRb.out
      refine rng_set ?_ _ _ _ hRb.out
      refine rng_set ?_ _ _ _ hRb.out
      refine rng_set ?_ _ _ _ hRb.out
      refine rng_set ?_ _ _ _ hRb.out
      refine rng_set ?_ _ _ _ hRb.out
      refine rng_set ?_ _ _ _ hRb.out
      refine rng_set ?_ _ _ _ hRb.out
      refine rng_set ?_ _ _ _ hRb.out
      exact hR
    rw [hw9] at hx9 hq8
    have r0 : w9.cell? ⟨w2.heap.size, 0, none⟩ = some (.int .i64 c) := by rw [Lib.cell_of_heap hx9]; rfl
    have r1 : w9.cell? ⟨w2.heap.size, 1, none⟩ = some (.int .i64 n) := by rw [Lib.cell_of_heap hx9]; rfl
    have r2 : w9.cell? ⟨w2.heap.size, 2, none⟩ = some (.int .i64 k) := by rw [Lib.cell_of_heap hx9]; rfl
    have r3 : w9.cell? ⟨w2.heap.size, 3, none⟩ = some (.int .i64 p) := by rw [Lib.cell_of_heap hx9]; rfl
    have r4 : w9.cell? ⟨w2.heap.size, 4, none⟩ = some (.string s) := by rw [Lib.cell_of_heap hx9]; rfl
    have r5 : w9.cell? ⟨w2.heap.size, 5, none⟩ = some (.slice a m cap) := by rw [Lib.cell_of_heap hx9]; rfl
    have r6 : w9.cell? ⟨w2.heap.size, 6, none⟩ = some (.int .i64 tc) := by rw [Lib.cell_of_heap hx9]; rfl
    have r7 : w9.cell? ⟨w2.heap.size, 7, none⟩ = some (.int .i64 tn) := by rw [Lib.cell_of_heap hx9]; rfl
    have r8 : w9.cell? ⟨w2.heap.size, 8, none⟩ = some (.bool on) := by rw [Lib.cell_of_heap hx9]; rfl
    clear hq7 hq6 hq5 hq4 hq3 hq2 hq1 hq0 x4 hB4 hR
    go_wp2_with fail
    refine (HP.out _ _ _ _ hq8 hRg).mono ?_
    rintro e w10 ⟨rfl, hb10⟩
    have hB10 := hq8.trans (hb10.mono hq8.size)
    go_wp2_with fail
    go_ret
    exact ⟨rfl, hB10⟩
  · have HS : Hid (∀ w' : World, Below w.heap.size w w' → Calls Tryd.prog 34 #[.string (bs l)] w' fun e w'' => e = .returned (.tuple #[opVal zeroOp (.slice none 0 0), .int .i64 44]) ∧ Below w'.heap.size w' w'') := fun w' hb => parse_no l hl hT w' (hw.below hb) (hp.below hb) (hd.below hb) (he.below hb)
    have HE : Hid (∀ w' : World, Calls Tryd.prog 26 #[opVal zeroOp (.slice none 0 0), opVal zeroOp (.slice none 0 0)] w' fun e w'' => e = .returned (.bool true) ∧ Below w'.heap.size w' w'') := fun w' => by
      have h := opEqual_any (o := zeroOp) (x := zeroOp) (rng_nil w') (rng_nil w')
      rw [show eqP zeroOp zeroOp = true from decide_eq_true ⟨rfl, rfl, rfl, rfl, rfl, rfl, rfl, rfl, rfl⟩] at h
      exact h
    clear hT hw hp hd he hl
    generalize bs l = S at *
    simp only [opVal, fixO, zeroOp] at *
    go_enter Tryd.func8, Tryd.ntmps8
    go_wp2_with fail
    refine (HF.out _ (Below.refl _ _)).mono ?_
    rintro e w1 ⟨rfl, hB1⟩
    go_wp2_with fail
    refine (HQ.out _ hB1).mono ?_
    rintro e w2 ⟨fa, fm, fcap, rfl, hb2⟩
    have hB2 := hB1.trans (hb2.mono hB1.size)
    clear hb2 hB1
    have hB3 := hB2.alloc hB2.size (Obj.cells #[.int .i64 2, .int .i64 8, .int .i64 4, .int .i64 0, .string ⟨#[]⟩, .slice fa fm fcap, .int .i64 3, .int .i64 17, .bool false] 31)
    have x3 : (w2.alloc (Obj.cells #[.int .i64 2, .int .i64 8, .int .i64 4, .int .i64 0, .string ⟨#[]⟩, .slice fa fm fcap, .int .i64 3, .int .i64 17, .bool false] 31)).heap[w2.heap.size]? = some (Obj.cells #[.int .i64 2, .int .i64 8, .int .i64 4, .int .i64 0, .string ⟨#[]⟩, .slice fa fm fcap, .int .i64 3, .int .i64 17, .bool false] 31) := alloc_last _ _ _ rfl
    go_wp2_with fail
    refine (HS.out _ hB3).mono ?_
    rintro e w4 ⟨rfl, hb4⟩
    have hB4 := hB3.trans (hb4.mono hB3.size)
    have x4 := (hb4.block _ (Array.getElem?_eq_some_iff.1 x3).1).trans x3
    clear hb4 hB3 x3
    have d0 : w4.cell? ⟨w2.heap.size, 0, none⟩ = some (.int .i64 2) := by rw [Lib.cell_of_heap x4]; rfl
    have z10 : w4.frozen? ⟨w2.heap.size, 0, none⟩ = false := Lib.frozen_of_heap x4 0
    have d1 : w4.cell? ⟨w2.heap.size, 1, none⟩ = some (.int .i64 8) := by rw [Lib.cell_of_heap x4]; rfl
    have z11 : w4.frozen? ⟨w2.heap.size, 1, none⟩ = false := Lib.frozen_of_heap x4 1
    have d2 : w4.cell? ⟨w2.heap.size, 2, none⟩ = some (.int .i64 4) := by rw [Lib.cell_of_heap x4]; rfl
    have z12 : w4.frozen? ⟨w2.heap.size, 2, none⟩ = false := Lib.frozen_of_heap x4 2
    have d3 : w4.cell? ⟨w2.heap.size, 3, none⟩ = some (.int .i64 0) := by rw [Lib.cell_of_heap x4]; rfl
    have z13 : w4.frozen? ⟨w2.heap.size, 3, none⟩ = false := Lib.frozen_of_heap x4 3
    have d4 : w4.cell? ⟨w2.heap.size, 4, none⟩ = some (.string ⟨#[]⟩) := by rw [Lib.cell_of_heap x4]; rfl
    have z14 : w4.frozen? ⟨w2.heap.size, 4, none⟩ = false := Lib.frozen_of_heap x4 4
    have d5 : w4.cell? ⟨w2.heap.size, 5, none⟩ = some (.slice fa fm fcap) := by rw [Lib.cell_of_heap x4]; rfl
    have z15 : w4.frozen? ⟨w2.heap.size, 5, none⟩ = false := Lib.frozen_of_heap x4 5
    have d6 : w4.cell? ⟨w2.heap.size, 6, none⟩ = some (.int .i64 3) := by rw [Lib.cell_of_heap x4]; rfl
    have z16 : w4.frozen? ⟨w2.heap.size, 6, none⟩ = false := Lib.frozen_of_heap x4 6
    have d7 : w4.cell? ⟨w2.heap.size, 7, none⟩ = some (.int .i64 17) := by rw [Lib.cell_of_heap x4]; rfl
    have z17 : w4.frozen? ⟨w2.heap.size, 7, none⟩ = false := Lib.frozen_of_heap x4 7
    have d8 : w4.cell? ⟨w2.heap.size, 8, none⟩ = some (.bool false) := by rw [Lib.cell_of_heap x4]; rfl
    have z18 : w4.frozen? ⟨w2.heap.size, 8, none⟩ = false := Lib.frozen_of_heap x4 8
    have hx9 := set9g (v0 := .int .i64 0) (v1 := .int .i64 0) (v2 := .int .i64 0) (v3 := .int .i64 0) (v4 := .string ⟨#[]⟩) (v5 := .slice none 0 0) (v6 := .int .i64 0) (v7 := .int .i64 0) (v8 := .bool false) x4
    have hq0 := hB4.setCell (p := ⟨w2.heap.size, 0, none⟩) hB2.size (.int .i64 0)
    have hq1 := hq0.setCell (p := ⟨w2.heap.size, 1, none⟩) hB2.size (.int .i64 0)
    have hq2 := hq1.setCell (p := ⟨w2.heap.size, 2, none⟩) hB2.size (.int .i64 0)
    have hq3 := hq2.setCell (p := ⟨w2.heap.size, 3, none⟩) hB2.size (.int .i64 0)
    have hq4 := hq3.setCell (p := ⟨w2.heap.size, 4, none⟩) hB2.size (.string ⟨#[]⟩)
    have hq5 := hq4.setCell (p := ⟨w2.heap.size, 5, none⟩) hB2.size (.slice none 0 0)
    have hq6 := hq5.setCell (p := ⟨w2.heap.size, 6, none⟩) hB2.size (.int .i64 0)
    have hq7 := hq6.setCell (p := ⟨w2.heap.size, 7, none⟩) hB2.size (.int .i64 0)
    have hq8 := hq7.setCell (p := ⟨w2.heap.size, 8, none⟩) hB2.size (.bool false)
    obtain ⟨w9, hw9⟩ : ∃ w9, (((((((((w4.setCell ⟨w2.heap.size, 0, none⟩ (.int .i64 0)).setCell ⟨w2.heap.size, 1, none⟩ (.int .i64 0)).setCell ⟨w2.heap.size, 2, none⟩ (.int .i64 0)).setCell ⟨w2.heap.size, 3, none⟩ (.int .i64 0)).setCell ⟨w2.heap.size, 4, none⟩ (.string ⟨#[]⟩)).setCell ⟨w2.heap.size, 5, none⟩ (.slice none 0 0)).setCell ⟨w2.heap.size, 6, none⟩ (.int .i64 0)).setCell ⟨w2.heap.size, 7, none⟩ (.int .i64 0)).setCell ⟨w2.heap.size, 8, none⟩ (.bool false)) = w9 := ⟨_, rfl⟩
    rw [hw9] at hx9 hq8
    have r0 : w9.cell? ⟨w2.heap.size, 0, none⟩ = some (.int .i64 0) := by rw [Lib.cell_of_heap hx9]; rfl
    have r1 : w9.cell? ⟨w2.heap.size, 1, none⟩ = some (.int .i64 0) := by rw [Lib.cell_of_heap hx9]; rfl
    have r2 : w9.cell? ⟨w2.heap.size, 2, none⟩ = some (.int .i64 0) := by rw [Lib.cell_of_heap hx9]; rfl
    have r3 : w9.cell? ⟨w2.heap.size, 3, none⟩ = some (.int .i64 0) := by rw [Lib.cell_of_heap hx9]; rfl
    have r4 : w9.cell? ⟨w2.heap.size, 4, none⟩ = some (.string ⟨#[]⟩) := by rw [Lib.cell_of_heap hx9]; rfl
    have r5 : w9.cell? ⟨w2.heap.size, 5, none⟩ = some (.slice none 0 0) := by rw [Lib.cell_of_heap hx9]; rfl
    have r6 : w9.cell? ⟨w2.heap.size, 6, none⟩ = some (.int .i64 0) := by rw [Lib.cell_of_heap hx9]; rfl
    have r7 : w9.cell? ⟨w2.heap.size, 7, none⟩ = some (.int .i64 0) := by rw [Lib.cell_of_heap hx9]; rfl
    have r8 : w9.cell? ⟨w2.heap.size, 8, none⟩ = some (.bool false) := by rw [Lib.cell_of_heap hx9]; rfl
    clear hq7 hq6 hq5 hq4 hq3 hq2 hq1 hq0 x4 hB4
    go_wp2_with fail
    refine (HE.out _).mono ?_
    rintro e w10 ⟨rfl, hb10⟩
    have hB10 := hq8.trans (hb10.mono hq8.size)
    go_wp2_with fail
    go_ret
    exact ⟨rfl, hB10⟩
end Go.Proofs.YthiigmbhahbkbaaDoor
