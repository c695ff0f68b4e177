import Derived.Test.YtnbedohlgghhdaaDoorOpY
import Derived.Test.YtnbedohlgghhdaaDoorOpH
namespace Go.Proofs.YtnbedohlgghhdaaDoor
open Go.RowKit Go.Lib Sp
set_option maxRecDepth 100000

def insW : List UInt8 := [105, 110, 115]
def hideW : List UInt8 := [104, 105, 100, 101]
def showW : List UInt8 := [115, 104, 111, 119]
def onW : List UInt8 := [111, 110]
def offW : List UInt8 := [111, 102, 102]
/-- What readLine reads. -/
def readW (i : Int × Int) (word rest : List UInt8) : OpV :=
  if word = insW then ⟨i.1, i.2, 1, numP (cut1 rest 32).1, bs (unqL (cut1 rest 32).2.1).1, [], 0, 0, false⟩
  else if word = hideW then ⟨i.1, i.2, 2, 0, ⟨#[]⟩, rngsP 32769 rest, 0, 0, false⟩
  else if word = showW then ⟨i.1, i.2, 3, 0, ⟨#[]⟩, rngsP 32769 rest, 0, 0, false⟩
  else if word = onW ∨ word = offW then ⟨i.1, i.2, 4, 0, ⟨#[]⟩, [], (idP rest).1, (idP rest).2, decide (word = onW)⟩
  else ⟨i.1, i.2, 0, 0, ⟨#[]⟩, [], 0, 0, false⟩
def readP (l : List UInt8) : OpV := readW (idP (cut1 l 32).1) (cut1 (cut1 l 32).2.1 32).1 (cut1 (cut1 l 32).2.1 32).2.1

theorem set9 {W : World} {b : Nat} {T : TypeId} {v0 v1 v2 v3 v4 v5 v6 v7 v8 : Value} (h : W.heap[b]? = some (.cells #[v0, v1, v2, v3, v4, v5, v6, v7, v8] T)) :
    (((((((((W.setCell ⟨b, 0, none⟩ v0).setCell ⟨b, 1, none⟩ v1).setCell ⟨b, 2, none⟩ v2).setCell ⟨b, 3, none⟩ v3).setCell ⟨b, 4, none⟩ v4).setCell ⟨b, 5, none⟩ v5).setCell ⟨b, 6, none⟩ v6).setCell ⟨b, 7, none⟩ v7).setCell ⟨b, 8, none⟩ v8).heap[b]? = some (.cells #[v0, v1, v2, v3, v4, v5, v6, v7, v8] T) := by
  have h0 := (heap_setCell_same _ b 0 _ _ v0 h).trans (by simp; rfl)
  have h1 := (heap_setCell_same _ b 1 _ _ v1 h0).trans (by simp; rfl)
  have h2 := (heap_setCell_same _ b 2 _ _ v2 h1).trans (by simp; rfl)
  have h3 := (heap_setCell_same _ b 3 _ _ v3 h2).trans (by simp; rfl)
  have h4 := (heap_setCell_same _ b 4 _ _ v4 h3).trans (by simp; rfl)
  have h5 := (heap_setCell_same _ b 5 _ _ v5 h4).trans (by simp; rfl)
  have h6 := (heap_setCell_same _ b 6 _ _ v6 h5).trans (by simp; rfl)
  have h7 := (heap_setCell_same _ b 7 _ _ v7 h6).trans (by simp; rfl)
  have h8 := (heap_setCell_same _ b 8 _ _ v8 h7).trans (by simp; rfl)
  exact h8

/-- A store into a block in which no cell of the list lies. -/
theorem own_setZ {w : World} {B : Nat} {v : Value} {l : List (Int × Int)} (h : OwnF rangeV 2 60 w B v l) (b i : Nat) (u : Value) (hb : b < B) : OwnF rangeV 2 60 (w.setCell ⟨b, i, none⟩ u) B v l := by
  refine ⟨h.1, ?_⟩
  rcases h.2 with h0 | ⟨g, cap, cur, e, h1, hh, rest⟩
  · exact .inl h0
  · exact .inr ⟨g, cap, cur, e, h1, (Below.heap_setCell _ _ _ _ (by simp only; omega)).trans hh, rest⟩
theorem rng_set {w : World} {a : Option Addr} {n cap : Nat} {l : List (Int × Int)} (h : Rng w a n cap l) (b i : Nat) (v : Value) (hb : ∀ g off, a = some ⟨g, off, none⟩ → 0 < n → g ≠ b) : Rng (w.setCell ⟨b, i, none⟩ v) a n cap l :=
  ⟨h.len, h.room, fun j hj => by
    obtain ⟨g, off, ha, hg, hc, hd⟩ := h.cells j hj
    have hne := hb g off ha (by omega)
    refine ⟨g, off, ha, by simpa [World.setCell] using hg, ?_, ?_⟩
    · rw [← hc]; unfold World.cell?; rw [Below.heap_setCell _ _ _ _ hne]
    · rw [← hd]; unfold World.cell?; rw [Below.heap_setCell _ _ _ _ hne]⟩
set_option maxHeartbeats 2000000 in
theorem readLine_no (l : List UInt8) (hl : l.length ≤ 4294967296) (w : World) (he : Errs w) (h1 : (cut1 (cut1 l 32).2.1 32).1 ≠ insW) (h2 : (cut1 (cut1 l 32).2.1 32).1 ≠ hideW) (h3 : (cut1 (cut1 l 32).2.1 32).1 ≠ showW) (h4 : (cut1 (cut1 l 32).2.1 32).1 ≠ onW) (h5 : (cut1 (cut1 l 32).2.1 32).1 ≠ offW) :
    Calls Tryd.prog 21 #[.string (bs l)] w fun e w' => ∃ a m cap, e = .returned (opVal (readP l) (.slice a m cap)) ∧ Rng w' a m cap (readP l).l ∧ OwnF rangeV 2 60 w' w.heap.size (.slice a m cap) (readP l).l ∧ Below w.heap.size w w' := by
  have HR : Hid (readP l = ⟨(idP (cut1 l 32).1).1, (idP (cut1 l 32).1).2, 0, 0, ⟨#[]⟩, [], 0, 0, false⟩) := by
    show _ = _
    unfold readP readW
    rw [if_neg h1, if_neg h2, if_neg h3, if_neg (fun h => h.elim h4 h5)]
  have hle := cut1_le l 32
  have hle2 := cut1_le (cut1 l 32).2.1 32
  have H1 : Hid (∀ w : World, Calls Tryd.prog 28 #[.string (bs l), .string ⟨#[32]⟩] w fun e w' => e = .returned (.tuple #[.string (bs (cut1 l 32).1), .string (bs (cut1 l 32).2.1), .bool (cut1 l 32).2.2]) ∧ Below w.heap.size w w') := fun w => cut_any l 32 hl w
  have H2 : Hid (∀ w : World, Calls Tryd.prog 28 #[.string (bs (cut1 l 32).2.1), .string ⟨#[32]⟩] w fun e w' => e = .returned (.tuple #[.string (bs (cut1 (cut1 l 32).2.1 32).1), .string (bs (cut1 (cut1 l 32).2.1 32).2.1), .bool (cut1 (cut1 l 32).2.1 32).2.2]) ∧ Below w.heap.size w w') := fun w => cut_any _ 32 (by omega) w
  have H3 : Hid (∀ w' : World, Below w.heap.size w w' → Calls Tryd.prog 29 #[.string (bs (cut1 l 32).1)] w' fun e w'' => e = .returned (.agg #[.int .i64 (idP (cut1 l 32).1).1, .int .i64 (idP (cut1 l 32).1).2]) ∧ Below w'.heap.size w' w'') := fun w' hb => readID_any _ (by omega) w' (he.below hb)
  generalize hwd : (cut1 (cut1 l 32).2.1 32).1 = wd at *
  have hlist : (bs wd).toList = wd := list_of wd
  have t1 : ((bs wd).toList == [105, 110, 115]) = false := by rw [hlist]; exact beq_eq_false_iff_ne.2 h1
  have t2 : ((bs wd).toList == [104, 105, 100, 101]) = false := by rw [hlist]; exact beq_eq_false_iff_ne.2 h2
  have t3 : ((bs wd).toList == [115, 104, 111, 119]) = false := by rw [hlist]; exact beq_eq_false_iff_ne.2 h3
  have t4 : ((bs wd).toList == [111, 110]) = false := by rw [hlist]; exact beq_eq_false_iff_ne.2 h4
  have t5 : ((bs wd).toList == [111, 102, 102]) = false := by rw [hlist]; exact beq_eq_false_iff_ne.2 h5
  rw [HR.out]
  clear hle hle2 he hl HR h1 h2 h3 h4 h5 hlist hwd
  generalize (idP (cut1 l 32).1).1 = c at *
  generalize (idP (cut1 l 32).1).2 = n at *
  generalize bs wd = W0 at *
  generalize bs (cut1 (cut1 l 32).2.1 32).2.1 = rs at *
  generalize (cut1 (cut1 l 32).2.1 32).2.2 = z1 at *
  generalize bs (cut1 l 32).1 = p1 at *
  generalize bs (cut1 l 32).2.1 = p2 at *
  generalize (cut1 l 32).2.2 = z2 at *
  generalize bs l = S at *
  simp only [opVal]
  have hw2 := (Below.refl w.heap.size w).alloc (Nat.le_refl _) (Obj.cells #[.int .i64 0, .int .i64 0, .int .i64 0, .int .i64 0, .string ⟨#[]⟩, .slice none 0 0, .int .i64 0, .int .i64 0, .bool false] 38)
  go_enter Tryd.func21, Tryd.ntmps21
  go_wp2_with fail
  refine (H1.out _).mono ?_
  rintro e w1 ⟨rfl, hb1⟩
  have hB1 := hw2.trans (hb1.mono hw2.size)
  have x1 := (hb1.block w.heap.size (by simp)).trans (alloc_last _ _ _ rfl)
  clear hw2 hb1
  go_wp2_with fail
  refine (H2.out _).mono ?_
  rintro e w2 ⟨rfl, hb2⟩
  have hB2 := hB1.trans (hb2.mono hB1.size)
  have x2 := (hb2.block _ (Array.getElem?_eq_some_iff.1 x1).1).trans x1
  clear hB1 hb2 x1
  go_wp2_with fail
  refine (H3.out _ hB2).mono ?_
  rintro e w3 ⟨rfl, hb3⟩
  have hB3 := hB2.trans (hb3.mono hB2.size)
  have x3 := (hb3.block _ (Array.getElem?_eq_some_iff.1 x2).1).trans x2
  clear hB2 hb3 x2
  have d0 : w3.cell? ⟨w.heap.size, 0, none⟩ = some (.int .i64 0) := by rw [Lib.cell_of_heap x3]; rfl
  have z10 : w3.frozen? ⟨w.heap.size, 0, none⟩ = false := Lib.frozen_of_heap x3 0
  have d1 : w3.cell? ⟨w.heap.size, 1, none⟩ = some (.int .i64 0) := by rw [Lib.cell_of_heap x3]; rfl
  have z11 : w3.frozen? ⟨w.heap.size, 1, none⟩ = false := Lib.frozen_of_heap x3 1
  have d2 : w3.cell? ⟨w.heap.size, 2, none⟩ = some (.int .i64 0) := by rw [Lib.cell_of_heap x3]; rfl
  have z12 : w3.frozen? ⟨w.heap.size, 2, none⟩ = false := Lib.frozen_of_heap x3 2
  have d3 : w3.cell? ⟨w.heap.size, 3, none⟩ = some (.int .i64 0) := by rw [Lib.cell_of_heap x3]; rfl
  have z13 : w3.frozen? ⟨w.heap.size, 3, none⟩ = false := Lib.frozen_of_heap x3 3
  have d4 : w3.cell? ⟨w.heap.size, 4, none⟩ = some (.string ⟨#[]⟩) := by rw [Lib.cell_of_heap x3]; rfl
  have z14 : w3.frozen? ⟨w.heap.size, 4, none⟩ = false := Lib.frozen_of_heap x3 4
  have d5 : w3.cell? ⟨w.heap.size, 5, none⟩ = some (.slice none 0 0) := by rw [Lib.cell_of_heap x3]; rfl
  have z15 : w3.frozen? ⟨w.heap.size, 5, none⟩ = false := Lib.frozen_of_heap x3 5
  have d6 : w3.cell? ⟨w.heap.size, 6, none⟩ = some (.int .i64 0) := by rw [Lib.cell_of_heap x3]; rfl
  have z16 : w3.frozen? ⟨w.heap.size, 6, none⟩ = false := Lib.frozen_of_heap x3 6
  have d7 : w3.cell? ⟨w.heap.size, 7, none⟩ = some (.int .i64 0) := by rw [Lib.cell_of_heap x3]; rfl
  have z17 : w3.frozen? ⟨w.heap.size, 7, none⟩ = false := Lib.frozen_of_heap x3 7
  have d8 : w3.cell? ⟨w.heap.size, 8, none⟩ = some (.bool false) := by rw [Lib.cell_of_heap x3]; rfl
  have z18 : w3.frozen? ⟨w.heap.size, 8, none⟩ = false := Lib.frozen_of_heap x3 8
  have sB0 := hB3.setCell (p := ⟨w.heap.size, 0, none⟩) (Nat.le_refl _) (.int .i64 c)
  have sx0 : (w3.setCell ⟨w.heap.size, 0, none⟩ (.int .i64 c)).heap[w.heap.size]? = some (.cells #[.int .i64 c, .int .i64 0, .int .i64 0, .int .i64 0, .string ⟨#[]⟩, .slice none 0 0, .int .i64 0, .int .i64 0, .bool false] 38) := (heap_setCell_same _ w.heap.size 0 _ _ _ x3).trans (by simp)
  have sB1 := sB0.setCell (p := ⟨w.heap.size, 1, none⟩) (Nat.le_refl _) (.int .i64 n)
  have sx1 : ((w3.setCell ⟨w.heap.size, 0, none⟩ (.int .i64 c)).setCell ⟨w.heap.size, 1, none⟩ (.int .i64 n)).heap[w.heap.size]? = some (.cells #[.int .i64 c, .int .i64 n, .int .i64 0, .int .i64 0, .string ⟨#[]⟩, .slice none 0 0, .int .i64 0, .int .i64 0, .bool false] 38) := (heap_setCell_same _ w.heap.size 1 _ _ _ sx0).trans (by simp)
  have hx9 := set9 sx1
  have hq0 := sB1.setCell (p := ⟨w.heap.size, 0, none⟩) (Nat.le_refl _) (.int .i64 c)
  have hq1 := hq0.setCell (p := ⟨w.heap.size, 1, none⟩) (Nat.le_refl _) (.int .i64 n)
  have hq2 := hq1.setCell (p := ⟨w.heap.size, 2, none⟩) (Nat.le_refl _) (.int .i64 0)
  have hq3 := hq2.setCell (p := ⟨w.heap.size, 3, none⟩) (Nat.le_refl _) (.int .i64 0)
  have hq4 := hq3.setCell (p := ⟨w.heap.size, 4, none⟩) (Nat.le_refl _) (.string ⟨#[]⟩)
  have hq5 := hq4.setCell (p := ⟨w.heap.size, 5, none⟩) (Nat.le_refl _) (.slice none 0 0)
  have hq6 := hq5.setCell (p := ⟨w.heap.size, 6, none⟩) (Nat.le_refl _) (.int .i64 0)
  have hq7 := hq6.setCell (p := ⟨w.heap.size, 7, none⟩) (Nat.le_refl _) (.int .i64 0)
  have hq8 := hq7.setCell (p := ⟨w.heap.size, 8, none⟩) (Nat.le_refl _) (.bool false)
  obtain ⟨w9, hw9⟩ : ∃ w9, (((((((((((w3.setCell ⟨w.heap.size, 0, none⟩ (.int .i64 c)).setCell ⟨w.heap.size, 1, none⟩ (.int .i64 n)).setCell ⟨w.heap.size, 0, none⟩ (.int .i64 c)).setCell ⟨w.heap.size, 1, none⟩ (.int .i64 n)).setCell ⟨w.heap.size, 2, none⟩ (.int .i64 0)).setCell ⟨w.heap.size, 3, none⟩ (.int .i64 0)).setCell ⟨w.heap.size, 4, none⟩ (.string ⟨#[]⟩)).setCell ⟨w.heap.size, 5, none⟩ (.slice none 0 0)).setCell ⟨w.heap.size, 6, none⟩ (.int .i64 0)).setCell ⟨w.heap.size, 7, none⟩ (.int .i64 0)).setCell ⟨w.heap.size, 8, none⟩ (.bool false)) = w9 := ⟨_, rfl⟩
  rw [hw9] at hx9 hq8
  have r0 : w9.cell? ⟨w.heap.size, 0, none⟩ = some (.int .i64 c) := by rw [Lib.cell_of_heap hx9]; rfl
  have r1 : w9.cell? ⟨w.heap.size, 1, none⟩ = some (.int .i64 n) := by rw [Lib.cell_of_heap hx9]; rfl
  have r2 : w9.cell? ⟨w.heap.size, 2, none⟩ = some (.int .i64 0) := by rw [Lib.cell_of_heap hx9]; rfl
  have r3 : w9.cell? ⟨w.heap.size, 3, none⟩ = some (.int .i64 0) := by rw [Lib.cell_of_heap hx9]; rfl
  have r4 : w9.cell? ⟨w.heap.size, 4, none⟩ = some (.string ⟨#[]⟩) := by rw [Lib.cell_of_heap hx9]; rfl
  have r5 : w9.cell? ⟨w.heap.size, 5, none⟩ = some (.slice none 0 0) := by rw [Lib.cell_of_heap hx9]; rfl
  have r6 : w9.cell? ⟨w.heap.size, 6, none⟩ = some (.int .i64 0) := by rw [Lib.cell_of_heap hx9]; rfl
  have r7 : w9.cell? ⟨w.heap.size, 7, none⟩ = some (.int .i64 0) := by rw [Lib.cell_of_heap hx9]; rfl
  have r8 : w9.cell? ⟨w.heap.size, 8, none⟩ = some (.bool false) := by rw [Lib.cell_of_heap hx9]; rfl
  clear hq7 hq6 hq5 hq4 hq3 hq2 hq1 hq0 sx1 sx0 sB1 sB0
  go_wp2_with fail
  try rw [hw9]
  refine bodyPost_ret (v := .agg #[.int .i64 c, .int .i64 n, .int .i64 0, .int .i64 0, .string ⟨#[]⟩, .slice none 0 0, .int .i64 0, .int .i64 0, .bool false]) (by simp [results, Tryd.results21, go_sem, r0, r1, r2, r3, r4, r5, r6, r7, r8]) rfl ⟨none, 0, 0, rfl, rng_nil _, ownF_nil _ _, hq8⟩
set_option maxHeartbeats 2000000 in
theorem readLine_ins (l : List UInt8) (hl : l.length ≤ 4294967296) (w : World) (he : Errs w) (hd : Deb w) (h0 : (cut1 (cut1 l 32).2.1 32).1 = insW) :
    Calls Tryd.prog 21 #[.string (bs l)] w fun e w' => ∃ a m cap, e = .returned (opVal (readP l) (.slice a m cap)) ∧ Rng w' a m cap (readP l).l ∧ OwnF rangeV 2 60 w' w.heap.size (.slice a m cap) (readP l).l ∧ Below w.heap.size w w' := by
  have HR : Hid (readP l = ⟨(idP (cut1 l 32).1).1, (idP (cut1 l 32).1).2, 1, numP (cut1 (cut1 (cut1 l 32).2.1 32).2.1 32).1, bs (unqL (cut1 (cut1 (cut1 l 32).2.1 32).2.1 32).2.1).1, [], 0, 0, false⟩) := by
    show _ = _
    unfold readP readW
    rw [h0]
    rw [if_pos rfl]
  have hle := cut1_le l 32
  have hle2 := cut1_le (cut1 l 32).2.1 32
  have H1 : Hid (∀ w : World, Calls Tryd.prog 28 #[.string (bs l), .string ⟨#[32]⟩] w fun e w' => e = .returned (.tuple #[.string (bs (cut1 l 32).1), .string (bs (cut1 l 32).2.1), .bool (cut1 l 32).2.2]) ∧ Below w.heap.size w w') := fun w => cut_any l 32 hl w
  have H2 : Hid (∀ w : World, Calls Tryd.prog 28 #[.string (bs (cut1 l 32).2.1), .string ⟨#[32]⟩] w fun e w' => e = .returned (.tuple #[.string (bs (cut1 (cut1 l 32).2.1 32).1), .string (bs (cut1 (cut1 l 32).2.1 32).2.1), .bool (cut1 (cut1 l 32).2.1 32).2.2]) ∧ Below w.heap.size w w') := fun w => cut_any _ 32 (by omega) w
  have H3 : Hid (∀ w' : World, Below w.heap.size w w' → Calls Tryd.prog 29 #[.string (bs (cut1 l 32).1)] w' fun e w'' => e = .returned (.agg #[.int .i64 (idP (cut1 l 32).1).1, .int .i64 (idP (cut1 l 32).1).2]) ∧ Below w'.heap.size w' w'') := fun w' hb => readID_any _ (by omega) w' (he.below hb)
  have hle3 := cut1_le (cut1 (cut1 l 32).2.1 32).2.1 32
  have H4 : Hid (∀ w : World, Calls Tryd.prog 28 #[.string (bs (cut1 (cut1 l 32).2.1 32).2.1), .string ⟨#[32]⟩] w fun e w' => e = .returned (.tuple #[.string (bs (cut1 (cut1 (cut1 l 32).2.1 32).2.1 32).1), .string (bs (cut1 (cut1 (cut1 l 32).2.1 32).2.1 32).2.1), .bool (cut1 (cut1 (cut1 l 32).2.1 32).2.1 32).2.2]) ∧ Below w.heap.size w w') := fun w => cut_any _ 32 (by omega) w
  have H5 : Hid (∀ w' : World, Below w.heap.size w w' → Calls Tryd.prog 30 #[.string (bs (cut1 (cut1 (cut1 l 32).2.1 32).2.1 32).1)] w' fun e w'' => e = .returned (.int .i64 (numP (cut1 (cut1 (cut1 l 32).2.1 32).2.1 32).1)) ∧ Below w'.heap.size w' w'') := fun w' hb => readNumber_any _ (by omega) w' (he.below hb)
  have H6 : Hid (∀ w' : World, Below w.heap.size w w' → Calls Tryd.prog 31 #[.string (bs (cut1 (cut1 (cut1 l 32).2.1 32).2.1 32).2.1)] w' fun e w'' => e = .returned (.tuple #[.string (bs (unqL (cut1 (cut1 (cut1 l 32).2.1 32).2.1 32).2.1).1), .int .i64 (unqL (cut1 (cut1 (cut1 l 32).2.1 32).2.1 32).2.1).2.1, .int .i64 (unqL (cut1 (cut1 (cut1 l 32).2.1 32).2.1 32).2.1).2.2]) ∧ Below w'.heap.size w' w'') := fun w' hb => by
    have := unquote_any (bs (cut1 (cut1 (cut1 l 32).2.1 32).2.1 32).2.1) (by rw [bs_size]; omega) w' (hd.below hb) (he.below hb)
    rw [bs_list] at this
    exact this
  generalize hwd : (cut1 (cut1 l 32).2.1 32).1 = wd at *
  have hlist : (bs wd).toList = insW := (list_of wd).trans h0
  have t1 : ((bs wd).toList == [105, 110, 115]) = true := by rw [hlist]; rfl
  rw [HR.out]
  clear hle hle2 he hl HR h0 hlist hwd hle3 hd
  generalize (idP (cut1 l 32).1).1 = c at *
  generalize (idP (cut1 l 32).1).2 = n at *
  generalize bs wd = W0 at *
  generalize numP (cut1 (cut1 (cut1 l 32).2.1 32).2.1 32).1 = p at *
  generalize bs (unqL (cut1 (cut1 (cut1 l 32).2.1 32).2.1 32).2.1).1 = s at *
  generalize (unqL (cut1 (cut1 (cut1 l 32).2.1 32).2.1 32).2.1).2.1 = q1 at *
  generalize (unqL (cut1 (cut1 (cut1 l 32).2.1 32).2.1 32).2.1).2.2 = q2 at *
  generalize bs (cut1 (cut1 (cut1 l 32).2.1 32).2.1 32).1 = q3 at *
  generalize bs (cut1 (cut1 (cut1 l 32).2.1 32).2.1 32).2.1 = q4 at *
  generalize (cut1 (cut1 (cut1 l 32).2.1 32).2.1 32).2.2 = q5 at *
  generalize bs (cut1 (cut1 l 32).2.1 32).2.1 = rs at *
  generalize (cut1 (cut1 l 32).2.1 32).2.2 = z1 at *
  generalize bs (cut1 l 32).1 = p1 at *
  generalize bs (cut1 l 32).2.1 = p2 at *
  generalize (cut1 l 32).2.2 = z2 at *
  generalize bs l = S at *
  simp only [opVal]
  have hw2 := (Below.refl w.heap.size w).alloc (Nat.le_refl _) (Obj.cells #[.int .i64 0, .int .i64 0, .int .i64 0, .int .i64 0, .string ⟨#[]⟩, .slice none 0 0, .int .i64 0, .int .i64 0, .bool false] 38)
  go_enter Tryd.func21, Tryd.ntmps21
  go_wp2_with fail
  refine (H1.out _).mono ?_
  rintro e w1 ⟨rfl, hb1⟩
  have hB1 := hw2.trans (hb1.mono hw2.size)
  have x1 := (hb1.block w.heap.size (by simp)).trans (alloc_last _ _ _ rfl)
  clear hw2 hb1
  go_wp2_with fail
  refine (H2.out _).mono ?_
  rintro e w2 ⟨rfl, hb2⟩
  have hB2 := hB1.trans (hb2.mono hB1.size)
  have x2 := (hb2.block _ (Array.getElem?_eq_some_iff.1 x1).1).trans x1
  clear hB1 hb2 x1
  go_wp2_with fail
  refine (H3.out _ hB2).mono ?_
  rintro e w3 ⟨rfl, hb3⟩
  have hB3 := hB2.trans (hb3.mono hB2.size)
  have x3 := (hb3.block _ (Array.getElem?_eq_some_iff.1 x2).1).trans x2
  clear hB2 hb3 x2
  have d0 : w3.cell? ⟨w.heap.size, 0, none⟩ = some (.int .i64 0) := by rw [Lib.cell_of_heap x3]; rfl
  have z10 : w3.frozen? ⟨w.heap.size, 0, none⟩ = false := Lib.frozen_of_heap x3 0
  have d1 : w3.cell? ⟨w.heap.size, 1, none⟩ = some (.int .i64 0) := by rw [Lib.cell_of_heap x3]; rfl
  have z11 : w3.frozen? ⟨w.heap.size, 1, none⟩ = false := Lib.frozen_of_heap x3 1
  have d2 : w3.cell? ⟨w.heap.size, 2, none⟩ = some (.int .i64 0) := by rw [Lib.cell_of_heap x3]; rfl
  have z12 : w3.frozen? ⟨w.heap.size, 2, none⟩ = false := Lib.frozen_of_heap x3 2
  have d3 : w3.cell? ⟨w.heap.size, 3, none⟩ = some (.int .i64 0) := by rw [Lib.cell_of_heap x3]; rfl
  have z13 : w3.frozen? ⟨w.heap.size, 3, none⟩ = false := Lib.frozen_of_heap x3 3
  have d4 : w3.cell? ⟨w.heap.size, 4, none⟩ = some (.string ⟨#[]⟩) := by rw [Lib.cell_of_heap x3]; rfl
  have z14 : w3.frozen? ⟨w.heap.size, 4, none⟩ = false := Lib.frozen_of_heap x3 4
  have d5 : w3.cell? ⟨w.heap.size, 5, none⟩ = some (.slice none 0 0) := by rw [Lib.cell_of_heap x3]; rfl
  have z15 : w3.frozen? ⟨w.heap.size, 5, none⟩ = false := Lib.frozen_of_heap x3 5
  have d6 : w3.cell? ⟨w.heap.size, 6, none⟩ = some (.int .i64 0) := by rw [Lib.cell_of_heap x3]; rfl
  have z16 : w3.frozen? ⟨w.heap.size, 6, none⟩ = false := Lib.frozen_of_heap x3 6
  have d7 : w3.cell? ⟨w.heap.size, 7, none⟩ = some (.int .i64 0) := by rw [Lib.cell_of_heap x3]; rfl
  have z17 : w3.frozen? ⟨w.heap.size, 7, none⟩ = false := Lib.frozen_of_heap x3 7
  have d8 : w3.cell? ⟨w.heap.size, 8, none⟩ = some (.bool false) := by rw [Lib.cell_of_heap x3]; rfl
  have z18 : w3.frozen? ⟨w.heap.size, 8, none⟩ = false := Lib.frozen_of_heap x3 8
  go_wp2_with fail
  have sB0 := hB3.setCell (p := ⟨w.heap.size, 0, none⟩) (Nat.le_refl _) (.int .i64 c)
  have sx0 : (w3.setCell ⟨w.heap.size, 0, none⟩ (.int .i64 c)).heap[w.heap.size]? = some (.cells #[.int .i64 c, .int .i64 0, .int .i64 0, .int .i64 0, .string ⟨#[]⟩, .slice none 0 0, .int .i64 0, .int .i64 0, .bool false] 38) := (heap_setCell_same _ w.heap.size 0 _ _ _ x3).trans (by simp)
  have sB1 := sB0.setCell (p := ⟨w.heap.size, 1, none⟩) (Nat.le_refl _) (.int .i64 n)
  have sx1 : ((w3.setCell ⟨w.heap.size, 0, none⟩ (.int .i64 c)).setCell ⟨w.heap.size, 1, none⟩ (.int .i64 n)).heap[w.heap.size]? = some (.cells #[.int .i64 c, .int .i64 n, .int .i64 0, .int .i64 0, .string ⟨#[]⟩, .slice none 0 0, .int .i64 0, .int .i64 0, .bool false] 38) := (heap_setCell_same _ w.heap.size 1 _ _ _ sx0).trans (by simp)
  refine (H4.out _).mono ?_
  rintro e w4 ⟨rfl, hb4⟩
  have hB4 := sB1.trans (hb4.mono sB1.size)
  have x4 := (hb4.block _ (Array.getElem?_eq_some_iff.1 sx1).1).trans sx1
  clear sx1 sx0 sB1 sB0 d0 d1 d2 d3 d4 d5 d6 d7 d8 z10 z11 z12 z13 z14 z15 z16 z17 z18  hb4 x3 hB3
  have d0 : w4.cell? ⟨w.heap.size, 0, none⟩ = some (.int .i64 c) := by rw [Lib.cell_of_heap x4]; rfl
  have z10 : w4.frozen? ⟨w.heap.size, 0, none⟩ = false := Lib.frozen_of_heap x4 0
  have d1 : w4.cell? ⟨w.heap.size, 1, none⟩ = some (.int .i64 n) := by rw [Lib.cell_of_heap x4]; rfl
  have z11 : w4.frozen? ⟨w.heap.size, 1, none⟩ = false := Lib.frozen_of_heap x4 1
  have d2 : w4.cell? ⟨w.heap.size, 2, none⟩ = some (.int .i64 0) := by rw [Lib.cell_of_heap x4]; rfl
  have z12 : w4.frozen? ⟨w.heap.size, 2, none⟩ = false := Lib.frozen_of_heap x4 2
  have d3 : w4.cell? ⟨w.heap.size, 3, none⟩ = some (.int .i64 0) := by rw [Lib.cell_of_heap x4]; rfl
  have z13 : w4.frozen? ⟨w.heap.size, 3, none⟩ = false := Lib.frozen_of_heap x4 3
  have d4 : w4.cell? ⟨w.heap.size, 4, none⟩ = some (.string ⟨#[]⟩) := by rw [Lib.cell_of_heap x4]; rfl
  have z14 : w4.frozen? ⟨w.heap.size, 4, none⟩ = false := Lib.frozen_of_heap x4 4
  have d5 : w4.cell? ⟨w.heap.size, 5, none⟩ = some (.slice none 0 0) := by rw [Lib.cell_of_heap x4]; rfl
  have z15 : w4.frozen? ⟨w.heap.size, 5, none⟩ = false := Lib.frozen_of_heap x4 5
  have d6 : w4.cell? ⟨w.heap.size, 6, none⟩ = some (.int .i64 0) := by rw [Lib.cell_of_heap x4]; rfl
  have z16 : w4.frozen? ⟨w.heap.size, 6, none⟩ = false := Lib.frozen_of_heap x4 6
  have d7 : w4.cell? ⟨w.heap.size, 7, none⟩ = some (.int .i64 0) := by rw [Lib.cell_of_heap x4]; rfl
  have z17 : w4.frozen? ⟨w.heap.size, 7, none⟩ = false := Lib.frozen_of_heap x4 7
  have d8 : w4.cell? ⟨w.heap.size, 8, none⟩ = some (.bool false) := by rw [Lib.cell_of_heap x4]; rfl
  have z18 : w4.frozen? ⟨w.heap.size, 8, none⟩ = false := Lib.frozen_of_heap x4 8
  go_wp2_with fail
  refine (H5.out _ hB4).mono ?_
  rintro e w5 ⟨rfl, hb5⟩
  have hB5 := hB4.trans (hb5.mono hB4.size)
  have x5 := (hb5.block _ (Array.getElem?_eq_some_iff.1 x4).1).trans x4
  clear   d0 d1 d2 d3 d4 d5 d6 d7 d8 z10 z11 z12 z13 z14 z15 z16 z17 z18  hb5 x4 hB4
  have d0 : w5.cell? ⟨w.heap.size, 0, none⟩ = some (.int .i64 c) := by rw [Lib.cell_of_heap x5]; rfl
  have z10 : w5.frozen? ⟨w.heap.size, 0, none⟩ = false := Lib.frozen_of_heap x5 0
  have d1 : w5.cell? ⟨w.heap.size, 1, none⟩ = some (.int .i64 n) := by rw [Lib.cell_of_heap x5]; rfl
  have z11 : w5.frozen? ⟨w.heap.size, 1, none⟩ = false := Lib.frozen_of_heap x5 1
  have d2 : w5.cell? ⟨w.heap.size, 2, none⟩ = some (.int .i64 0) := by rw [Lib.cell_of_heap x5]; rfl
  have z12 : w5.frozen? ⟨w.heap.size, 2, none⟩ = false := Lib.frozen_of_heap x5 2
  have d3 : w5.cell? ⟨w.heap.size, 3, none⟩ = some (.int .i64 0) := by rw [Lib.cell_of_heap x5]; rfl
  have z13 : w5.frozen? ⟨w.heap.size, 3, none⟩ = false := Lib.frozen_of_heap x5 3
  have d4 : w5.cell? ⟨w.heap.size, 4, none⟩ = some (.string ⟨#[]⟩) := by rw [Lib.cell_of_heap x5]; rfl
  have z14 : w5.frozen? ⟨w.heap.size, 4, none⟩ = false := Lib.frozen_of_heap x5 4
  have d5 : w5.cell? ⟨w.heap.size, 5, none⟩ = some (.slice none 0 0) := by rw [Lib.cell_of_heap x5]; rfl
  have z15 : w5.frozen? ⟨w.heap.size, 5, none⟩ = false := Lib.frozen_of_heap x5 5
  have d6 : w5.cell? ⟨w.heap.size, 6, none⟩ = some (.int .i64 0) := by rw [Lib.cell_of_heap x5]; rfl
  have z16 : w5.frozen? ⟨w.heap.size, 6, none⟩ = false := Lib.frozen_of_heap x5 6
  have d7 : w5.cell? ⟨w.heap.size, 7, none⟩ = some (.int .i64 0) := by rw [Lib.cell_of_heap x5]; rfl
  have z17 : w5.frozen? ⟨w.heap.size, 7, none⟩ = false := Lib.frozen_of_heap x5 7
  have d8 : w5.cell? ⟨w.heap.size, 8, none⟩ = some (.bool false) := by rw [Lib.cell_of_heap x5]; rfl
  have z18 : w5.frozen? ⟨w.heap.size, 8, none⟩ = false := Lib.frozen_of_heap x5 8
  go_wp2_with fail
  have sB0 := hB5.setCell (p := ⟨w.heap.size, 2, none⟩) (Nat.le_refl _) (.int .i64 1)
  have sx0 : (w5.setCell ⟨w.heap.size, 2, none⟩ (.int .i64 1)).heap[w.heap.size]? = some (.cells #[.int .i64 c, .int .i64 n, .int .i64 1, .int .i64 0, .string ⟨#[]⟩, .slice none 0 0, .int .i64 0, .int .i64 0, .bool false] 38) := (heap_setCell_same _ w.heap.size 2 _ _ _ x5).trans (by simp)
  have sB1 := sB0.setCell (p := ⟨w.heap.size, 3, none⟩) (Nat.le_refl _) (.int .i64 p)
  have sx1 : ((w5.setCell ⟨w.heap.size, 2, none⟩ (.int .i64 1)).setCell ⟨w.heap.size, 3, none⟩ (.int .i64 p)).heap[w.heap.size]? = some (.cells #[.int .i64 c, .int .i64 n, .int .i64 1, .int .i64 p, .string ⟨#[]⟩, .slice none 0 0, .int .i64 0, .int .i64 0, .bool false] 38) := (heap_setCell_same _ w.heap.size 3 _ _ _ sx0).trans (by simp)
  refine (H6.out _ sB1).mono ?_
  rintro e w6 ⟨rfl, hb6⟩
  have hB6 := sB1.trans (hb6.mono sB1.size)
  have x6 := (hb6.block _ (Array.getElem?_eq_some_iff.1 sx1).1).trans sx1
  clear sx1 sx0 sB1 sB0 d0 d1 d2 d3 d4 d5 d6 d7 d8 z10 z11 z12 z13 z14 z15 z16 z17 z18  hb6 x5 hB5
  have d0 : w6.cell? ⟨w.heap.size, 0, none⟩ = some (.int .i64 c) := by rw [Lib.cell_of_heap x6]; rfl
  have z10 : w6.frozen? ⟨w.heap.size, 0, none⟩ = false := Lib.frozen_of_heap x6 0
  have d1 : w6.cell? ⟨w.heap.size, 1, none⟩ = some (.int .i64 n) := by rw [Lib.cell_of_heap x6]; rfl
  have z11 : w6.frozen? ⟨w.heap.size, 1, none⟩ = false := Lib.frozen_of_heap x6 1
  have d2 : w6.cell? ⟨w.heap.size, 2, none⟩ = some (.int .i64 1) := by rw [Lib.cell_of_heap x6]; rfl
  have z12 : w6.frozen? ⟨w.heap.size, 2, none⟩ = false := Lib.frozen_of_heap x6 2
  have d3 : w6.cell? ⟨w.heap.size, 3, none⟩ = some (.int .i64 p) := by rw [Lib.cell_of_heap x6]; rfl
  have z13 : w6.frozen? ⟨w.heap.size, 3, none⟩ = false := Lib.frozen_of_heap x6 3
  have d4 : w6.cell? ⟨w.heap.size, 4, none⟩ = some (.string ⟨#[]⟩) := by rw [Lib.cell_of_heap x6]; rfl
  have z14 : w6.frozen? ⟨w.heap.size, 4, none⟩ = false := Lib.frozen_of_heap x6 4
  have d5 : w6.cell? ⟨w.heap.size, 5, none⟩ = some (.slice none 0 0) := by rw [Lib.cell_of_heap x6]; rfl
  have z15 : w6.frozen? ⟨w.heap.size, 5, none⟩ = false := Lib.frozen_of_heap x6 5
  have d6 : w6.cell? ⟨w.heap.size, 6, none⟩ = some (.int .i64 0) := by rw [Lib.cell_of_heap x6]; rfl
  have z16 : w6.frozen? ⟨w.heap.size, 6, none⟩ = false := Lib.frozen_of_heap x6 6
  have d7 : w6.cell? ⟨w.heap.size, 7, none⟩ = some (.int .i64 0) := by rw [Lib.cell_of_heap x6]; rfl
  have z17 : w6.frozen? ⟨w.heap.size, 7, none⟩ = false := Lib.frozen_of_heap x6 7
  have d8 : w6.cell? ⟨w.heap.size, 8, none⟩ = some (.bool false) := by rw [Lib.cell_of_heap x6]; rfl
  have z18 : w6.frozen? ⟨w.heap.size, 8, none⟩ = false := Lib.frozen_of_heap x6 8
  have sB0 := hB6.setCell (p := ⟨w.heap.size, 4, none⟩) (Nat.le_refl _) (.string s)
  have sx0 : (w6.setCell ⟨w.heap.size, 4, none⟩ (.string s)).heap[w.heap.size]? = some (.cells #[.int .i64 c, .int .i64 n, .int .i64 1, .int .i64 p, .string s, .slice none 0 0, .int .i64 0, .int .i64 0, .bool false] 38) := (heap_setCell_same _ w.heap.size 4 _ _ _ x6).trans (by simp)
  have hx9 := set9 sx0
  have hq0 := sB0.setCell (p := ⟨w.heap.size, 0, none⟩) (Nat.le_refl _) (.int .i64 c)
  have hq1 := hq0.setCell (p := ⟨w.heap.size, 1, none⟩) (Nat.le_refl _) (.int .i64 n)
  have hq2 := hq1.setCell (p := ⟨w.heap.size, 2, none⟩) (Nat.le_refl _) (.int .i64 1)
  have hq3 := hq2.setCell (p := ⟨w.heap.size, 3, none⟩) (Nat.le_refl _) (.int .i64 p)
  have hq4 := hq3.setCell (p := ⟨w.heap.size, 4, none⟩) (Nat.le_refl _) (.string s)
  have hq5 := hq4.setCell (p := ⟨w.heap.size, 5, none⟩) (Nat.le_refl _) (.slice none 0 0)
  have hq6 := hq5.setCell (p := ⟨w.heap.size, 6, none⟩) (Nat.le_refl _) (.int .i64 0)
  have hq7 := hq6.setCell (p := ⟨w.heap.size, 7, none⟩) (Nat.le_refl _) (.int .i64 0)
  have hq8 := hq7.setCell (p := ⟨w.heap.size, 8, none⟩) (Nat.le_refl _) (.bool false)
  obtain ⟨w9, hw9⟩ : ∃ w9, ((((((((((w6.setCell ⟨w.heap.size, 4, none⟩ (.string s)).setCell ⟨w.heap.size, 0, none⟩ (.int .i64 c)).setCell ⟨w.heap.size, 1, none⟩ (.int .i64 n)).setCell ⟨w.heap.size, 2, none⟩ (.int .i64 1)).setCell ⟨w.heap.size, 3, none⟩ (.int .i64 p)).setCell ⟨w.heap.size, 4, none⟩ (.string s)).setCell ⟨w.heap.size, 5, none⟩ (.slice none 0 0)).setCell ⟨w.heap.size, 6, none⟩ (.int .i64 0)).setCell ⟨w.heap.size, 7, none⟩ (.int .i64 0)).setCell ⟨w.heap.size, 8, none⟩ (.bool false)) = w9 := ⟨_, rfl⟩
  rw [hw9] at hx9 hq8
  have r0 : w9.cell? ⟨w.heap.size, 0, none⟩ = some (.int .i64 c) := by rw [Lib.cell_of_heap hx9]; rfl
  have r1 : w9.cell? ⟨w.heap.size, 1, none⟩ = some (.int .i64 n) := by rw [Lib.cell_of_heap hx9]; rfl
  have r2 : w9.cell? ⟨w.heap.size, 2, none⟩ = some (.int .i64 1) := by rw [Lib.cell_of_heap hx9]; rfl
  have r3 : w9.cell? ⟨w.heap.size, 3, none⟩ = some (.int .i64 p) := by rw [Lib.cell_of_heap hx9]; rfl
  have r4 : w9.cell? ⟨w.heap.size, 4, none⟩ = some (.string s) := by rw [Lib.cell_of_heap hx9]; rfl
  have r5 : w9.cell? ⟨w.heap.size, 5, none⟩ = some (.slice none 0 0) := by rw [Lib.cell_of_heap hx9]; rfl
  have r6 : w9.cell? ⟨w.heap.size, 6, none⟩ = some (.int .i64 0) := by rw [Lib.cell_of_heap hx9]; rfl
  have r7 : w9.cell? ⟨w.heap.size, 7, none⟩ = some (.int .i64 0) := by rw [Lib.cell_of_heap hx9]; rfl
  have r8 : w9.cell? ⟨w.heap.size, 8, none⟩ = some (.bool false) := by rw [Lib.cell_of_heap hx9]; rfl
  clear hq7 hq6 hq5 hq4 hq3 hq2 hq1 hq0 sx0 sB0
  go_wp2_with fail
  try rw [hw9]
  refine bodyPost_ret (v := .agg #[.int .i64 c, .int .i64 n, .int .i64 1, .int .i64 p, .string s, .slice none 0 0, .int .i64 0, .int .i64 0, .bool false]) (by simp [results, Tryd.results21, go_sem, r0, r1, r2, r3, r4, r5, r6, r7, r8]) rfl ⟨none, 0, 0, rfl, rng_nil _, ownF_nil _ _, hq8⟩
set_option maxHeartbeats 2000000 in
theorem readLine_hide (l : List UInt8) (hl : l.length ≤ 4294967296) (w : World) (he : Errs w) (h0 : (cut1 (cut1 l 32).2.1 32).1 = hideW) :
    Calls Tryd.prog 21 #[.string (bs l)] w fun e w' => ∃ a m cap, e = .returned (opVal (readP l) (.slice a m cap)) ∧ Rng w' a m cap (readP l).l ∧ OwnF rangeV 2 60 w' w.heap.size (.slice a m cap) (readP l).l ∧ Below w.heap.size w w' := by
  have HR : Hid (readP l = ⟨(idP (cut1 l 32).1).1, (idP (cut1 l 32).1).2, 2, 0, ⟨#[]⟩, rngsP 32769 (cut1 (cut1 l 32).2.1 32).2.1, 0, 0, false⟩) := by
    show _ = _
    unfold readP readW
    rw [h0]
    rw [if_neg (by decide), if_pos rfl]
  have hle := cut1_le l 32
  have hle2 := cut1_le (cut1 l 32).2.1 32
  have H1 : Hid (∀ w : World, Calls Tryd.prog 28 #[.string (bs l), .string ⟨#[32]⟩] w fun e w' => e = .returned (.tuple #[.string (bs (cut1 l 32).1), .string (bs (cut1 l 32).2.1), .bool (cut1 l 32).2.2]) ∧ Below w.heap.size w w') := fun w => cut_any l 32 hl w
  have H2 : Hid (∀ w : World, Calls Tryd.prog 28 #[.string (bs (cut1 l 32).2.1), .string ⟨#[32]⟩] w fun e w' => e = .returned (.tuple #[.string (bs (cut1 (cut1 l 32).2.1 32).1), .string (bs (cut1 (cut1 l 32).2.1 32).2.1), .bool (cut1 (cut1 l 32).2.1 32).2.2]) ∧ Below w.heap.size w w') := fun w => cut_any _ 32 (by omega) w
  have H3 : Hid (∀ w' : World, Below w.heap.size w w' → Calls Tryd.prog 29 #[.string (bs (cut1 l 32).1)] w' fun e w'' => e = .returned (.agg #[.int .i64 (idP (cut1 l 32).1).1, .int .i64 (idP (cut1 l 32).1).2]) ∧ Below w'.heap.size w' w'') := fun w' hb => readID_any _ (by omega) w' (he.below hb)
  have H4 : Hid (∀ w' : World, Below w.heap.size w w' → Calls Tryd.prog 32 #[.string (bs (cut1 (cut1 l 32).2.1 32).2.1)] w' fun e w'' => ∃ a m cap, e = .returned (.slice a m cap) ∧ Rng w'' a m cap (rngsP 32769 (cut1 (cut1 l 32).2.1 32).2.1) ∧ OwnF rangeV 2 60 w'' w'.heap.size (.slice a m cap) (rngsP 32769 (cut1 (cut1 l 32).2.1 32).2.1) ∧ Below w'.heap.size w' w'') := fun w' hb => readRanges_any _ (by omega) w' (he.below hb)
  generalize hwd : (cut1 (cut1 l 32).2.1 32).1 = wd at *
  have hlist : (bs wd).toList = hideW := (list_of wd).trans h0
  have t1 : ((bs wd).toList == [105, 110, 115]) = false := by rw [hlist]; rfl
  have t2 : ((bs wd).toList == [104, 105, 100, 101]) = true := by rw [hlist]; rfl
  rw [HR.out]
  clear hle hle2 he hl HR h0 hlist hwd
  generalize (idP (cut1 l 32).1).1 = c at *
  generalize (idP (cut1 l 32).1).2 = n at *
  generalize bs wd = W0 at *
  generalize rngsP 32769 (cut1 (cut1 l 32).2.1 32).2.1 = R at *
  generalize bs (cut1 (cut1 l 32).2.1 32).2.1 = rs at *
  generalize (cut1 (cut1 l 32).2.1 32).2.2 = z1 at *
  generalize bs (cut1 l 32).1 = p1 at *
  generalize bs (cut1 l 32).2.1 = p2 at *
  generalize (cut1 l 32).2.2 = z2 at *
  generalize bs l = S at *
  simp only [opVal]
  have hw2 := (Below.refl w.heap.size w).alloc (Nat.le_refl _) (Obj.cells #[.int .i64 0, .int .i64 0, .int .i64 0, .int .i64 0, .string ⟨#[]⟩, .slice none 0 0, .int .i64 0, .int .i64 0, .bool false] 38)
  go_enter Tryd.func21, Tryd.ntmps21
  go_wp2_with fail
  refine (H1.out _).mono ?_
  rintro e w1 ⟨rfl, hb1⟩
  have hB1 := hw2.trans (hb1.mono hw2.size)
  have x1 := (hb1.block w.heap.size (by simp)).trans (alloc_last _ _ _ rfl)
  clear hw2 hb1
  go_wp2_with fail
  refine (H2.out _).mono ?_
  rintro e w2 ⟨rfl, hb2⟩
  have hB2 := hB1.trans (hb2.mono hB1.size)
  have x2 := (hb2.block _ (Array.getElem?_eq_some_iff.1 x1).1).trans x1
  clear hB1 hb2 x1
  go_wp2_with fail
  refine (H3.out _ hB2).mono ?_
  rintro e w3 ⟨rfl, hb3⟩
  have hB3 := hB2.trans (hb3.mono hB2.size)
  have x3 := (hb3.block _ (Array.getElem?_eq_some_iff.1 x2).1).trans x2
  clear hB2 hb3 x2
  have d0 : w3.cell? ⟨w.heap.size, 0, none⟩ = some (.int .i64 0) := by rw [Lib.cell_of_heap x3]; rfl
  have z10 : w3.frozen? ⟨w.heap.size, 0, none⟩ = false := Lib.frozen_of_heap x3 0
  have d1 : w3.cell? ⟨w.heap.size, 1, none⟩ = some (.int .i64 0) := by rw [Lib.cell_of_heap x3]; rfl
  have z11 : w3.frozen? ⟨w.heap.size, 1, none⟩ = false := Lib.frozen_of_heap x3 1
  have d2 : w3.cell? ⟨w.heap.size, 2, none⟩ = some (.int .i64 0) := by rw [Lib.cell_of_heap x3]; rfl
  have z12 : w3.frozen? ⟨w.heap.size, 2, none⟩ = false := Lib.frozen_of_heap x3 2
  have d3 : w3.cell? ⟨w.heap.size, 3, none⟩ = some (.int .i64 0) := by rw [Lib.cell_of_heap x3]; rfl
  have z13 : w3.frozen? ⟨w.heap.size, 3, none⟩ = false := Lib.frozen_of_heap x3 3
  have d4 : w3.cell? ⟨w.heap.size, 4, none⟩ = some (.string ⟨#[]⟩) := by rw [Lib.cell_of_heap x3]; rfl
  have z14 : w3.frozen? ⟨w.heap.size, 4, none⟩ = false := Lib.frozen_of_heap x3 4
  have d5 : w3.cell? ⟨w.heap.size, 5, none⟩ = some (.slice none 0 0) := by rw [Lib.cell_of_heap x3]; rfl
  have z15 : w3.frozen? ⟨w.heap.size, 5, none⟩ = false := Lib.frozen_of_heap x3 5
  have d6 : w3.cell? ⟨w.heap.size, 6, none⟩ = some (.int .i64 0) := by rw [Lib.cell_of_heap x3]; rfl
  have z16 : w3.frozen? ⟨w.heap.size, 6, none⟩ = false := Lib.frozen_of_heap x3 6
  have d7 : w3.cell? ⟨w.heap.size, 7, none⟩ = some (.int .i64 0) := by rw [Lib.cell_of_heap x3]; rfl
  have z17 : w3.frozen? ⟨w.heap.size, 7, none⟩ = false := Lib.frozen_of_heap x3 7
  have d8 : w3.cell? ⟨w.heap.size, 8, none⟩ = some (.bool false) := by rw [Lib.cell_of_heap x3]; rfl
  have z18 : w3.frozen? ⟨w.heap.size, 8, none⟩ = false := Lib.frozen_of_heap x3 8
  go_wp2_with fail
  have sB0 := hB3.setCell (p := ⟨w.heap.size, 0, none⟩) (Nat.le_refl _) (.int .i64 c)
  have sx0 : (w3.setCell ⟨w.heap.size, 0, none⟩ (.int .i64 c)).heap[w.heap.size]? = some (.cells #[.int .i64 c, .int .i64 0, .int .i64 0, .int .i64 0, .string ⟨#[]⟩, .slice none 0 0, .int .i64 0, .int .i64 0, .bool false] 38) := (heap_setCell_same _ w.heap.size 0 _ _ _ x3).trans (by simp)
  have sB1 := sB0.setCell (p := ⟨w.heap.size, 1, none⟩) (Nat.le_refl _) (.int .i64 n)
  have sx1 : ((w3.setCell ⟨w.heap.size, 0, none⟩ (.int .i64 c)).setCell ⟨w.heap.size, 1, none⟩ (.int .i64 n)).heap[w.heap.size]? = some (.cells #[.int .i64 c, .int .i64 n, .int .i64 0, .int .i64 0, .string ⟨#[]⟩, .slice none 0 0, .int .i64 0, .int .i64 0, .bool false] 38) := (heap_setCell_same _ w.heap.size 1 _ _ _ sx0).trans (by simp)
  refine (H4.out _ sB1).mono ?_
  rintro e w4 ⟨a, m, cap, rfl, hR, hAt, hb4⟩
  have hRb : Hid (∀ g off, a = some ⟨g, off, none⟩ → 0 < m → g ≠ w.heap.size) := fun g off ha _ => by have h1 := ownF_at hAt g off ha; have h2 := (Array.getElem?_eq_some_iff.1 sx1).1; omega
  have HAt : Hid (∃ BB, w.heap.size < BB ∧ OwnF rangeV 2 60 w4 BB (.slice a m cap) R) := ⟨_, (Array.getElem?_eq_some_iff.1 sx1).1, hAt⟩
  clear hAt
  have hB4 := sB1.trans (hb4.mono sB1.size)
  have x4 := (hb4.block _ (Array.getElem?_eq_some_iff.1 sx1).1).trans sx1
  clear sx1 sx0 sB1 sB0 d0 d1 d2 d3 d4 d5 d6 d7 d8 z10 z11 z12 z13 z14 z15 z16 z17 z18  hb4 x3 hB3
  have d0 : w4.cell? ⟨w.heap.size, 0, none⟩ = some (.int .i64 c) := by rw [Lib.cell_of_heap x4]; rfl
  have z10 : w4.frozen? ⟨w.heap.size, 0, none⟩ = false := Lib.frozen_of_heap x4 0
  have d1 : w4.cell? ⟨w.heap.size, 1, none⟩ = some (.int .i64 n) := by rw [Lib.cell_of_heap x4]; rfl
  have z11 : w4.frozen? ⟨w.heap.size, 1, none⟩ = false := Lib.frozen_of_heap x4 1
  have d2 : w4.cell? ⟨w.heap.size, 2, none⟩ = some (.int .i64 0) := by rw [Lib.cell_of_heap x4]; rfl
  have z12 : w4.frozen? ⟨w.heap.size, 2, none⟩ = false := Lib.frozen_of_heap x4 2
  have d3 : w4.cell? ⟨w.heap.size, 3, none⟩ = some (.int .i64 0) := by rw [Lib.cell_of_heap x4]; rfl
  have z13 : w4.frozen? ⟨w.heap.size, 3, none⟩ = false := Lib.frozen_of_heap x4 3
  have d4 : w4.cell? ⟨w.heap.size, 4, none⟩ = some (.string ⟨#[]⟩) := by rw [Lib.cell_of_heap x4]; rfl
  have z14 : w4.frozen? ⟨w.heap.size, 4, none⟩ = false := Lib.frozen_of_heap x4 4
  have d5 : w4.cell? ⟨w.heap.size, 5, none⟩ = some (.slice none 0 0) := by rw [Lib.cell_of_heap x4]; rfl
  have z15 : w4.frozen? ⟨w.heap.size, 5, none⟩ = false := Lib.frozen_of_heap x4 5
  have d6 : w4.cell? ⟨w.heap.size, 6, none⟩ = some (.int .i64 0) := by rw [Lib.cell_of_heap x4]; rfl
  have z16 : w4.frozen? ⟨w.heap.size, 6, none⟩ = false := Lib.frozen_of_heap x4 6
  have d7 : w4.cell? ⟨w.heap.size, 7, none⟩ = some (.int .i64 0) := by rw [Lib.cell_of_heap x4]; rfl
  have z17 : w4.frozen? ⟨w.heap.size, 7, none⟩ = false := Lib.frozen_of_heap x4 7
  have d8 : w4.cell? ⟨w.heap.size, 8, none⟩ = some (.bool false) := by rw [Lib.cell_of_heap x4]; rfl
  have z18 : w4.frozen? ⟨w.heap.size, 8, none⟩ = false := Lib.frozen_of_heap x4 8
  have hRW := hR
  have sB0 := hB4.setCell (p := ⟨w.heap.size, 2, none⟩) (Nat.le_refl _) (.int .i64 2)
  have sx0 : (w4.setCell ⟨w.heap.size, 2, none⟩ (.int .i64 2)).heap[w.heap.size]? = some (.cells #[.int .i64 c, .int .i64 n, .int .i64 2, .int .i64 0, .string ⟨#[]⟩, .slice none 0 0, .int .i64 0, .int .i64 0, .bool false] 38) := (heap_setCell_same _ w.heap.size 2 _ _ _ x4).trans (by simp)
  have sB1 := sB0.setCell (p := ⟨w.heap.size, 5, none⟩) (Nat.le_refl _) (.slice a m cap)
  have sx1 : ((w4.setCell ⟨w.heap.size, 2, none⟩ (.int .i64 2)).setCell ⟨w.heap.size, 5, none⟩ (.slice a m cap)).heap[w.heap.size]? = some (.cells #[.int .i64 c, .int .i64 n, .int .i64 2, .int .i64 0, .string ⟨#[]⟩, .slice a m cap, .int .i64 0, .int .i64 0, .bool false] 38) := (heap_setCell_same _ w.heap.size 5 _ _ _ sx0).trans (by simp)
  have hx9 := set9 sx1
  have hq0 := sB1.setCell (p := ⟨w.heap.size, 0, none⟩) (Nat.le_refl _) (.int .i64 c)
  have hq1 := hq0.setCell (p := ⟨w.heap.size, 1, none⟩) (Nat.le_refl _) (.int .i64 n)
  have hq2 := hq1.setCell (p := ⟨w.heap.size, 2, none⟩) (Nat.le_refl _) (.int .i64 2)
  have hq3 := hq2.setCell (p := ⟨w.heap.size, 3, none⟩) (Nat.le_refl _) (.int .i64 0)
  have hq4 := hq3.setCell (p := ⟨w.heap.size, 4, none⟩) (Nat.le_refl _) (.string ⟨#[]⟩)
  have hq5 := hq4.setCell (p := ⟨w.heap.size, 5, none⟩) (Nat.le_refl _) (.slice a m cap)
  have hq6 := hq5.setCell (p := ⟨w.heap.size, 6, none⟩) (Nat.le_refl _) (.int .i64 0)
  have hq7 := hq6.setCell (p := ⟨w.heap.size, 7, none⟩) (Nat.le_refl _) (.int .i64 0)
  have hq8 := hq7.setCell (p := ⟨w.heap.size, 8, none⟩) (Nat.le_refl _) (.bool false)
  obtain ⟨w9, hw9⟩ : ∃ w9, (((((((((((w4.setCell ⟨w.heap.size, 2, none⟩ (.int .i64 2)).setCell ⟨w.heap.size, 5, none⟩ (.slice a m cap)).setCell ⟨w.heap.size, 0, none⟩ (.int .i64 c)).setCell ⟨w.heap.size, 1, none⟩ (.int .i64 n)).setCell ⟨w.heap.size, 2, none⟩ (.int .i64 2)).setCell ⟨w.heap.size, 3, none⟩ (.int .i64 0)).setCell ⟨w.heap.size, 4, none⟩ (.string ⟨#[]⟩)).setCell ⟨w.heap.size, 5, none⟩ (.slice a m cap)).setCell ⟨w.heap.size, 6, none⟩ (.int .i64 0)).setCell ⟨w.heap.size, 7, none⟩ (.int .i64 0)).setCell ⟨w.heap.size, 8, none⟩ (.bool false)) = w9 := ⟨_, rfl⟩
  rw [hw9] at hx9 hq8
  have r0 : w9.cell? ⟨w.heap.size, 0, none⟩ = some (.int .i64 c) := by rw [Lib.cell_of_heap hx9]; rfl
  have r1 : w9.cell? ⟨w.heap.size, 1, none⟩ = some (.int .i64 n) := by rw [Lib.cell_of_heap hx9]; rfl
  have r2 : w9.cell? ⟨w.heap.size, 2, none⟩ = some (.int .i64 2) := by rw [Lib.cell_of_heap hx9]; rfl
  have r3 : w9.cell? ⟨w.heap.size, 3, none⟩ = some (.int .i64 0) := by rw [Lib.cell_of_heap hx9]; rfl
  have r4 : w9.cell? ⟨w.heap.size, 4, none⟩ = some (.string ⟨#[]⟩) := by rw [Lib.cell_of_heap hx9]; rfl
  have r5 : w9.cell? ⟨w.heap.size, 5, none⟩ = some (.slice a m cap) := by rw [Lib.cell_of_heap hx9]; rfl
  have r6 : w9.cell? ⟨w.heap.size, 6, none⟩ = some (.int .i64 0) := by rw [Lib.cell_of_heap hx9]; rfl
  have r7 : w9.cell? ⟨w.heap.size, 7, none⟩ = some (.int .i64 0) := by rw [Lib.cell_of_heap hx9]; rfl
  have r8 : w9.cell? ⟨w.heap.size, 8, none⟩ = some (.bool false) := by rw [Lib.cell_of_heap hx9]; rfl
  have hRg : Rng w9 a m cap R := by
    rw [← hw9]
    refine rng_set ?_ _ _ _ hRb.out
    refine rng_set ?_ _ _ _ hRb.out
    refine rng_set ?_ _ _ _ hRb.out
    refine rng_set ?_ _ _ _ hRb.out
    refine rng_set ?_ _ _ _ hRb.out
    refine rng_set ?_ _ _ _ hRb.out
    refine rng_set ?_ _ _ _ hRb.out
    refine rng_set ?_ _ _ _ hRb.out
    refine rng_set ?_ _ _ _ hRb.out
    refine rng_set ?_ _ _ _ hRb.out
    refine rng_set ?_ _ _ _ hRb.out
    exact hRW
  have HOg : OwnF rangeV 2 60 w9 w.heap.size (.slice a m cap) R := by
    obtain ⟨BB, hlt, ho⟩ := HAt.out
    rw [← hw9]
    refine OwnF.mono ?_ (Nat.le_of_lt hlt)
    refine own_setZ ?_ _ _ _ hlt
    refine own_setZ ?_ _ _ _ hlt
    refine own_setZ ?_ _ _ _ hlt
    refine own_setZ ?_ _ _ _ hlt
    refine own_setZ ?_ _ _ _ hlt
    refine own_setZ ?_ _ _ _ hlt
    refine own_setZ ?_ _ _ _ hlt
    refine own_setZ ?_ _ _ _ hlt
    refine own_setZ ?_ _ _ _ hlt
    refine own_setZ ?_ _ _ _ hlt
    refine own_setZ ?_ _ _ _ hlt
    exact ho
  clear hq7 hq6 hq5 hq4 hq3 hq2 hq1 hq0 sx1 sx0 sB1 sB0
  go_wp2_with fail
  try rw [hw9]
  refine bodyPost_ret (v := .agg #[.int .i64 c, .int .i64 n, .int .i64 2, .int .i64 0, .string ⟨#[]⟩, .slice a m cap, .int .i64 0, .int .i64 0, .bool false]) (by simp [results, Tryd.results21, go_sem, r0, r1, r2, r3, r4, r5, r6, r7, r8]) rfl ⟨a, m, cap, rfl, hRg, HOg, hq8⟩
set_option maxHeartbeats 2000000 in
theorem readLine_show (l : List UInt8) (hl : l.length ≤ 4294967296) (w : World) (he : Errs w) (h0 : (cut1 (cut1 l 32).2.1 32).1 = showW) :
    Calls Tryd.prog 21 #[.string (bs l)] w fun e w' => ∃ a m cap, e = .returned (opVal (readP l) (.slice a m cap)) ∧ Rng w' a m cap (readP l).l ∧ OwnF rangeV 2 60 w' w.heap.size (.slice a m cap) (readP l).l ∧ Below w.heap.size w w' := by
  have HR : Hid (readP l = ⟨(idP (cut1 l 32).1).1, (idP (cut1 l 32).1).2, 3, 0, ⟨#[]⟩, rngsP 32769 (cut1 (cut1 l 32).2.1 32).2.1, 0, 0, false⟩) := by
    show _ = _
    unfold readP readW
    rw [h0]
    rw [if_neg (by decide), if_neg (by decide), if_pos rfl]
  have hle := cut1_le l 32
  have hle2 := cut1_le (cut1 l 32).2.1 32
  have H1 : Hid (∀ w : World, Calls Tryd.prog 28 #[.string (bs l), .string ⟨#[32]⟩] w fun e w' => e = .returned (.tuple #[.string (bs (cut1 l 32).1), .string (bs (cut1 l 32).2.1), .bool (cut1 l 32).2.2]) ∧ Below w.heap.size w w') := fun w => cut_any l 32 hl w
  have H2 : Hid (∀ w : World, Calls Tryd.prog 28 #[.string (bs (cut1 l 32).2.1), .string ⟨#[32]⟩] w fun e w' => e = .returned (.tuple #[.string (bs (cut1 (cut1 l 32).2.1 32).1), .string (bs (cut1 (cut1 l 32).2.1 32).2.1), .bool (cut1 (cut1 l 32).2.1 32).2.2]) ∧ Below w.heap.size w w') := fun w => cut_any _ 32 (by omega) w
  have H3 : Hid (∀ w' : World, Below w.heap.size w w' → Calls Tryd.prog 29 #[.string (bs (cut1 l 32).1)] w' fun e w'' => e = .returned (.agg #[.int .i64 (idP (cut1 l 32).1).1, .int .i64 (idP (cut1 l 32).1).2]) ∧ Below w'.heap.size w' w'') := fun w' hb => readID_any _ (by omega) w' (he.below hb)
  have H4 : Hid (∀ w' : World, Below w.heap.size w w' → Calls Tryd.prog 32 #[.string (bs (cut1 (cut1 l 32).2.1 32).2.1)] w' fun e w'' => ∃ a m cap, e = .returned (.slice a m cap) ∧ Rng w'' a m cap (rngsP 32769 (cut1 (cut1 l 32).2.1 32).2.1) ∧ OwnF rangeV 2 60 w'' w'.heap.size (.slice a m cap) (rngsP 32769 (cut1 (cut1 l 32).2.1 32).2.1) ∧ Below w'.heap.size w' w'') := fun w' hb => readRanges_any _ (by omega) w' (he.below hb)
  generalize hwd : (cut1 (cut1 l 32).2.1 32).1 = wd at *
  have hlist : (bs wd).toList = showW := (list_of wd).trans h0
  have t1 : ((bs wd).toList == [105, 110, 115]) = false := by rw [hlist]; rfl
  have t2 : ((bs wd).toList == [104, 105, 100, 101]) = false := by rw [hlist]; rfl
  have t3 : ((bs wd).toList == [115, 104, 111, 119]) = true := by rw [hlist]; rfl
  rw [HR.out]
  clear hle hle2 he hl HR h0 hlist hwd
  generalize (idP (cut1 l 32).1).1 = c at *
  generalize (idP (cut1 l 32).1).2 = n at *
  generalize bs wd = W0 at *
  generalize rngsP 32769 (cut1 (cut1 l 32).2.1 32).2.1 = R at *
  generalize bs (cut1 (cut1 l 32).2.1 32).2.1 = rs at *
  generalize (cut1 (cut1 l 32).2.1 32).2.2 = z1 at *
  generalize bs (cut1 l 32).1 = p1 at *
  generalize bs (cut1 l 32).2.1 = p2 at *
  generalize (cut1 l 32).2.2 = z2 at *
  generalize bs l = S at *
  simp only [opVal]
  have hw2 := (Below.refl w.heap.size w).alloc (Nat.le_refl _) (Obj.cells #[.int .i64 0, .int .i64 0, .int .i64 0, .int .i64 0, .string ⟨#[]⟩, .slice none 0 0, .int .i64 0, .int .i64 0, .bool false] 38)
  go_enter Tryd.func21, Tryd.ntmps21
  go_wp2_with fail
  refine (H1.out _).mono ?_
  rintro e w1 ⟨rfl, hb1⟩
  have hB1 := hw2.trans (hb1.mono hw2.size)
  have x1 := (hb1.block w.heap.size (by simp)).trans (alloc_last _ _ _ rfl)
  clear hw2 hb1
  go_wp2_with fail
  refine (H2.out _).mono ?_
  rintro e w2 ⟨rfl, hb2⟩
  have hB2 := hB1.trans (hb2.mono hB1.size)
  have x2 := (hb2.block _ (Array.getElem?_eq_some_iff.1 x1).1).trans x1
  clear hB1 hb2 x1
  go_wp2_with fail
  refine (H3.out _ hB2).mono ?_
  rintro e w3 ⟨rfl, hb3⟩
  have hB3 := hB2.trans (hb3.mono hB2.size)
  have x3 := (hb3.block _ (Array.getElem?_eq_some_iff.1 x2).1).trans x2
  clear hB2 hb3 x2
  have d0 : w3.cell? ⟨w.heap.size, 0, none⟩ = some (.int .i64 0) := by rw [Lib.cell_of_heap x3]; rfl
  have z10 : w3.frozen? ⟨w.heap.size, 0, none⟩ = false := Lib.frozen_of_heap x3 0
  have d1 : w3.cell? ⟨w.heap.size, 1, none⟩ = some (.int .i64 0) := by rw [Lib.cell_of_heap x3]; rfl
  have z11 : w3.frozen? ⟨w.heap.size, 1, none⟩ = false := Lib.frozen_of_heap x3 1
  have d2 : w3.cell? ⟨w.heap.size, 2, none⟩ = some (.int .i64 0) := by rw [Lib.cell_of_heap x3]; rfl
  have z12 : w3.frozen? ⟨w.heap.size, 2, none⟩ = false := Lib.frozen_of_heap x3 2
  have d3 : w3.cell? ⟨w.heap.size, 3, none⟩ = some (.int .i64 0) := by rw [Lib.cell_of_heap x3]; rfl
  have z13 : w3.frozen? ⟨w.heap.size, 3, none⟩ = false := Lib.frozen_of_heap x3 3
  have d4 : w3.cell? ⟨w.heap.size, 4, none⟩ = some (.string ⟨#[]⟩) := by rw [Lib.cell_of_heap x3]; rfl
  have z14 : w3.frozen? ⟨w.heap.size, 4, none⟩ = false := Lib.frozen_of_heap x3 4
  have d5 : w3.cell? ⟨w.heap.size, 5, none⟩ = some (.slice none 0 0) := by rw [Lib.cell_of_heap x3]; rfl
  have z15 : w3.frozen? ⟨w.heap.size, 5, none⟩ = false := Lib.frozen_of_heap x3 5
  have d6 : w3.cell? ⟨w.heap.size, 6, none⟩ = some (.int .i64 0) := by rw [Lib.cell_of_heap x3]; rfl
  have z16 : w3.frozen? ⟨w.heap.size, 6, none⟩ = false := Lib.frozen_of_heap x3 6
  have d7 : w3.cell? ⟨w.heap.size, 7, none⟩ = some (.int .i64 0) := by rw [Lib.cell_of_heap x3]; rfl
  have z17 : w3.frozen? ⟨w.heap.size, 7, none⟩ = false := Lib.frozen_of_heap x3 7
  have d8 : w3.cell? ⟨w.heap.size, 8, none⟩ = some (.bool false) := by rw [Lib.cell_of_heap x3]; rfl
  have z18 : w3.frozen? ⟨w.heap.size, 8, none⟩ = false := Lib.frozen_of_heap x3 8
  go_wp2_with fail
  have sB0 := hB3.setCell (p := ⟨w.heap.size, 0, none⟩) (Nat.le_refl _) (.int .i64 c)
  have sx0 : (w3.setCell ⟨w.heap.size, 0, none⟩ (.int .i64 c)).heap[w.heap.size]? = some (.cells #[.int .i64 c, .int .i64 0, .int .i64 0, .int .i64 0, .string ⟨#[]⟩, .slice none 0 0, .int .i64 0, .int .i64 0, .bool false] 38) := (heap_setCell_same _ w.heap.size 0 _ _ _ x3).trans (by simp)
  have sB1 := sB0.setCell (p := ⟨w.heap.size, 1, none⟩) (Nat.le_refl _) (.int .i64 n)
  have sx1 : ((w3.setCell ⟨w.heap.size, 0, none⟩ (.int .i64 c)).setCell ⟨w.heap.size, 1, none⟩ (.int .i64 n)).heap[w.heap.size]? = some (.cells #[.int .i64 c, .int .i64 n, .int .i64 0, .int .i64 0, .string ⟨#[]⟩, .slice none 0 0, .int .i64 0, .int .i64 0, .bool false] 38) := (heap_setCell_same _ w.heap.size 1 _ _ _ sx0).trans (by simp)
  refine (H4.out _ sB1).mono ?_
  rintro e w4 ⟨a, m, cap, rfl, hR, hAt, hb4⟩
  have hRb : Hid (∀ g off, a = some ⟨g, off, none⟩ → 0 < m → g ≠ w.heap.size) := fun g off ha _ => by have h1 := ownF_at hAt g off ha; have h2 := (Array.getElem?_eq_some_iff.1 sx1).1; omega
  have HAt : Hid (∃ BB, w.heap.size < BB ∧ OwnF rangeV 2 60 w4 BB (.slice a m cap) R) := ⟨_, (Array.getElem?_eq_some_iff.1 sx1).1, hAt⟩
  clear hAt
  have hB4 := sB1.trans (hb4.mono sB1.size)
  have x4 := (hb4.block _ (Array.getElem?_eq_some_iff.1 sx1).1).trans sx1
  clear sx1 sx0 sB1 sB0 d0 d1 d2 d3 d4 d5 d6 d7 d8 z10 z11 z12 z13 z14 z15 z16 z17 z18  hb4 x3 hB3
  have d0 : w4.cell? ⟨w.heap.size, 0, none⟩ = some (.int .i64 c) := by rw [Lib.cell_of_heap x4]; rfl
  have z10 : w4.frozen? ⟨w.heap.size, 0, none⟩ = false := Lib.frozen_of_heap x4 0
  have d1 : w4.cell? ⟨w.heap.size, 1, none⟩ = some (.int .i64 n) := by rw [Lib.cell_of_heap x4]; rfl
  have z11 : w4.frozen? ⟨w.heap.size, 1, none⟩ = false := Lib.frozen_of_heap x4 1
  have d2 : w4.cell? ⟨w.heap.size, 2, none⟩ = some (.int .i64 0) := by rw [Lib.cell_of_heap x4]; rfl
  have z12 : w4.frozen? ⟨w.heap.size, 2, none⟩ = false := Lib.frozen_of_heap x4 2
  have d3 : w4.cell? ⟨w.heap.size, 3, none⟩ = some (.int .i64 0) := by rw [Lib.cell_of_heap x4]; rfl
  have z13 : w4.frozen? ⟨w.heap.size, 3, none⟩ = false := Lib.frozen_of_heap x4 3
  have d4 : w4.cell? ⟨w.heap.size, 4, none⟩ = some (.string ⟨#[]⟩) := by rw [Lib.cell_of_heap x4]; rfl
  have z14 : w4.frozen? ⟨w.heap.size, 4, none⟩ = false := Lib.frozen_of_heap x4 4
  have d5 : w4.cell? ⟨w.heap.size, 5, none⟩ = some (.slice none 0 0) := by rw [Lib.cell_of_heap x4]; rfl
  have z15 : w4.frozen? ⟨w.heap.size, 5, none⟩ = false := Lib.frozen_of_heap x4 5
  have d6 : w4.cell? ⟨w.heap.size, 6, none⟩ = some (.int .i64 0) := by rw [Lib.cell_of_heap x4]; rfl
  have z16 : w4.frozen? ⟨w.heap.size, 6, none⟩ = false := Lib.frozen_of_heap x4 6
  have d7 : w4.cell? ⟨w.heap.size, 7, none⟩ = some (.int .i64 0) := by rw [Lib.cell_of_heap x4]; rfl
  have z17 : w4.frozen? ⟨w.heap.size, 7, none⟩ = false := Lib.frozen_of_heap x4 7
  have d8 : w4.cell? ⟨w.heap.size, 8, none⟩ = some (.bool false) := by rw [Lib.cell_of_heap x4]; rfl
  have z18 : w4.frozen? ⟨w.heap.size, 8, none⟩ = false := Lib.frozen_of_heap x4 8
  have hRW := hR
  have sB0 := hB4.setCell (p := ⟨w.heap.size, 2, none⟩) (Nat.le_refl _) (.int .i64 3)
  have sx0 : (w4.setCell ⟨w.heap.size, 2, none⟩ (.int .i64 3)).heap[w.heap.size]? = some (.cells #[.int .i64 c, .int .i64 n, .int .i64 3, .int .i64 0, .string ⟨#[]⟩, .slice none 0 0, .int .i64 0, .int .i64 0, .bool false] 38) := (heap_setCell_same _ w.heap.size 2 _ _ _ x4).trans (by simp)
  have sB1 := sB0.setCell (p := ⟨w.heap.size, 5, none⟩) (Nat.le_refl _) (.slice a m cap)
  have sx1 : ((w4.setCell ⟨w.heap.size, 2, none⟩ (.int .i64 3)).setCell ⟨w.heap.size, 5, none⟩ (.slice a m cap)).heap[w.heap.size]? = some (.cells #[.int .i64 c, .int .i64 n, .int .i64 3, .int .i64 0, .string ⟨#[]⟩, .slice a m cap, .int .i64 0, .int .i64 0, .bool false] 38) := (heap_setCell_same _ w.heap.size 5 _ _ _ sx0).trans (by simp)
  have hx9 := set9 sx1
  have hq0 := sB1.setCell (p := ⟨w.heap.size, 0, none⟩) (Nat.le_refl _) (.int .i64 c)
  have hq1 := hq0.setCell (p := ⟨w.heap.size, 1, none⟩) (Nat.le_refl _) (.int .i64 n)
  have hq2 := hq1.setCell (p := ⟨w.heap.size, 2, none⟩) (Nat.le_refl _) (.int .i64 3)
  have hq3 := hq2.setCell (p := ⟨w.heap.size, 3, none⟩) (Nat.le_refl _) (.int .i64 0)
  have hq4 := hq3.setCell (p := ⟨w.heap.size, 4, none⟩) (Nat.le_refl _) (.string ⟨#[]⟩)
  have hq5 := hq4.setCell (p := ⟨w.heap.size, 5, none⟩) (Nat.le_refl _) (.slice a m cap)
  have hq6 := hq5.setCell (p := ⟨w.heap.size, 6, none⟩) (Nat.le_refl _) (.int .i64 0)
  have hq7 := hq6.setCell (p := ⟨w.heap.size, 7, none⟩) (Nat.le_refl _) (.int .i64 0)
  have hq8 := hq7.setCell (p := ⟨w.heap.size, 8, none⟩) (Nat.le_refl _) (.bool false)
  obtain ⟨w9, hw9⟩ : ∃ w9, (((((((((((w4.setCell ⟨w.heap.size, 2, none⟩ (.int .i64 3)).setCell ⟨w.heap.size, 5, none⟩ (.slice a m cap)).setCell ⟨w.heap.size, 0, none⟩ (.int .i64 c)).setCell ⟨w.heap.size, 1, none⟩ (.int .i64 n)).setCell ⟨w.heap.size, 2, none⟩ (.int .i64 3)).setCell ⟨w.heap.size, 3, none⟩ (.int .i64 0)).setCell ⟨w.heap.size, 4, none⟩ (.string ⟨#[]⟩)).setCell ⟨w.heap.size, 5, none⟩ (.slice a m cap)).setCell ⟨w.heap.size, 6, none⟩ (.int .i64 0)).setCell ⟨w.heap.size, 7, none⟩ (.int .i64 0)).setCell ⟨w.heap.size, 8, none⟩ (.bool false)) = w9 := ⟨_, rfl⟩
  rw [hw9] at hx9 hq8
  have r0 : w9.cell? ⟨w.heap.size, 0, none⟩ = some (.int .i64 c) := by rw [Lib.cell_of_heap hx9]; rfl
  have r1 : w9.cell? ⟨w.heap.size, 1, none⟩ = some (.int .i64 n) := by rw [Lib.cell_of_heap hx9]; rfl
  have r2 : w9.cell? ⟨w.heap.size, 2, none⟩ = some (.int .i64 3) := by rw [Lib.cell_of_heap hx9]; rfl
  have r3 : w9.cell? ⟨w.heap.size, 3, none⟩ = some (.int .i64 0) := by rw [Lib.cell_of_heap hx9]; rfl
  have r4 : w9.cell? ⟨w.heap.size, 4, none⟩ = some (.string ⟨#[]⟩) := by rw [Lib.cell_of_heap hx9]; rfl
  have r5 : w9.cell? ⟨w.heap.size, 5, none⟩ = some (.slice a m cap) := by rw [Lib.cell_of_heap hx9]; rfl
  have r6 : w9.cell? ⟨w.heap.size, 6, none⟩ = some (.int .i64 0) := by rw [Lib.cell_of_heap hx9]; rfl
  have r7 : w9.cell? ⟨w.heap.size, 7, none⟩ = some (.int .i64 0) := by rw [Lib.cell_of_heap hx9]; rfl
  have r8 : w9.cell? ⟨w.heap.size, 8, none⟩ = some (.bool false) := by rw [Lib.cell_of_heap hx9]; rfl
  have hRg : Rng w9 a m cap R := by
    rw [← hw9]
    refine rng_set ?_ _ _ _ hRb.out
    refine rng_set ?_ _ _ _ hRb.out
    refine rng_set ?_ _ _ _ hRb.out
    refine rng_set ?_ _ _ _ hRb.out
    refine rng_set ?_ _ _ _ hRb.out
    refine rng_set ?_ _ _ _ hRb.out
    refine rng_set ?_ _ _ _ hRb.out
    refine rng_set ?_ _ _ _ hRb.out
    refine rng_set ?_ _ _ _ hRb.out
    refine rng_set ?_ _ _ _ hRb.out
    refine rng_set ?_ _ _ _ hRb.out
    exact hRW
  have HOg : OwnF rangeV 2 60 w9 w.heap.size (.slice a m cap) R := by
    obtain ⟨BB, hlt, ho⟩ := HAt.out
    rw [← hw9]
    refine OwnF.mono ?_ (Nat.le_of_lt hlt)
    refine own_setZ ?_ _ _ _ hlt
    refine own_setZ ?_ _ _ _ hlt
    refine own_setZ ?_ _ _ _ hlt
    refine own_setZ ?_ _ _ _ hlt
    refine own_setZ ?_ _ _ _ hlt
    refine own_setZ ?_ _ _ _ hlt
    refine own_setZ ?_ _ _ _ hlt
    refine own_setZ ?_ _ _ _ hlt
    refine own_setZ ?_ _ _ _ hlt
    refine own_setZ ?_ _ _ _ hlt
    refine own_setZ ?_ _ _ _ hlt
    exact ho
  clear hq7 hq6 hq5 hq4 hq3 hq2 hq1 hq0 sx1 sx0 sB1 sB0
  go_wp2_with fail
  try rw [hw9]
  refine bodyPost_ret (v := .agg #[.int .i64 c, .int .i64 n, .int .i64 3, .int .i64 0, .string ⟨#[]⟩, .slice a m cap, .int .i64 0, .int .i64 0, .bool false]) (by simp [results, Tryd.results21, go_sem, r0, r1, r2, r3, r4, r5, r6, r7, r8]) rfl ⟨a, m, cap, rfl, hRg, HOg, hq8⟩
set_option maxHeartbeats 2000000 in
theorem readLine_on (l : List UInt8) (hl : l.length ≤ 4294967296) (w : World) (he : Errs w) (h0 : (cut1 (cut1 l 32).2.1 32).1 = onW) :
    Calls Tryd.prog 21 #[.string (bs l)] w fun e w' => ∃ a m cap, e = .returned (opVal (readP l) (.slice a m cap)) ∧ Rng w' a m cap (readP l).l ∧ OwnF rangeV 2 60 w' w.heap.size (.slice a m cap) (readP l).l ∧ Below w.heap.size w w' := by
  have HR : Hid (readP l = ⟨(idP (cut1 l 32).1).1, (idP (cut1 l 32).1).2, 4, 0, ⟨#[]⟩, [], (idP (cut1 (cut1 l 32).2.1 32).2.1).1, (idP (cut1 (cut1 l 32).2.1 32).2.1).2, true⟩) := by
    show _ = _
    unfold readP readW
    rw [h0]
    rw [if_neg (by decide), if_neg (by decide), if_neg (by decide), if_pos (.inl rfl)]
    rfl
  have hle := cut1_le l 32
  have hle2 := cut1_le (cut1 l 32).2.1 32
  have H1 : Hid (∀ w : World, Calls Tryd.prog 28 #[.string (bs l), .string ⟨#[32]⟩] w fun e w' => e = .returned (.tuple #[.string (bs (cut1 l 32).1), .string (bs (cut1 l 32).2.1), .bool (cut1 l 32).2.2]) ∧ Below w.heap.size w w') := fun w => cut_any l 32 hl w
  have H2 : Hid (∀ w : World, Calls Tryd.prog 28 #[.string (bs (cut1 l 32).2.1), .string ⟨#[32]⟩] w fun e w' => e = .returned (.tuple #[.string (bs (cut1 (cut1 l 32).2.1 32).1), .string (bs (cut1 (cut1 l 32).2.1 32).2.1), .bool (cut1 (cut1 l 32).2.1 32).2.2]) ∧ Below w.heap.size w w') := fun w => cut_any _ 32 (by omega) w
  have H3 : Hid (∀ w' : World, Below w.heap.size w w' → Calls Tryd.prog 29 #[.string (bs (cut1 l 32).1)] w' fun e w'' => e = .returned (.agg #[.int .i64 (idP (cut1 l 32).1).1, .int .i64 (idP (cut1 l 32).1).2]) ∧ Below w'.heap.size w' w'') := fun w' hb => readID_any _ (by omega) w' (he.below hb)
  have H4 : Hid (∀ w' : World, Below w.heap.size w w' → Calls Tryd.prog 29 #[.string (bs (cut1 (cut1 l 32).2.1 32).2.1)] w' fun e w'' => e = .returned (.agg #[.int .i64 (idP (cut1 (cut1 l 32).2.1 32).2.1).1, .int .i64 (idP (cut1 (cut1 l 32).2.1 32).2.1).2]) ∧ Below w'.heap.size w' w'') := fun w' hb => readID_any _ (by omega) w' (he.below hb)
  generalize hwd : (cut1 (cut1 l 32).2.1 32).1 = wd at *
  have hlist : (bs wd).toList = onW := (list_of wd).trans h0
  have t1 : ((bs wd).toList == [105, 110, 115]) = false := by rw [hlist]; rfl
  have t2 : ((bs wd).toList == [104, 105, 100, 101]) = false := by rw [hlist]; rfl
  have t3 : ((bs wd).toList == [115, 104, 111, 119]) = false := by rw [hlist]; rfl
  have t4 : ((bs wd).toList == [111, 110]) = true := by rw [hlist]; rfl
  rw [HR.out]
  clear hle hle2 he hl HR h0 hlist hwd
  generalize (idP (cut1 l 32).1).1 = c at *
  generalize (idP (cut1 l 32).1).2 = n at *
  generalize bs wd = W0 at *
  generalize (idP (cut1 (cut1 l 32).2.1 32).2.1).1 = tc at *
  generalize (idP (cut1 (cut1 l 32).2.1 32).2.1).2 = tn at *
  generalize bs (cut1 (cut1 l 32).2.1 32).2.1 = rs at *
  generalize (cut1 (cut1 l 32).2.1 32).2.2 = z1 at *
  generalize bs (cut1 l 32).1 = p1 at *
  generalize bs (cut1 l 32).2.1 = p2 at *
  generalize (cut1 l 32).2.2 = z2 at *
  generalize bs l = S at *
  simp only [opVal]
  have hw2 := (Below.refl w.heap.size w).alloc (Nat.le_refl _) (Obj.cells #[.int .i64 0, .int .i64 0, .int .i64 0, .int .i64 0, .string ⟨#[]⟩, .slice none 0 0, .int .i64 0, .int .i64 0, .bool false] 38)
  go_enter Tryd.func21, Tryd.ntmps21
  go_wp2_with fail
  refine (H1.out _).mono ?_
  rintro e w1 ⟨rfl, hb1⟩
  have hB1 := hw2.trans (hb1.mono hw2.size)
  have x1 := (hb1.block w.heap.size (by simp)).trans (alloc_last _ _ _ rfl)
  clear hw2 hb1
  go_wp2_with fail
  refine (H2.out _).mono ?_
  rintro e w2 ⟨rfl, hb2⟩
  have hB2 := hB1.trans (hb2.mono hB1.size)
  have x2 := (hb2.block _ (Array.getElem?_eq_some_iff.1 x1).1).trans x1
  clear hB1 hb2 x1
  go_wp2_with fail
  refine (H3.out _ hB2).mono ?_
  rintro e w3 ⟨rfl, hb3⟩
  have hB3 := hB2.trans (hb3.mono hB2.size)
  have x3 := (hb3.block _ (Array.getElem?_eq_some_iff.1 x2).1).trans x2
  clear hB2 hb3 x2
  have d0 : w3.cell? ⟨w.heap.size, 0, none⟩ = some (.int .i64 0) := by rw [Lib.cell_of_heap x3]; rfl
  have z10 : w3.frozen? ⟨w.heap.size, 0, none⟩ = false := Lib.frozen_of_heap x3 0
  have d1 : w3.cell? ⟨w.heap.size, 1, none⟩ = some (.int .i64 0) := by rw [Lib.cell_of_heap x3]; rfl
  have z11 : w3.frozen? ⟨w.heap.size, 1, none⟩ = false := Lib.frozen_of_heap x3 1
  have d2 : w3.cell? ⟨w.heap.size, 2, none⟩ = some (.int .i64 0) := by rw [Lib.cell_of_heap x3]; rfl
  have z12 : w3.frozen? ⟨w.heap.size, 2, none⟩ = false := Lib.frozen_of_heap x3 2
  have d3 : w3.cell? ⟨w.heap.size, 3, none⟩ = some (.int .i64 0) := by rw [Lib.cell_of_heap x3]; rfl
  have z13 : w3.frozen? ⟨w.heap.size, 3, none⟩ = false := Lib.frozen_of_heap x3 3
  have d4 : w3.cell? ⟨w.heap.size, 4, none⟩ = some (.string ⟨#[]⟩) := by rw [Lib.cell_of_heap x3]; rfl
  have z14 : w3.frozen? ⟨w.heap.size, 4, none⟩ = false := Lib.frozen_of_heap x3 4
  have d5 : w3.cell? ⟨w.heap.size, 5, none⟩ = some (.slice none 0 0) := by rw [Lib.cell_of_heap x3]; rfl
  have z15 : w3.frozen? ⟨w.heap.size, 5, none⟩ = false := Lib.frozen_of_heap x3 5
  have d6 : w3.cell? ⟨w.heap.size, 6, none⟩ = some (.int .i64 0) := by rw [Lib.cell_of_heap x3]; rfl
  have z16 : w3.frozen? ⟨w.heap.size, 6, none⟩ = false := Lib.frozen_of_heap x3 6
  have d7 : w3.cell? ⟨w.heap.size, 7, none⟩ = some (.int .i64 0) := by rw [Lib.cell_of_heap x3]; rfl
  have z17 : w3.frozen? ⟨w.heap.size, 7, none⟩ = false := Lib.frozen_of_heap x3 7
  have d8 : w3.cell? ⟨w.heap.size, 8, none⟩ = some (.bool false) := by rw [Lib.cell_of_heap x3]; rfl
  have z18 : w3.frozen? ⟨w.heap.size, 8, none⟩ = false := Lib.frozen_of_heap x3 8
  go_wp2_with fail
  have sB0 := hB3.setCell (p := ⟨w.heap.size, 0, none⟩) (Nat.le_refl _) (.int .i64 c)
  have sx0 : (w3.setCell ⟨w.heap.size, 0, none⟩ (.int .i64 c)).heap[w.heap.size]? = some (.cells #[.int .i64 c, .int .i64 0, .int .i64 0, .int .i64 0, .string ⟨#[]⟩, .slice none 0 0, .int .i64 0, .int .i64 0, .bool false] 38) := (heap_setCell_same _ w.heap.size 0 _ _ _ x3).trans (by simp)
  have sB1 := sB0.setCell (p := ⟨w.heap.size, 1, none⟩) (Nat.le_refl _) (.int .i64 n)
  have sx1 : ((w3.setCell ⟨w.heap.size, 0, none⟩ (.int .i64 c)).setCell ⟨w.heap.size, 1, none⟩ (.int .i64 n)).heap[w.heap.size]? = some (.cells #[.int .i64 c, .int .i64 n, .int .i64 0, .int .i64 0, .string ⟨#[]⟩, .slice none 0 0, .int .i64 0, .int .i64 0, .bool false] 38) := (heap_setCell_same _ w.heap.size 1 _ _ _ sx0).trans (by simp)
  refine (H4.out _ sB1).mono ?_
  rintro e w4 ⟨rfl, hb4⟩
  have hB4 := sB1.trans (hb4.mono sB1.size)
  have x4 := (hb4.block _ (Array.getElem?_eq_some_iff.1 sx1).1).trans sx1
  clear sx1 sx0 sB1 sB0 d0 d1 d2 d3 d4 d5 d6 d7 d8 z10 z11 z12 z13 z14 z15 z16 z17 z18  hb4 x3 hB3
  have d0 : w4.cell? ⟨w.heap.size, 0, none⟩ = some (.int .i64 c) := by rw [Lib.cell_of_heap x4]; rfl
  have z10 : w4.frozen? ⟨w.heap.size, 0, none⟩ = false := Lib.frozen_of_heap x4 0
  have d1 : w4.cell? ⟨w.heap.size, 1, none⟩ = some (.int .i64 n) := by rw [Lib.cell_of_heap x4]; rfl
  have z11 : w4.frozen? ⟨w.heap.size, 1, none⟩ = false := Lib.frozen_of_heap x4 1
  have d2 : w4.cell? ⟨w.heap.size, 2, none⟩ = some (.int .i64 0) := by rw [Lib.cell_of_heap x4]; rfl
  have z12 : w4.frozen? ⟨w.heap.size, 2, none⟩ = false := Lib.frozen_of_heap x4 2
  have d3 : w4.cell? ⟨w.heap.size, 3, none⟩ = some (.int .i64 0) := by rw [Lib.cell_of_heap x4]; rfl
  have z13 : w4.frozen? ⟨w.heap.size, 3, none⟩ = false := Lib.frozen_of_heap x4 3
  have d4 : w4.cell? ⟨w.heap.size, 4, none⟩ = some (.string ⟨#[]⟩) := by rw [Lib.cell_of_heap x4]; rfl
  have z14 : w4.frozen? ⟨w.heap.size, 4, none⟩ = false := Lib.frozen_of_heap x4 4
  have d5 : w4.cell? ⟨w.heap.size, 5, none⟩ = some (.slice none 0 0) := by rw [Lib.cell_of_heap x4]; rfl
  have z15 : w4.frozen? ⟨w.heap.size, 5, none⟩ = false := Lib.frozen_of_heap x4 5
  have d6 : w4.cell? ⟨w.heap.size, 6, none⟩ = some (.int .i64 0) := by rw [Lib.cell_of_heap x4]; rfl
  have z16 : w4.frozen? ⟨w.heap.size, 6, none⟩ = false := Lib.frozen_of_heap x4 6
  have d7 : w4.cell? ⟨w.heap.size, 7, none⟩ = some (.int .i64 0) := by rw [Lib.cell_of_heap x4]; rfl
  have z17 : w4.frozen? ⟨w.heap.size, 7, none⟩ = false := Lib.frozen_of_heap x4 7
  have d8 : w4.cell? ⟨w.heap.size, 8, none⟩ = some (.bool false) := by rw [Lib.cell_of_heap x4]; rfl
  have z18 : w4.frozen? ⟨w.heap.size, 8, none⟩ = false := Lib.frozen_of_heap x4 8
  have sB0 := hB4.setCell (p := ⟨w.heap.size, 2, none⟩) (Nat.le_refl _) (.int .i64 4)
  have sx0 : (w4.setCell ⟨w.heap.size, 2, none⟩ (.int .i64 4)).heap[w.heap.size]? = some (.cells #[.int .i64 c, .int .i64 n, .int .i64 4, .int .i64 0, .string ⟨#[]⟩, .slice none 0 0, .int .i64 0, .int .i64 0, .bool false] 38) := (heap_setCell_same _ w.heap.size 2 _ _ _ x4).trans (by simp)
  have sB1 := sB0.setCell (p := ⟨w.heap.size, 6, none⟩) (Nat.le_refl _) (.int .i64 tc)
  have sx1 : ((w4.setCell ⟨w.heap.size, 2, none⟩ (.int .i64 4)).setCell ⟨w.heap.size, 6, none⟩ (.int .i64 tc)).heap[w.heap.size]? = some (.cells #[.int .i64 c, .int .i64 n, .int .i64 4, .int .i64 0, .string ⟨#[]⟩, .slice none 0 0, .int .i64 tc, .int .i64 0, .bool false] 38) := (heap_setCell_same _ w.heap.size 6 _ _ _ sx0).trans (by simp)
  have sB2 := sB1.setCell (p := ⟨w.heap.size, 7, none⟩) (Nat.le_refl _) (.int .i64 tn)
  have sx2 : (((w4.setCell ⟨w.heap.size, 2, none⟩ (.int .i64 4)).setCell ⟨w.heap.size, 6, none⟩ (.int .i64 tc)).setCell ⟨w.heap.size, 7, none⟩ (.int .i64 tn)).heap[w.heap.size]? = some (.cells #[.int .i64 c, .int .i64 n, .int .i64 4, .int .i64 0, .string ⟨#[]⟩, .slice none 0 0, .int .i64 tc, .int .i64 tn, .bool false] 38) := (heap_setCell_same _ w.heap.size 7 _ _ _ sx1).trans (by simp)
  have sB3 := sB2.setCell (p := ⟨w.heap.size, 8, none⟩) (Nat.le_refl _) (.bool true)
  have sx3 : ((((w4.setCell ⟨w.heap.size, 2, none⟩ (.int .i64 4)).setCell ⟨w.heap.size, 6, none⟩ (.int .i64 tc)).setCell ⟨w.heap.size, 7, none⟩ (.int .i64 tn)).setCell ⟨w.heap.size, 8, none⟩ (.bool true)).heap[w.heap.size]? = some (.cells #[.int .i64 c, .int .i64 n, .int .i64 4, .int .i64 0, .string ⟨#[]⟩, .slice none 0 0, .int .i64 tc, .int .i64 tn, .bool true] 38) := (heap_setCell_same _ w.heap.size 8 _ _ _ sx2).trans (by simp)
  have hx9 := set9 sx3
  have hq0 := sB3.setCell (p := ⟨w.heap.size, 0, none⟩) (Nat.le_refl _) (.int .i64 c)
  have hq1 := hq0.setCell (p := ⟨w.heap.size, 1, none⟩) (Nat.le_refl _) (.int .i64 n)
  have hq2 := hq1.setCell (p := ⟨w.heap.size, 2, none⟩) (Nat.le_refl _) (.int .i64 4)
  have hq3 := hq2.setCell (p := ⟨w.heap.size, 3, none⟩) (Nat.le_refl _) (.int .i64 0)
  have hq4 := hq3.setCell (p := ⟨w.heap.size, 4, none⟩) (Nat.le_refl _) (.string ⟨#[]⟩)
  have hq5 := hq4.setCell (p := ⟨w.heap.size, 5, none⟩) (Nat.le_refl _) (.slice none 0 0)
  have hq6 := hq5.setCell (p := ⟨w.heap.size, 6, none⟩) (Nat.le_refl _) (.int .i64 tc)
  have hq7 := hq6.setCell (p := ⟨w.heap.size, 7, none⟩) (Nat.le_refl _) (.int .i64 tn)
  have hq8 := hq7.setCell (p := ⟨w.heap.size, 8, none⟩) (Nat.le_refl _) (.bool true)
  obtain ⟨w9, hw9⟩ : ∃ w9, (((((((((((((w4.setCell ⟨w.heap.size, 2, none⟩ (.int .i64 4)).setCell ⟨w.heap.size, 6, none⟩ (.int .i64 tc)).setCell ⟨w.heap.size, 7, none⟩ (.int .i64 tn)).setCell ⟨w.heap.size, 8, none⟩ (.bool true)).setCell ⟨w.heap.size, 0, none⟩ (.int .i64 c)).setCell ⟨w.heap.size, 1, none⟩ (.int .i64 n)).setCell ⟨w.heap.size, 2, none⟩ (.int .i64 4)).setCell ⟨w.heap.size, 3, none⟩ (.int .i64 0)).setCell ⟨w.heap.size, 4, none⟩ (.string ⟨#[]⟩)).setCell ⟨w.heap.size, 5, none⟩ (.slice none 0 0)).setCell ⟨w.heap.size, 6, none⟩ (.int .i64 tc)).setCell ⟨w.heap.size, 7, none⟩ (.int .i64 tn)).setCell ⟨w.heap.size, 8, none⟩ (.bool true)) = w9 := ⟨_, rfl⟩
  rw [hw9] at hx9 hq8
  have r0 : w9.cell? ⟨w.heap.size, 0, none⟩ = some (.int .i64 c) := by rw [Lib.cell_of_heap hx9]; rfl
  have r1 : w9.cell? ⟨w.heap.size, 1, none⟩ = some (.int .i64 n) := by rw [Lib.cell_of_heap hx9]; rfl
  have r2 : w9.cell? ⟨w.heap.size, 2, none⟩ = some (.int .i64 4) := by rw [Lib.cell_of_heap hx9]; rfl
  have r3 : w9.cell? ⟨w.heap.size, 3, none⟩ = some (.int .i64 0) := by rw [Lib.cell_of_heap hx9]; rfl
  have r4 : w9.cell? ⟨w.heap.size, 4, none⟩ = some (.string ⟨#[]⟩) := by rw [Lib.cell_of_heap hx9]; rfl
  have r5 : w9.cell? ⟨w.heap.size, 5, none⟩ = some (.slice none 0 0) := by rw [Lib.cell_of_heap hx9]; rfl
  have r6 : w9.cell? ⟨w.heap.size, 6, none⟩ = some (.int .i64 tc) := by rw [Lib.cell_of_heap hx9]; rfl
  have r7 : w9.cell? ⟨w.heap.size, 7, none⟩ = some (.int .i64 tn) := by rw [Lib.cell_of_heap hx9]; rfl
  have r8 : w9.cell? ⟨w.heap.size, 8, none⟩ = some (.bool true) := by rw [Lib.cell_of_heap hx9]; rfl
  clear hq7 hq6 hq5 hq4 hq3 hq2 hq1 hq0 sx3 sx2 sx1 sx0 sB3 sB2 sB1 sB0
  go_wp2_with fail
  try rw [hw9]
  refine bodyPost_ret (v := .agg #[.int .i64 c, .int .i64 n, .int .i64 4, .int .i64 0, .string ⟨#[]⟩, .slice none 0 0, .int .i64 tc, .int .i64 tn, .bool true]) (by simp [results, Tryd.results21, go_sem, r0, r1, r2, r3, r4, r5, r6, r7, r8]) rfl ⟨none, 0, 0, rfl, rng_nil _, ownF_nil _ _, hq8⟩
set_option maxHeartbeats 2000000 in
theorem readLine_off (l : List UInt8) (hl : l.length ≤ 4294967296) (w : World) (he : Errs w) (h0 : (cut1 (cut1 l 32).2.1 32).1 = offW) :
    Calls Tryd.prog 21 #[.string (bs l)] w fun e w' => ∃ a m cap, e = .returned (opVal (readP l) (.slice a m cap)) ∧ Rng w' a m cap (readP l).l ∧ OwnF rangeV 2 60 w' w.heap.size (.slice a m cap) (readP l).l ∧ Below w.heap.size w w' := by
  have HR : Hid (readP l = ⟨(idP (cut1 l 32).1).1, (idP (cut1 l 32).1).2, 4, 0, ⟨#[]⟩, [], (idP (cut1 (cut1 l 32).2.1 32).2.1).1, (idP (cut1 (cut1 l 32).2.1 32).2.1).2, false⟩) := by
    show _ = _
    unfold readP readW
    rw [h0]
    rw [if_neg (by decide), if_neg (by decide), if_neg (by decide), if_pos (.inr rfl)]
    rfl
  have hle := cut1_le l 32
  have hle2 := cut1_le (cut1 l 32).2.1 32
  have H1 : Hid (∀ w : World, Calls Tryd.prog 28 #[.string (bs l), .string ⟨#[32]⟩] w fun e w' => e = .returned (.tuple #[.string (bs (cut1 l 32).1), .string (bs (cut1 l 32).2.1), .bool (cut1 l 32).2.2]) ∧ Below w.heap.size w w') := fun w => cut_any l 32 hl w
  have H2 : Hid (∀ w : World, Calls Tryd.prog 28 #[.string (bs (cut1 l 32).2.1), .string ⟨#[32]⟩] w fun e w' => e = .returned (.tuple #[.string (bs (cut1 (cut1 l 32).2.1 32).1), .string (bs (cut1 (cut1 l 32).2.1 32).2.1), .bool (cut1 (cut1 l 32).2.1 32).2.2]) ∧ Below w.heap.size w w') := fun w => cut_any _ 32 (by omega) w
  have H3 : Hid (∀ w' : World, Below w.heap.size w w' → Calls Tryd.prog 29 #[.string (bs (cut1 l 32).1)] w' fun e w'' => e = .returned (.agg #[.int .i64 (idP (cut1 l 32).1).1, .int .i64 (idP (cut1 l 32).1).2]) ∧ Below w'.heap.size w' w'') := fun w' hb => readID_any _ (by omega) w' (he.below hb)
  have H4 : Hid (∀ w' : World, Below w.heap.size w w' → Calls Tryd.prog 29 #[.string (bs (cut1 (cut1 l 32).2.1 32).2.1)] w' fun e w'' => e = .returned (.agg #[.int .i64 (idP (cut1 (cut1 l 32).2.1 32).2.1).1, .int .i64 (idP (cut1 (cut1 l 32).2.1 32).2.1).2]) ∧ Below w'.heap.size w' w'') := fun w' hb => readID_any _ (by omega) w' (he.below hb)
  generalize hwd : (cut1 (cut1 l 32).2.1 32).1 = wd at *
  have hlist : (bs wd).toList = offW := (list_of wd).trans h0
  have t1 : ((bs wd).toList == [105, 110, 115]) = false := by rw [hlist]; rfl
  have t2 : ((bs wd).toList == [104, 105, 100, 101]) = false := by rw [hlist]; rfl
  have t3 : ((bs wd).toList == [115, 104, 111, 119]) = false := by rw [hlist]; rfl
  have t4 : ((bs wd).toList == [111, 110]) = false := by rw [hlist]; rfl
  have t5 : ((bs wd).toList == [111, 102, 102]) = true := by rw [hlist]; rfl
  rw [HR.out]
  clear hle hle2 he hl HR h0 hlist hwd
  generalize (idP (cut1 l 32).1).1 = c at *
  generalize (idP (cut1 l 32).1).2 = n at *
  generalize bs wd = W0 at *
  generalize (idP (cut1 (cut1 l 32).2.1 32).2.1).1 = tc at *
  generalize (idP (cut1 (cut1 l 32).2.1 32).2.1).2 = tn at *
  generalize bs (cut1 (cut1 l 32).2.1 32).2.1 = rs at *
  generalize (cut1 (cut1 l 32).2.1 32).2.2 = z1 at *
  generalize bs (cut1 l 32).1 = p1 at *
  generalize bs (cut1 l 32).2.1 = p2 at *
  generalize (cut1 l 32).2.2 = z2 at *
  generalize bs l = S at *
  simp only [opVal]
  have hw2 := (Below.refl w.heap.size w).alloc (Nat.le_refl _) (Obj.cells #[.int .i64 0, .int .i64 0, .int .i64 0, .int .i64 0, .string ⟨#[]⟩, .slice none 0 0, .int .i64 0, .int .i64 0, .bool false] 38)
  go_enter Tryd.func21, Tryd.ntmps21
  go_wp2_with fail
  refine (H1.out _).mono ?_
  rintro e w1 ⟨rfl, hb1⟩
  have hB1 := hw2.trans (hb1.mono hw2.size)
  have x1 := (hb1.block w.heap.size (by simp)).trans (alloc_last _ _ _ rfl)
  clear hw2 hb1
  go_wp2_with fail
  refine (H2.out _).mono ?_
  rintro e w2 ⟨rfl, hb2⟩
  have hB2 := hB1.trans (hb2.mono hB1.size)
  have x2 := (hb2.block _ (Array.getElem?_eq_some_iff.1 x1).1).trans x1
  clear hB1 hb2 x1
  go_wp2_with fail
  refine (H3.out _ hB2).mono ?_
  rintro e w3 ⟨rfl, hb3⟩
  have hB3 := hB2.trans (hb3.mono hB2.size)
  have x3 := (hb3.block _ (Array.getElem?_eq_some_iff.1 x2).1).trans x2
  clear hB2 hb3 x2
  have d0 : w3.cell? ⟨w.heap.size, 0, none⟩ = some (.int .i64 0) := by rw [Lib.cell_of_heap x3]; rfl
  have z10 : w3.frozen? ⟨w.heap.size, 0, none⟩ = false := Lib.frozen_of_heap x3 0
  have d1 : w3.cell? ⟨w.heap.size, 1, none⟩ = some (.int .i64 0) := by rw [Lib.cell_of_heap x3]; rfl
  have z11 : w3.frozen? ⟨w.heap.size, 1, none⟩ = false := Lib.frozen_of_heap x3 1
  have d2 : w3.cell? ⟨w.heap.size, 2, none⟩ = some (.int .i64 0) := by rw [Lib.cell_of_heap x3]; rfl
  have z12 : w3.frozen? ⟨w.heap.size, 2, none⟩ = false := Lib.frozen_of_heap x3 2
  have d3 : w3.cell? ⟨w.heap.size, 3, none⟩ = some (.int .i64 0) := by rw [Lib.cell_of_heap x3]; rfl
  have z13 : w3.frozen? ⟨w.heap.size, 3, none⟩ = false := Lib.frozen_of_heap x3 3
  have d4 : w3.cell? ⟨w.heap.size, 4, none⟩ = some (.string ⟨#[]⟩) := by rw [Lib.cell_of_heap x3]; rfl
  have z14 : w3.frozen? ⟨w.heap.size, 4, none⟩ = false := Lib.frozen_of_heap x3 4
  have d5 : w3.cell? ⟨w.heap.size, 5, none⟩ = some (.slice none 0 0) := by rw [Lib.cell_of_heap x3]; rfl
  have z15 : w3.frozen? ⟨w.heap.size, 5, none⟩ = false := Lib.frozen_of_heap x3 5
  have d6 : w3.cell? ⟨w.heap.size, 6, none⟩ = some (.int .i64 0) := by rw [Lib.cell_of_heap x3]; rfl
  have z16 : w3.frozen? ⟨w.heap.size, 6, none⟩ = false := Lib.frozen_of_heap x3 6
  have d7 : w3.cell? ⟨w.heap.size, 7, none⟩ = some (.int .i64 0) := by rw [Lib.cell_of_heap x3]; rfl
  have z17 : w3.frozen? ⟨w.heap.size, 7, none⟩ = false := Lib.frozen_of_heap x3 7
  have d8 : w3.cell? ⟨w.heap.size, 8, none⟩ = some (.bool false) := by rw [Lib.cell_of_heap x3]; rfl
  have z18 : w3.frozen? ⟨w.heap.size, 8, none⟩ = false := Lib.frozen_of_heap x3 8
  go_wp2_with fail
  have sB0 := hB3.setCell (p := ⟨w.heap.size, 0, none⟩) (Nat.le_refl _) (.int .i64 c)
  have sx0 : (w3.setCell ⟨w.heap.size, 0, none⟩ (.int .i64 c)).heap[w.heap.size]? = some (.cells #[.int .i64 c, .int .i64 0, .int .i64 0, .int .i64 0, .string ⟨#[]⟩, .slice none 0 0, .int .i64 0, .int .i64 0, .bool false] 38) := (heap_setCell_same _ w.heap.size 0 _ _ _ x3).trans (by simp)
  have sB1 := sB0.setCell (p := ⟨w.heap.size, 1, none⟩) (Nat.le_refl _) (.int .i64 n)
  have sx1 : ((w3.setCell ⟨w.heap.size, 0, none⟩ (.int .i64 c)).setCell ⟨w.heap.size, 1, none⟩ (.int .i64 n)).heap[w.heap.size]? = some (.cells #[.int .i64 c, .int .i64 n, .int .i64 0, .int .i64 0, .string ⟨#[]⟩, .slice none 0 0, .int .i64 0, .int .i64 0, .bool false] 38) := (heap_setCell_same _ w.heap.size 1 _ _ _ sx0).trans (by simp)
  refine (H4.out _ sB1).mono ?_
  rintro e w4 ⟨rfl, hb4⟩
  have hB4 := sB1.trans (hb4.mono sB1.size)
  have x4 := (hb4.block _ (Array.getElem?_eq_some_iff.1 sx1).1).trans sx1
  clear sx1 sx0 sB1 sB0 d0 d1 d2 d3 d4 d5 d6 d7 d8 z10 z11 z12 z13 z14 z15 z16 z17 z18  hb4 x3 hB3
  have d0 : w4.cell? ⟨w.heap.size, 0, none⟩ = some (.int .i64 c) := by rw [Lib.cell_of_heap x4]; rfl
  have z10 : w4.frozen? ⟨w.heap.size, 0, none⟩ = false := Lib.frozen_of_heap x4 0
  have d1 : w4.cell? ⟨w.heap.size, 1, none⟩ = some (.int .i64 n) := by rw [Lib.cell_of_heap x4]; rfl
  have z11 : w4.frozen? ⟨w.heap.size, 1, none⟩ = false := Lib.frozen_of_heap x4 1
  have d2 : w4.cell? ⟨w.heap.size, 2, none⟩ = some (.int .i64 0) := by rw [Lib.cell_of_heap x4]; rfl
  have z12 : w4.frozen? ⟨w.heap.size, 2, none⟩ = false := Lib.frozen_of_heap x4 2
  have d3 : w4.cell? ⟨w.heap.size, 3, none⟩ = some (.int .i64 0) := by rw [Lib.cell_of_heap x4]; rfl
  have z13 : w4.frozen? ⟨w.heap.size, 3, none⟩ = false := Lib.frozen_of_heap x4 3
  have d4 : w4.cell? ⟨w.heap.size, 4, none⟩ = some (.string ⟨#[]⟩) := by rw [Lib.cell_of_heap x4]; rfl
  have z14 : w4.frozen? ⟨w.heap.size, 4, none⟩ = false := Lib.frozen_of_heap x4 4
  have d5 : w4.cell? ⟨w.heap.size, 5, none⟩ = some (.slice none 0 0) := by rw [Lib.cell_of_heap x4]; rfl
  have z15 : w4.frozen? ⟨w.heap.size, 5, none⟩ = false := Lib.frozen_of_heap x4 5
  have d6 : w4.cell? ⟨w.heap.size, 6, none⟩ = some (.int .i64 0) := by rw [Lib.cell_of_heap x4]; rfl
  have z16 : w4.frozen? ⟨w.heap.size, 6, none⟩ = false := Lib.frozen_of_heap x4 6
  have d7 : w4.cell? ⟨w.heap.size, 7, none⟩ = some (.int .i64 0) := by rw [Lib.cell_of_heap x4]; rfl
  have z17 : w4.frozen? ⟨w.heap.size, 7, none⟩ = false := Lib.frozen_of_heap x4 7
  have d8 : w4.cell? ⟨w.heap.size, 8, none⟩ = some (.bool false) := by rw [Lib.cell_of_heap x4]; rfl
  have z18 : w4.frozen? ⟨w.heap.size, 8, none⟩ = false := Lib.frozen_of_heap x4 8
  have sB0 := hB4.setCell (p := ⟨w.heap.size, 2, none⟩) (Nat.le_refl _) (.int .i64 4)
  have sx0 : (w4.setCell ⟨w.heap.size, 2, none⟩ (.int .i64 4)).heap[w.heap.size]? = some (.cells #[.int .i64 c, .int .i64 n, .int .i64 4, .int .i64 0, .string ⟨#[]⟩, .slice none 0 0, .int .i64 0, .int .i64 0, .bool false] 38) := (heap_setCell_same _ w.heap.size 2 _ _ _ x4).trans (by simp)
  have sB1 := sB0.setCell (p := ⟨w.heap.size, 6, none⟩) (Nat.le_refl _) (.int .i64 tc)
  have sx1 : ((w4.setCell ⟨w.heap.size, 2, none⟩ (.int .i64 4)).setCell ⟨w.heap.size, 6, none⟩ (.int .i64 tc)).heap[w.heap.size]? = some (.cells #[.int .i64 c, .int .i64 n, .int .i64 4, .int .i64 0, .string ⟨#[]⟩, .slice none 0 0, .int .i64 tc, .int .i64 0, .bool false] 38) := (heap_setCell_same _ w.heap.size 6 _ _ _ sx0).trans (by simp)
  have sB2 := sB1.setCell (p := ⟨w.heap.size, 7, none⟩) (Nat.le_refl _) (.int .i64 tn)
  have sx2 : (((w4.setCell ⟨w.heap.size, 2, none⟩ (.int .i64 4)).setCell ⟨w.heap.size, 6, none⟩ (.int .i64 tc)).setCell ⟨w.heap.size, 7, none⟩ (.int .i64 tn)).heap[w.heap.size]? = some (.cells #[.int .i64 c, .int .i64 n, .int .i64 4, .int .i64 0, .string ⟨#[]⟩, .slice none 0 0, .int .i64 tc, .int .i64 tn, .bool false] 38) := (heap_setCell_same _ w.heap.size 7 _ _ _ sx1).trans (by simp)
  have sB3 := sB2.setCell (p := ⟨w.heap.size, 8, none⟩) (Nat.le_refl _) (.bool false)
  have sx3 : ((((w4.setCell ⟨w.heap.size, 2, none⟩ (.int .i64 4)).setCell ⟨w.heap.size, 6, none⟩ (.int .i64 tc)).setCell ⟨w.heap.size, 7, none⟩ (.int .i64 tn)).setCell ⟨w.heap.size, 8, none⟩ (.bool false)).heap[w.heap.size]? = some (.cells #[.int .i64 c, .int .i64 n, .int .i64 4, .int .i64 0, .string ⟨#[]⟩, .slice none 0 0, .int .i64 tc, .int .i64 tn, .bool false] 38) := (heap_setCell_same _ w.heap.size 8 _ _ _ sx2).trans (by simp)
  have hx9 := set9 sx3
  have hq0 := sB3.setCell (p := ⟨w.heap.size, 0, none⟩) (Nat.le_refl _) (.int .i64 c)
  have hq1 := hq0.setCell (p := ⟨w.heap.size, 1, none⟩) (Nat.le_refl _) (.int .i64 n)
  have hq2 := hq1.setCell (p := ⟨w.heap.size, 2, none⟩) (Nat.le_refl _) (.int .i64 4)
  have hq3 := hq2.setCell (p := ⟨w.heap.size, 3, none⟩) (Nat.le_refl _) (.int .i64 0)
  have hq4 := hq3.setCell (p := ⟨w.heap.size, 4, none⟩) (Nat.le_refl _) (.string ⟨#[]⟩)
  have hq5 := hq4.setCell (p := ⟨w.heap.size, 5, none⟩) (Nat.le_refl _) (.slice none 0 0)
  have hq6 := hq5.setCell (p := ⟨w.heap.size, 6, none⟩) (Nat.le_refl _) (.int .i64 tc)
  have hq7 := hq6.setCell (p := ⟨w.heap.size, 7, none⟩) (Nat.le_refl _) (.int .i64 tn)
  have hq8 := hq7.setCell (p := ⟨w.heap.size, 8, none⟩) (Nat.le_refl _) (.bool false)
  obtain ⟨w9, hw9⟩ : ∃ w9, (((((((((((((w4.setCell ⟨w.heap.size, 2, none⟩ (.int .i64 4)).setCell ⟨w.heap.size, 6, none⟩ (.int .i64 tc)).setCell ⟨w.heap.size, 7, none⟩ (.int .i64 tn)).setCell ⟨w.heap.size, 8, none⟩ (.bool false)).setCell ⟨w.heap.size, 0, none⟩ (.int .i64 c)).setCell ⟨w.heap.size, 1, none⟩ (.int .i64 n)).setCell ⟨w.heap.size, 2, none⟩ (.int .i64 4)).setCell ⟨w.heap.size, 3, none⟩ (.int .i64 0)).setCell ⟨w.heap.size, 4, none⟩ (.string ⟨#[]⟩)).setCell ⟨w.heap.size, 5, none⟩ (.slice none 0 0)).setCell ⟨w.heap.size, 6, none⟩ (.int .i64 tc)).setCell ⟨w.heap.size, 7, none⟩ (.int .i64 tn)).setCell ⟨w.heap.size, 8, none⟩ (.bool false)) = w9 := ⟨_, rfl⟩
  rw [hw9] at hx9 hq8
  have r0 : w9.cell? ⟨w.heap.size, 0, none⟩ = some (.int .i64 c) := by rw [Lib.cell_of_heap hx9]; rfl
  have r1 : w9.cell? ⟨w.heap.size, 1, none⟩ = some (.int .i64 n) := by rw [Lib.cell_of_heap hx9]; rfl
  have r2 : w9.cell? ⟨w.heap.size, 2, none⟩ = some (.int .i64 4) := by rw [Lib.cell_of_heap hx9]; rfl
  have r3 : w9.cell? ⟨w.heap.size, 3, none⟩ = some (.int .i64 0) := by rw [Lib.cell_of_heap hx9]; rfl
  have r4 : w9.cell? ⟨w.heap.size, 4, none⟩ = some (.string ⟨#[]⟩) := by rw [Lib.cell_of_heap hx9]; rfl
  have r5 : w9.cell? ⟨w.heap.size, 5, none⟩ = some (.slice none 0 0) := by rw [Lib.cell_of_heap hx9]; rfl
  have r6 : w9.cell? ⟨w.heap.size, 6, none⟩ = some (.int .i64 tc) := by rw [Lib.cell_of_heap hx9]; rfl
  have r7 : w9.cell? ⟨w.heap.size, 7, none⟩ = some (.int .i64 tn) := by rw [Lib.cell_of_heap hx9]; rfl
  have r8 : w9.cell? ⟨w.heap.size, 8, none⟩ = some (.bool false) := by rw [Lib.cell_of_heap hx9]; rfl
  clear hq7 hq6 hq5 hq4 hq3 hq2 hq1 hq0 sx3 sx2 sx1 sx0 sB3 sB2 sB1 sB0
  go_wp2_with fail
  try rw [hw9]
  refine bodyPost_ret (v := .agg #[.int .i64 c, .int .i64 n, .int .i64 4, .int .i64 0, .string ⟨#[]⟩, .slice none 0 0, .int .i64 tc, .int .i64 tn, .bool false]) (by simp [results, Tryd.results21, go_sem, r0, r1, r2, r3, r4, r5, r6, r7, r8]) rfl ⟨none, 0, 0, rfl, rng_nil _, ownF_nil _ _, hq8⟩
theorem readLine_any (l : List UInt8) (hl : l.length ≤ 4294967296) (w : World) (he : Errs w) (hd : Deb w) :
    Calls Tryd.prog 21 #[.string (bs l)] w fun e w' => ∃ a m cap, e = .returned (opVal (readP l) (.slice a m cap)) ∧ Rng w' a m cap (readP l).l ∧ OwnF rangeV 2 60 w' w.heap.size (.slice a m cap) (readP l).l ∧ Below w.heap.size w w' := by
  by_cases h1 : (cut1 (cut1 l 32).2.1 32).1 = insW
  · exact readLine_ins l hl w he hd h1
  by_cases h2 : (cut1 (cut1 l 32).2.1 32).1 = hideW
  · exact readLine_hide l hl w he h2
  by_cases h3 : (cut1 (cut1 l 32).2.1 32).1 = showW
  · exact readLine_show l hl w he h3
  by_cases h4 : (cut1 (cut1 l 32).2.1 32).1 = onW
  · exact readLine_on l hl w he h4
  by_cases h5 : (cut1 (cut1 l 32).2.1 32).1 = offW
  · exact readLine_off l hl w he h5
  exact readLine_no l hl w he h1 h2 h3 h4 h5
end Go.Proofs.YtnbedohlgghhdaaDoor
