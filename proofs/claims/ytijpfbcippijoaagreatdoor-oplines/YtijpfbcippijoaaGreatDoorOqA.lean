import Derived.Test.YtijpfbcippijoaaGreatDoorQbBR
import Derived.Test.YtijpfbcippijoaaGreatDoorOpXZ
import Derived.Test.YtijpfbcippijoaaGreatDoorOpUW
namespace Go.Proofs.YtijpfbcippijoaaGreatDoor
open Go.RowKit Go.Lib Sp
set_option maxRecDepth 100000
def Taken (l : List UInt8) : Prop := ownP (readP l) = 0 ∧ printP (readP l) = l
theorem rdL_le : ∀ (f : Nat) (acc l : List UInt8) (n : Nat) (x : List UInt8) (m : Nat), rdL f acc l n = some (x, m) → m ≤ n + l.length ∧ x.length ≤ acc.length + 4 * l.length
  | 0, acc, l, n, x, m, h => by simp [rdL] at h
  | f + 1, acc, l, n, x, m, h => by
    rw [rdL] at h
    split at h
    · simp at h
    · rename_i h0
      have hl : 1 ≤ l.length := by
        cases l with
        | nil => exact absurd rfl h0
        | cons a t => simp
      split at h
      · simp only [Option.some.injEq, Prod.mk.injEq] at h
        obtain ⟨rfl, rfl⟩ := h
        omega
      · split at h
        · split at h
          · simp at h
          · have h1 := rdL_le f _ _ _ _ _ h
            have h2 := escL_len l
            rw [List.length_drop, List.length_append] at h1
            omega
        · have h1 := rdL_le f _ _ _ _ _ h
          rw [List.length_drop, List.length_append, List.length_singleton] at h1
          omega
theorem readL_le {l x : List UInt8} {n : Nat} (h : readL l = some (x, n)) : n ≤ l.length ∧ x.length ≤ 4 * l.length := by
  unfold readL at h
  split at h
  · rename_i h0
    have h1 := rdL_le _ _ _ _ _ _ h
    rw [List.length_drop] at h1
    have h2 := congrArg List.length h0
    rw [List.length_take, List.length_singleton] at h2
    rw [List.length_nil] at h1
    omega
  · simp at h
theorem unqL_len (l : List UInt8) : (unqL l).1.length ≤ 4 * l.length := by
  unfold unqL
  cases h : readL l with
  | none => simp
  | some p =>
    obtain ⟨x, n⟩ := p
    simp only
    split
    · exact (readL_le h).2
    · simp
theorem readP_size (l : List UInt8) : (readP l).s.size ≤ 4 * l.length := by
  unfold readP readW
  have h1 := (cut1_le l 32).2
  have h2 := (cut1_le (cut1 l 32).2.1 32).2
  split
  · have h3 := (cut1_le (cut1 (cut1 l 32).2.1 32).2.1 32).2
    have h4 := unqL_len (cut1 (cut1 (cut1 l 32).2.1 32).2.1 32).2.1
    simp only [bs_size]
    omega
  all_goals
    repeat' split
    all_goals exact Nat.zero_le _
set_option maxHeartbeats 2000000 in
theorem parse_yes (l : List UInt8) (hl : l.length ≤ 1048576) (hT : Taken l) (w : World) (hw : Bar w) (hp : Pow w) (hd : Deb w) (he : Errs w) :
    Calls Tryz.prog 44 #[.string (bs l)] w fun e w' => ∃ a m cap, e = .returned (.tuple #[opVal (readP l) (.slice a m cap), .int .i64 0]) ∧ Rng w' a m cap (readP l).l ∧ (∀ g off, a = some ⟨g, off, none⟩ → w.heap.size ≤ g) ∧ Below w.heap.size w w' := by
  have hsz := readP_size l
  have HL : Hid (∀ w' : World, Below w.heap.size w w' → Calls Tryz.prog 82 #[.string (bs l)] w' fun e w'' => ∃ a m cap, e = .returned (opVal (readP l) (.slice a m cap)) ∧ Rng w'' a m cap (readP l).l ∧ (∀ g off, a = some ⟨g, off, none⟩ → w'.heap.size ≤ g) ∧ Below w'.heap.size w' w'') := fun w' hb => readLine_any l (by omega) w' (he.below hb) (hd.below hb)
  have HP : Hid (∀ (w' : World) (a : Option Addr) (m cap : Nat), Below w.heap.size w w' → Rng w' a m cap (readP l).l → Calls Tryz.prog 20 #[opVal (readP l) (.slice a m cap)] w' fun e w'' => e = .returned (.tuple #[.string (bs l), .int .i64 0]) ∧ Below w'.heap.size w' w'') := fun w' a m cap hb hR => by
    have := print_right hR hT.1 (by omega) (hw.below hb) (hp.below hb) (hd.below hb)
    rw [hT.2] at this
    exact this
  clear hT hw hp hd he hsz hl
  generalize readP l = o at *
  generalize bs l = S at *
  obtain ⟨c, n, k, p, s, L, tc, tn, on⟩ := o
  simp only [opVal] at *
  have hw2 := (Below.refl w.heap.size w).alloc (Nat.le_refl _) (Obj.cells #[.int .i64 0, .int .i64 0, .int .i64 0, .int .i64 0, .string ⟨#[]⟩, .slice none 0 0, .int .i64 0, .int .i64 0, .bool false] 44)
  go_enter Tryz.func44, Tryz.ntmps44
  go_wp2_with fail
  refine (HL.out _ hw2).mono ?_
  rintro e w1 ⟨a, m, cap, rfl, hR, hAt, hb1⟩
  have hB1 := hw2.trans (hb1.mono hw2.size)
  have x1 := (hb1.block w.heap.size (by simp)).trans (alloc_last _ _ _ rfl)
  have hRb : Hid (∀ g off, a = some ⟨g, off, none⟩ → 0 < m → g ≠ w.heap.size) := fun g off ha _ => by have h1 := hAt g off ha; simp at h1; omega
  have HAt : Hid (∀ g off, a = some ⟨g, off, none⟩ → w.heap.size ≤ g) := fun g off ha => by have h1 := hAt g off ha; simp at h1; omega
  clear hw2 hb1 hAt
  go_wp2_with fail
  have hB2 := hB1.alloc hB1.size (Obj.cells #[.int .i64 c, .int .i64 n, .int .i64 k, .int .i64 p, .string s, .slice a m cap, .int .i64 tc, .int .i64 tn, .bool on] 44)
  have hR2 := hR.below ((Below.refl w1.heap.size w1).alloc (Nat.le_refl _) (Obj.cells #[.int .i64 c, .int .i64 n, .int .i64 k, .int .i64 p, .string s, .slice a m cap, .int .i64 tc, .int .i64 tn, .bool on] 44))
  have x2 := (Below.heap_alloc w1 (Obj.cells #[.int .i64 c, .int .i64 n, .int .i64 k, .int .i64 p, .string s, .slice a m cap, .int .i64 tc, .int .i64 tn, .bool on] 44) _ (Array.getElem?_eq_some_iff.1 x1).1).trans x1
  have y2 : (w1.alloc (Obj.cells #[.int .i64 c, .int .i64 n, .int .i64 k, .int .i64 p, .string s, .slice a m cap, .int .i64 tc, .int .i64 tn, .bool on] 44)).heap[w1.heap.size]? = some (Obj.cells #[.int .i64 c, .int .i64 n, .int .i64 k, .int .i64 p, .string s, .slice a m cap, .int .i64 tc, .int .i64 tn, .bool on] 44) := alloc_last _ _ _ rfl
  refine (HP.out _ _ _ _ hB2 hR2).mono ?_
  rintro e w3 ⟨rfl, hb3⟩
  have hB3 := hB2.trans (hb3.mono hB2.size)
  have hR3 := hR2.below hb3
  have x3 := (hb3.block _ (Array.getElem?_eq_some_iff.1 x2).1).trans x2
  have y3 := (hb3.block _ (Array.getElem?_eq_some_iff.1 y2).1).trans y2
  clear hb3 hB2 hR2 x2 y2 hB1 hR x1
  have f0 : w3.cell? ⟨w1.heap.size, 0, none⟩ = some (.int .i64 c) := by rw [Lib.cell_of_heap y3]; rfl
  have f1 : w3.cell? ⟨w1.heap.size, 1, none⟩ = some (.int .i64 n) := by rw [Lib.cell_of_heap y3]; rfl
  have f2 : w3.cell? ⟨w1.heap.size, 2, none⟩ = some (.int .i64 k) := by rw [Lib.cell_of_heap y3]; rfl
  have f3 : w3.cell? ⟨w1.heap.size, 3, none⟩ = some (.int .i64 p) := by rw [Lib.cell_of_heap y3]; rfl
  have f4 : w3.cell? ⟨w1.heap.size, 4, none⟩ = some (.string s) := by rw [Lib.cell_of_heap y3]; rfl
  have f5 : w3.cell? ⟨w1.heap.size, 5, none⟩ = some (.slice a m cap) := by rw [Lib.cell_of_heap y3]; rfl
  have f6 : w3.cell? ⟨w1.heap.size, 6, none⟩ = some (.int .i64 tc) := by rw [Lib.cell_of_heap y3]; rfl
  have f7 : w3.cell? ⟨w1.heap.size, 7, none⟩ = some (.int .i64 tn) := by rw [Lib.cell_of_heap y3]; rfl
  have f8 : w3.cell? ⟨w1.heap.size, 8, none⟩ = some (.bool on) := by rw [Lib.cell_of_heap y3]; rfl
  have d0 : w3.cell? ⟨w.heap.size, 0, none⟩ = some (.int .i64 0) := by rw [Lib.cell_of_heap x3]; rfl
  have z10 : w3.frozen? ⟨w.heap.size, 0, none⟩ = false := Lib.frozen_of_heap x3 0
  have d1 : w3.cell? ⟨w.heap.size, 1, none⟩ = some (.int .i64 0) := by rw [Lib.cell_of_heap x3]; rfl
  have z11 : w3.frozen? ⟨w.heap.size, 1, none⟩ = false := Lib.frozen_of_heap x3 1
  have d2 : w3.cell? ⟨w.heap.size, 2, none⟩ = some (.int .i64 0) := by rw [Lib.cell_of_heap x3]; rfl
  have z12 : w3.frozen? ⟨w.heap.size, 2, none⟩ = false := Lib.frozen_of_heap x3 2
  have d3 : w3.cell? ⟨w.heap.size, 3, none⟩ = some (.int .i64 0) := by rw [Lib.cell_of_heap x3]; rfl
  have z13 : w3.frozen? ⟨w.heap.size, 3, none⟩ = false := Lib.frozen_of_heap x3 3
  have d4 : w3.cell? ⟨w.heap.size, 4, none⟩ = some (.string ⟨#[]⟩) := by rw [Lib.cell_of_heap x3]; rfl
  have z14 : w3.frozen? ⟨w.heap.size, 4, none⟩ = false := Lib.frozen_of_heap x3 4
  have d5 : w3.cell? ⟨w.heap.size, 5, none⟩ = some (.slice none 0 0) := by rw [Lib.cell_of_heap x3]; rfl
  have z15 : w3.frozen? ⟨w.heap.size, 5, none⟩ = false := Lib.frozen_of_heap x3 5
  have d6 : w3.cell? ⟨w.heap.size, 6, none⟩ = some (.int .i64 0) := by rw [Lib.cell_of_heap x3]; rfl
  have z16 : w3.frozen? ⟨w.heap.size, 6, none⟩ = false := Lib.frozen_of_heap x3 6
  have d7 : w3.cell? ⟨w.heap.size, 7, none⟩ = some (.int .i64 0) := by rw [Lib.cell_of_heap x3]; rfl
  have z17 : w3.frozen? ⟨w.heap.size, 7, none⟩ = false := Lib.frozen_of_heap x3 7
  have d8 : w3.cell? ⟨w.heap.size, 8, none⟩ = some (.bool false) := by rw [Lib.cell_of_heap x3]; rfl
  have z18 : w3.frozen? ⟨w.heap.size, 8, none⟩ = false := Lib.frozen_of_heap x3 8
  have hx9 := set9g (v0 := .int .i64 c) (v1 := .int .i64 n) (v2 := .int .i64 k) (v3 := .int .i64 p) (v4 := .string s) (v5 := .slice a m cap) (v6 := .int .i64 tc) (v7 := .int .i64 tn) (v8 := .bool on) x3
  have hq0 := hB3.setCell (p := ⟨w.heap.size, 0, none⟩) (Nat.le_refl _) (.int .i64 c)
  have hq1 := hq0.setCell (p := ⟨w.heap.size, 1, none⟩) (Nat.le_refl _) (.int .i64 n)
  have hq2 := hq1.setCell (p := ⟨w.heap.size, 2, none⟩) (Nat.le_refl _) (.int .i64 k)
  have hq3 := hq2.setCell (p := ⟨w.heap.size, 3, none⟩) (Nat.le_refl _) (.int .i64 p)
  have hq4 := hq3.setCell (p := ⟨w.heap.size, 4, none⟩) (Nat.le_refl _) (.string s)
  have hq5 := hq4.setCell (p := ⟨w.heap.size, 5, none⟩) (Nat.le_refl _) (.slice a m cap)
  have hq6 := hq5.setCell (p := ⟨w.heap.size, 6, none⟩) (Nat.le_refl _) (.int .i64 tc)
  have hq7 := hq6.setCell (p := ⟨w.heap.size, 7, none⟩) (Nat.le_refl _) (.int .i64 tn)
  have hq8 := hq7.setCell (p := ⟨w.heap.size, 8, none⟩) (Nat.le_refl _) (.bool on)
  obtain ⟨w9, hw9⟩ : ∃ w9, (((((((((w3.setCell ⟨w.heap.size, 0, none⟩ (.int .i64 c)).setCell ⟨w.heap.size, 1, none⟩ (.int .i64 n)).setCell ⟨w.heap.size, 2, none⟩ (.int .i64 k)).setCell ⟨w.heap.size, 3, none⟩ (.int .i64 p)).setCell ⟨w.heap.size, 4, none⟩ (.string s)).setCell ⟨w.heap.size, 5, none⟩ (.slice a m cap)).setCell ⟨w.heap.size, 6, none⟩ (.int .i64 tc)).setCell ⟨w.heap.size, 7, none⟩ (.int .i64 tn)).setCell ⟨w.heap.size, 8, none⟩ (.bool on)) = w9 := ⟨_, rfl⟩
  have hRg : Rng w9 a m cap L := by
    rw [← hw9]
    refine rng_set ?_ _ _ _ hRb.out
    refine rng_set ?_ _ _ _ hRb.out
    refine rng_set ?_ _ _ _ hRb.out
    refine rng_set ?_ _ _ _ hRb.out
    refine rng_set ?_ _ _ _ hRb.out
    refine rng_set ?_ _ _ _ hRb.out
    refine rng_set ?_ _ _ _ hRb.out
    refine rng_set ?_ _ _ _ hRb.out
    refine rng_set ?_ _ _ _ hRb.out
    exact hR3
  rw [hw9] at hx9 hq8
  have r0 : w9.cell? ⟨w.heap.size, 0, none⟩ = some (.int .i64 c) := by rw [Lib.cell_of_heap hx9]; rfl
  have r1 : w9.cell? ⟨w.heap.size, 1, none⟩ = some (.int .i64 n) := by rw [Lib.cell_of_heap hx9]; rfl
  have r2 : w9.cell? ⟨w.heap.size, 2, none⟩ = some (.int .i64 k) := by rw [Lib.cell_of_heap hx9]; rfl
  have r3 : w9.cell? ⟨w.heap.size, 3, none⟩ = some (.int .i64 p) := by rw [Lib.cell_of_heap hx9]; rfl
  have r4 : w9.cell? ⟨w.heap.size, 4, none⟩ = some (.string s) := by rw [Lib.cell_of_heap hx9]; rfl
  have r5 : w9.cell? ⟨w.heap.size, 5, none⟩ = some (.slice a m cap) := by rw [Lib.cell_of_heap hx9]; rfl
  have r6 : w9.cell? ⟨w.heap.size, 6, none⟩ = some (.int .i64 tc) := by rw [Lib.cell_of_heap hx9]; rfl
  have r7 : w9.cell? ⟨w.heap.size, 7, none⟩ = some (.int .i64 tn) := by rw [Lib.cell_of_heap hx9]; rfl
  have r8 : w9.cell? ⟨w.heap.size, 8, none⟩ = some (.bool on) := by rw [Lib.cell_of_heap hx9]; rfl
  clear hq7 hq6 hq5 hq4 hq3 hq2 hq1 hq0 x3 y3 hR3 hB3
  go_wp2_with fail
  try rw [hw9]
  refine bodyPost_ret (v := .tuple #[.agg #[.int .i64 c, .int .i64 n, .int .i64 k, .int .i64 p, .string s, .slice a m cap, .int .i64 tc, .int .i64 tn, .bool on], .int .i64 0]) (by simp [results, Tryz.results44, go_sem, r0, r1, r2, r3, r4, r5, r6, r7, r8]) rfl ⟨a, m, cap, rfl, hRg, HAt.out, hq8⟩
end Go.Proofs.YtijpfbcippijoaaGreatDoor
