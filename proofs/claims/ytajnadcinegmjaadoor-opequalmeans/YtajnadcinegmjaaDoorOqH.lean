import Derived.Test.YtajnadcinegmjaaDoorOqG
namespace Go.Proofs.YtajnadcinegmjaaDoor
open Go.RowKit Go.Lib Sp
set_option maxRecDepth 100000

set_option maxHeartbeats 4000000 in
theorem right_hide {dk dp : Int} {ta pa : Option Addr} {tn_ tcap pn pcap : Nat} {zs : List Int} {w : World} (hPt : Rw int1 1 w pa pn pcap zs) (t : Nat) (ht0 : 0 < t) (ht : t ≤ 30000) (k : Int) (hk : dk % 3 = 1) (hpn : 0 < pn) :
    Calls Tryd.prog 5 #[deedV dk dp (.slice ta tn_ tcap) (.slice pa pn pcap), .int .i64 (t : Int), .int .i64 k] w fun e w' => ∃ a m cap l, e = .returned (opVal ⟨1 + k % 8, 1, 2, 0, ⟨#[]⟩, l, 0, 0, false⟩ (.slice a m cap)) ∧ Rng w' a m cap l ∧ (∀ g off, a = some ⟨g, off, none⟩ → w.heap.size ≤ g) ∧ Sp.Norm (-1) l ∧ (∀ r ∈ l, r.2 ≤ (t : Int)) ∧ l ≠ [] ∧ l.length ≤ t ∧ Below w.heap.size w w' := by
  have b0 := Int.emod_nonneg k (show (8 : Int) ≠ 0 by decide)
  have b1 := Int.emod_lt_of_pos k (show (0 : Int) < 8 by decide)
  have H1 : Hid (∀ w : World, Calls Tryd.prog 4 #[.int .i64 k, .int .i64 8] w fun e w' => e = .returned (.int .i64 (k % 8)) ∧ w' = w) := pick_any k 8 (by decide) (by decide)
  have H2 : Hid (∀ w : World, Calls Tryd.prog 4 #[.int .i64 dk, .int .i64 3] w fun e w' => e = .returned (.int .i64 1) ∧ w' = w) := hk ▸ pick_any dk 3 (by decide) (by decide)
  have HL : Hid (∀ w' : World, Below w.heap.size w w' → Calls Tryd.prog 10 #[.slice pa pn pcap, .int .i64 (t : Int)] w' fun e w'' => ∃ v l, e = .returned v ∧ OwnF rangeV 2 42 w'' w'.heap.size v l ∧ Sp.Norm (-1) l ∧ (∀ r ∈ l, r.2 ≤ (t : Int)) ∧ (0 < pn → l ≠ []) ∧ l.length ≤ t ∧ Below w'.heap.size w' w'') := fun w' hb => chosenP_any (hPt.below hb) ht0 (by omega)
  have t3 : ((t : Int) == 0) = false := beq_eq_false_iff_ne.2 (by omega)
  have t5 : ((pn : Int) == 0) = false := beq_eq_false_iff_ne.2 (by omega)
  have HPN : Hid (0 < pn) := hpn
  clear hPt hk hpn ht0
  generalize k % 8 = kk at *
  simp only [deedV, opVal]
  go_enter Tryd.func5, Tryd.ntmps5
  go_wp2_with fail
  refine (H1.out _).mono ?_
  rintro e w1 ⟨rfl, hw1⟩
  subst hw1
  go_wp2_with fail
  refine (H2.out _).mono ?_
  rintro e w1 ⟨rfl, hw1⟩
  subst hw1
  go_wp2_with fail
  have hX : Below w.heap.size w (((w.alloc (Obj.cells #[.int .i64 dk, .int .i64 dp, .slice ta tn_ tcap, .slice pa pn pcap] 25)).alloc (Obj.cells #[.int .i64 0, .int .i64 0, .int .i64 0, .int .i64 0, .string ⟨#[]⟩, .slice none 0 0, .int .i64 0, .int .i64 0, .bool false] 34)).alloc (Obj.cells #[.int .i64 (1 + kk), .int .i64 1, .int .i64 2, .int .i64 0, .string ⟨#[]⟩, .slice none 0 0, .int .i64 0, .int .i64 0, .bool false] 34)) := (((Below.refl w.heap.size w).alloc (Nat.le_refl _) _).alloc (by simp) _).alloc (by simp; omega) _
  have x0 : (((w.alloc (Obj.cells #[.int .i64 dk, .int .i64 dp, .slice ta tn_ tcap, .slice pa pn pcap] 25)).alloc (Obj.cells #[.int .i64 0, .int .i64 0, .int .i64 0, .int .i64 0, .string ⟨#[]⟩, .slice none 0 0, .int .i64 0, .int .i64 0, .bool false] 34)).alloc (Obj.cells #[.int .i64 (1 + kk), .int .i64 1, .int .i64 2, .int .i64 0, .string ⟨#[]⟩, .slice none 0 0, .int .i64 0, .int .i64 0, .bool false] 34)).heap[w.heap.size + 1]? = some (Obj.cells #[.int .i64 0, .int .i64 0, .int .i64 0, .int .i64 0, .string ⟨#[]⟩, .slice none 0 0, .int .i64 0, .int .i64 0, .bool false] 34) := (Below.heap_alloc _ _ _ (by simp)).trans (alloc_last _ _ _ (by simp))
  have y0 : (((w.alloc (Obj.cells #[.int .i64 dk, .int .i64 dp, .slice ta tn_ tcap, .slice pa pn pcap] 25)).alloc (Obj.cells #[.int .i64 0, .int .i64 0, .int .i64 0, .int .i64 0, .string ⟨#[]⟩, .slice none 0 0, .int .i64 0, .int .i64 0, .bool false] 34)).alloc (Obj.cells #[.int .i64 (1 + kk), .int .i64 1, .int .i64 2, .int .i64 0, .string ⟨#[]⟩, .slice none 0 0, .int .i64 0, .int .i64 0, .bool false] 34)).heap[w.heap.size + 1 + 1]? = some (Obj.cells #[.int .i64 (1 + kk), .int .i64 1, .int .i64 2, .int .i64 0, .string ⟨#[]⟩, .slice none 0 0, .int .i64 0, .int .i64 0, .bool false] 34) := alloc_last _ _ _ (by simp)
  have hXs : (((w.alloc (Obj.cells #[.int .i64 dk, .int .i64 dp, .slice ta tn_ tcap, .slice pa pn pcap] 25)).alloc (Obj.cells #[.int .i64 0, .int .i64 0, .int .i64 0, .int .i64 0, .string ⟨#[]⟩, .slice none 0 0, .int .i64 0, .int .i64 0, .bool false] 34)).alloc (Obj.cells #[.int .i64 (1 + kk), .int .i64 1, .int .i64 2, .int .i64 0, .string ⟨#[]⟩, .slice none 0 0, .int .i64 0, .int .i64 0, .bool false] 34)).heap.size = w.heap.size + 3 := by simp
  refine (HL.out _ hX).mono ?_
  rintro e w1 ⟨v, l, rfl, hown, hno, htop, hne, hle, hb1⟩
  have hB1 := hX.trans (hb1.mono hX.size)
  have x1 := (hb1.block _ (Array.getElem?_eq_some_iff.1 x0).1).trans x0
  have y1 := (hb1.block _ (Array.getElem?_eq_some_iff.1 y0).1).trans y0
  obtain ⟨va, vc, rfl⟩ := hown.shape
  have HR1 : Hid (Rng w1 va l.length vc l) := rng_of_rw (hown.rw_ layG)
  have HAt : Hid (∀ g off, va = some ⟨g, off, none⟩ → w.heap.size + 3 ≤ g) := fun g off ha => by have := ownF_at hown g off ha; rw [hXs] at this; exact this
  have HRb : Hid (∀ g off, va = some ⟨g, off, none⟩ → 0 < l.length → g ≠ w.heap.size + 1) := fun g off ha _ => by have := HAt.out g off ha; omega
  have HRc : Hid (∀ g off, va = some ⟨g, off, none⟩ → 0 < l.length → g ≠ w.heap.size + 1 + 1) := fun g off ha _ => by have := HAt.out g off ha; omega
  have HN : Hid (Sp.Norm (-1) l ∧ (∀ r ∈ l, r.2 ≤ (t : Int)) ∧ l ≠ []) := ⟨hno, htop, hne HPN.out⟩
  clear hX x0 y0 hb1 hown hno htop hne hXs
  have f0 : w1.cell? ⟨w.heap.size + 1 + 1, 0, none⟩ = some (.int .i64 (1 + kk)) := by rw [Lib.cell_of_heap y1]; rfl
  have f1 : w1.cell? ⟨w.heap.size + 1 + 1, 1, none⟩ = some (.int .i64 1) := by rw [Lib.cell_of_heap y1]; rfl
  have f2 : w1.cell? ⟨w.heap.size + 1 + 1, 2, none⟩ = some (.int .i64 2) := by rw [Lib.cell_of_heap y1]; rfl
  have f3 : w1.cell? ⟨w.heap.size + 1 + 1, 3, none⟩ = some (.int .i64 0) := by rw [Lib.cell_of_heap y1]; rfl
  have f4 : w1.cell? ⟨w.heap.size + 1 + 1, 4, none⟩ = some (.string ⟨#[]⟩) := by rw [Lib.cell_of_heap y1]; rfl
  have f5 : w1.cell? ⟨w.heap.size + 1 + 1, 5, none⟩ = some (.slice none 0 0) := by rw [Lib.cell_of_heap y1]; rfl
  have f6 : w1.cell? ⟨w.heap.size + 1 + 1, 6, none⟩ = some (.int .i64 0) := by rw [Lib.cell_of_heap y1]; rfl
  have f7 : w1.cell? ⟨w.heap.size + 1 + 1, 7, none⟩ = some (.int .i64 0) := by rw [Lib.cell_of_heap y1]; rfl
  have f8 : w1.cell? ⟨w.heap.size + 1 + 1, 8, none⟩ = some (.bool false) := by rw [Lib.cell_of_heap y1]; rfl
  have z5 : w1.frozen? ⟨w.heap.size + 1 + 1, 5, none⟩ = false := Lib.frozen_of_heap y1 5
  have d0_ : w1.cell? ⟨w.heap.size + 1, 0, none⟩ = some (.int .i64 0) := by rw [Lib.cell_of_heap x1]; rfl
  have z10 : w1.frozen? ⟨w.heap.size + 1, 0, none⟩ = false := Lib.frozen_of_heap x1 0
  have d1_ : w1.cell? ⟨w.heap.size + 1, 1, none⟩ = some (.int .i64 0) := by rw [Lib.cell_of_heap x1]; rfl
  have z11 : w1.frozen? ⟨w.heap.size + 1, 1, none⟩ = false := Lib.frozen_of_heap x1 1
  have d2_ : w1.cell? ⟨w.heap.size + 1, 2, none⟩ = some (.int .i64 0) := by rw [Lib.cell_of_heap x1]; rfl
  have z12 : w1.frozen? ⟨w.heap.size + 1, 2, none⟩ = false := Lib.frozen_of_heap x1 2
  have d3_ : w1.cell? ⟨w.heap.size + 1, 3, none⟩ = some (.int .i64 0) := by rw [Lib.cell_of_heap x1]; rfl
  have z13 : w1.frozen? ⟨w.heap.size + 1, 3, none⟩ = false := Lib.frozen_of_heap x1 3
  have d4_ : w1.cell? ⟨w.heap.size + 1, 4, none⟩ = some (.string ⟨#[]⟩) := by rw [Lib.cell_of_heap x1]; rfl
  have z14 : w1.frozen? ⟨w.heap.size + 1, 4, none⟩ = false := Lib.frozen_of_heap x1 4
  have d5_ : w1.cell? ⟨w.heap.size + 1, 5, none⟩ = some (.slice none 0 0) := by rw [Lib.cell_of_heap x1]; rfl
  have z15 : w1.frozen? ⟨w.heap.size + 1, 5, none⟩ = false := Lib.frozen_of_heap x1 5
  have d6_ : w1.cell? ⟨w.heap.size + 1, 6, none⟩ = some (.int .i64 0) := by rw [Lib.cell_of_heap x1]; rfl
  have z16 : w1.frozen? ⟨w.heap.size + 1, 6, none⟩ = false := Lib.frozen_of_heap x1 6
  have d7_ : w1.cell? ⟨w.heap.size + 1, 7, none⟩ = some (.int .i64 0) := by rw [Lib.cell_of_heap x1]; rfl
  have z17 : w1.frozen? ⟨w.heap.size + 1, 7, none⟩ = false := Lib.frozen_of_heap x1 7
  have d8_ : w1.cell? ⟨w.heap.size + 1, 8, none⟩ = some (.bool false) := by rw [Lib.cell_of_heap x1]; rfl
  have z18 : w1.frozen? ⟨w.heap.size + 1, 8, none⟩ = false := Lib.frozen_of_heap x1 8
  have sx : (w1.setCell ⟨w.heap.size + 1 + 1, 5, none⟩ (.slice va l.length vc)).heap[w.heap.size + 1]? = some (Obj.cells #[.int .i64 0, .int .i64 0, .int .i64 0, .int .i64 0, .string ⟨#[]⟩, .slice none 0 0, .int .i64 0, .int .i64 0, .bool false] 34) := (Below.heap_setCell _ _ _ _ (by simp)).trans x1
  have sB := hB1.setCell (p := ⟨w.heap.size + 1 + 1, 5, none⟩) (by simp only; omega) (.slice va l.length vc)
  have hx9 := set9g (v0 := .int .i64 (1 + kk)) (v1 := .int .i64 1) (v2 := .int .i64 2) (v3 := .int .i64 0) (v4 := .string ⟨#[]⟩) (v5 := .slice va l.length vc) (v6 := .int .i64 0) (v7 := .int .i64 0) (v8 := .bool false) sx
  have hq0 := sB.setCell (p := ⟨w.heap.size + 1, 0, none⟩) (by simp only; omega) (.int .i64 (1 + kk))
  have hq1 := hq0.setCell (p := ⟨w.heap.size + 1, 1, none⟩) (by simp only; omega) (.int .i64 1)
  have hq2 := hq1.setCell (p := ⟨w.heap.size + 1, 2, none⟩) (by simp only; omega) (.int .i64 2)
  have hq3 := hq2.setCell (p := ⟨w.heap.size + 1, 3, none⟩) (by simp only; omega) (.int .i64 0)
  have hq4 := hq3.setCell (p := ⟨w.heap.size + 1, 4, none⟩) (by simp only; omega) (.string ⟨#[]⟩)
  have hq5 := hq4.setCell (p := ⟨w.heap.size + 1, 5, none⟩) (by simp only; omega) (.slice va l.length vc)
  have hq6 := hq5.setCell (p := ⟨w.heap.size + 1, 6, none⟩) (by simp only; omega) (.int .i64 0)
  have hq7 := hq6.setCell (p := ⟨w.heap.size + 1, 7, none⟩) (by simp only; omega) (.int .i64 0)
  have hq8 := hq7.setCell (p := ⟨w.heap.size + 1, 8, none⟩) (by simp only; omega) (.bool false)
  obtain ⟨w9, hw9⟩ : ∃ w9, ((((((((((w1.setCell ⟨w.heap.size + 1 + 1, 5, none⟩ (.slice va l.length vc)).setCell ⟨w.heap.size + 1, 0, none⟩ (.int .i64 (1 + kk))).setCell ⟨w.heap.size + 1, 1, none⟩ (.int .i64 1)).setCell ⟨w.heap.size + 1, 2, none⟩ (.int .i64 2)).setCell ⟨w.heap.size + 1, 3, none⟩ (.int .i64 0)).setCell ⟨w.heap.size + 1, 4, none⟩ (.string ⟨#[]⟩)).setCell ⟨w.heap.size + 1, 5, none⟩ (.slice va l.length vc)).setCell ⟨w.heap.size + 1, 6, none⟩ (.int .i64 0)).setCell ⟨w.heap.size + 1, 7, none⟩ (.int .i64 0)).setCell ⟨w.heap.size + 1, 8, none⟩ (.bool false)) = w9 := ⟨_, rfl⟩
  have HRg : Hid (Rng w9 va l.length vc l) := by
    show Rng _ _ _ _ _
    rw [← hw9]
    refine rng_set ?_ _ _ _ HRb.out
    refine rng_set ?_ _ _ _ HRb.out
    refine rng_set ?_ _ _ _ HRb.out
    refine rng_set ?_ _ _ _ HRb.out
    refine rng_set ?_ _ _ _ HRb.out
    refine rng_set ?_ _ _ _ HRb.out
    refine rng_set ?_ _ _ _ HRb.out
    refine rng_set ?_ _ _ _ HRb.out
    refine rng_set ?_ _ _ _ HRb.out
    refine rng_set ?_ _ _ _ HRc.out
    exact HR1.out
  rw [hw9] at hx9 hq8
  have r0 : w9.cell? ⟨w.heap.size + 1, 0, none⟩ = some (.int .i64 (1 + kk)) := by rw [Lib.cell_of_heap hx9]; rfl
  have r1 : w9.cell? ⟨w.heap.size + 1, 1, none⟩ = some (.int .i64 1) := by rw [Lib.cell_of_heap hx9]; rfl
  have r2 : w9.cell? ⟨w.heap.size + 1, 2, none⟩ = some (.int .i64 2) := by rw [Lib.cell_of_heap hx9]; rfl
  have r3 : w9.cell? ⟨w.heap.size + 1, 3, none⟩ = some (.int .i64 0) := by rw [Lib.cell_of_heap hx9]; rfl
  have r4 : w9.cell? ⟨w.heap.size + 1, 4, none⟩ = some (.string ⟨#[]⟩) := by rw [Lib.cell_of_heap hx9]; rfl
  have r5 : w9.cell? ⟨w.heap.size + 1, 5, none⟩ = some (.slice va l.length vc) := by rw [Lib.cell_of_heap hx9]; rfl
  have r6 : w9.cell? ⟨w.heap.size + 1, 6, none⟩ = some (.int .i64 0) := by rw [Lib.cell_of_heap hx9]; rfl
  have r7 : w9.cell? ⟨w.heap.size + 1, 7, none⟩ = some (.int .i64 0) := by rw [Lib.cell_of_heap hx9]; rfl
  have r8 : w9.cell? ⟨w.heap.size + 1, 8, none⟩ = some (.bool false) := by rw [Lib.cell_of_heap hx9]; rfl
  clear hq7 hq6 hq5 hq4 hq3 hq2 hq1 hq0 sx sB
  go_wp2_with fail
  try rw [hw9]
  refine bodyPost_ret (v := .agg #[.int .i64 (1 + kk), .int .i64 1, .int .i64 2, .int .i64 0, .string ⟨#[]⟩, .slice va l.length vc, .int .i64 0, .int .i64 0, .bool false]) (by simp [results, Tryd.results5, go_sem, r0, r1, r2, r3, r4, r5, r6, r7, r8]) rfl ⟨va, l.length, vc, l, rfl, HRg.out, (fun g off ha => by have := HAt.out g off ha; omega), HN.out.1, HN.out.2.1, HN.out.2.2, hle, hq8⟩

set_option maxHeartbeats 4000000 in
theorem right_show {dk dp : Int} {ta pa : Option Addr} {tn_ tcap pn pcap : Nat} {zs : List Int} {w : World} (hPt : Rw int1 1 w pa pn pcap zs) (t : Nat) (ht0 : 0 < t) (ht : t ≤ 30000) (k : Int) (hk : dk % 3 = 2) (hpn : 0 < pn) :
    Calls Tryd.prog 5 #[deedV dk dp (.slice ta tn_ tcap) (.slice pa pn pcap), .int .i64 (t : Int), .int .i64 k] w fun e w' => ∃ a m cap l, e = .returned (opVal ⟨1 + k % 8, 1, 3, 0, ⟨#[]⟩, l, 0, 0, false⟩ (.slice a m cap)) ∧ Rng w' a m cap l ∧ (∀ g off, a = some ⟨g, off, none⟩ → w.heap.size ≤ g) ∧ Sp.Norm (-1) l ∧ (∀ r ∈ l, r.2 ≤ (t : Int)) ∧ l ≠ [] ∧ l.length ≤ t ∧ Below w.heap.size w w' := by
  have b0 := Int.emod_nonneg k (show (8 : Int) ≠ 0 by decide)
  have b1 := Int.emod_lt_of_pos k (show (0 : Int) < 8 by decide)
  have H1 : Hid (∀ w : World, Calls Tryd.prog 4 #[.int .i64 k, .int .i64 8] w fun e w' => e = .returned (.int .i64 (k % 8)) ∧ w' = w) := pick_any k 8 (by decide) (by decide)
  have H2 : Hid (∀ w : World, Calls Tryd.prog 4 #[.int .i64 dk, .int .i64 3] w fun e w' => e = .returned (.int .i64 2) ∧ w' = w) := hk ▸ pick_any dk 3 (by decide) (by decide)
  have HL : Hid (∀ w' : World, Below w.heap.size w w' → Calls Tryd.prog 10 #[.slice pa pn pcap, .int .i64 (t : Int)] w' fun e w'' => ∃ v l, e = .returned v ∧ OwnF rangeV 2 42 w'' w'.heap.size v l ∧ Sp.Norm (-1) l ∧ (∀ r ∈ l, r.2 ≤ (t : Int)) ∧ (0 < pn → l ≠ []) ∧ l.length ≤ t ∧ Below w'.heap.size w' w'') := fun w' hb => chosenP_any (hPt.below hb) ht0 (by omega)
  have t3 : ((t : Int) == 0) = false := beq_eq_false_iff_ne.2 (by omega)
  have t5 : ((pn : Int) == 0) = false := beq_eq_false_iff_ne.2 (by omega)
  have HPN : Hid (0 < pn) := hpn
  clear hPt hk hpn ht0
  generalize k % 8 = kk at *
  simp only [deedV, opVal]
  go_enter Tryd.func5, Tryd.ntmps5
  go_wp2_with fail
  refine (H1.out _).mono ?_
  rintro e w1 ⟨rfl, hw1⟩
  subst hw1
  go_wp2_with fail
  refine (H2.out _).mono ?_
  rintro e w1 ⟨rfl, hw1⟩
  subst hw1
  go_wp2_with fail
  have hX : Below w.heap.size w (((w.alloc (Obj.cells #[.int .i64 dk, .int .i64 dp, .slice ta tn_ tcap, .slice pa pn pcap] 25)).alloc (Obj.cells #[.int .i64 0, .int .i64 0, .int .i64 0, .int .i64 0, .string ⟨#[]⟩, .slice none 0 0, .int .i64 0, .int .i64 0, .bool false] 34)).alloc (Obj.cells #[.int .i64 (1 + kk), .int .i64 1, .int .i64 3, .int .i64 0, .string ⟨#[]⟩, .slice none 0 0, .int .i64 0, .int .i64 0, .bool false] 34)) := (((Below.refl w.heap.size w).alloc (Nat.le_refl _) _).alloc (by simp) _).alloc (by simp; omega) _
  have x0 : (((w.alloc (Obj.cells #[.int .i64 dk, .int .i64 dp, .slice ta tn_ tcap, .slice pa pn pcap] 25)).alloc (Obj.cells #[.int .i64 0, .int .i64 0, .int .i64 0, .int .i64 0, .string ⟨#[]⟩, .slice none 0 0, .int .i64 0, .int .i64 0, .bool false] 34)).alloc (Obj.cells #[.int .i64 (1 + kk), .int .i64 1, .int .i64 3, .int .i64 0, .string ⟨#[]⟩, .slice none 0 0, .int .i64 0, .int .i64 0, .bool false] 34)).heap[w.heap.size + 1]? = some (Obj.cells #[.int .i64 0, .int .i64 0, .int .i64 0, .int .i64 0, .string ⟨#[]⟩, .slice none 0 0, .int .i64 0, .int .i64 0, .bool false] 34) := (Below.heap_alloc _ _ _ (by simp)).trans (alloc_last _ _ _ (by simp))
  have y0 : (((w.alloc (Obj.cells #[.int .i64 dk, .int .i64 dp, .slice ta tn_ tcap, .slice pa pn pcap] 25)).alloc (Obj.cells #[.int .i64 0, .int .i64 0, .int .i64 0, .int .i64 0, .string ⟨#[]⟩, .slice none 0 0, .int .i64 0, .int .i64 0, .bool false] 34)).alloc (Obj.cells #[.int .i64 (1 + kk), .int .i64 1, .int .i64 3, .int .i64 0, .string ⟨#[]⟩, .slice none 0 0, .int .i64 0, .int .i64 0, .bool false] 34)).heap[w.heap.size + 1 + 1]? = some (Obj.cells #[.int .i64 (1 + kk), .int .i64 1, .int .i64 3, .int .i64 0, .string ⟨#[]⟩, .slice none 0 0, .int .i64 0, .int .i64 0, .bool false] 34) := alloc_last _ _ _ (by simp)
  have hXs : (((w.alloc (Obj.cells #[.int .i64 dk, .int .i64 dp, .slice ta tn_ tcap, .slice pa pn pcap] 25)).alloc (Obj.cells #[.int .i64 0, .int .i64 0, .int .i64 0, .int .i64 0, .string ⟨#[]⟩, .slice none 0 0, .int .i64 0, .int .i64 0, .bool false] 34)).alloc (Obj.cells #[.int .i64 (1 + kk), .int .i64 1, .int .i64 3, .int .i64 0, .string ⟨#[]⟩, .slice none 0 0, .int .i64 0, .int .i64 0, .bool false] 34)).heap.size = w.heap.size + 3 := by simp
  refine (HL.out _ hX).mono ?_
  rintro e w1 ⟨v, l, rfl, hown, hno, htop, hne, hle, hb1⟩
  have hB1 := hX.trans (hb1.mono hX.size)
  have x1 := (hb1.block _ (Array.getElem?_eq_some_iff.1 x0).1).trans x0
  have y1 := (hb1.block _ (Array.getElem?_eq_some_iff.1 y0).1).trans y0
  obtain ⟨va, vc, rfl⟩ := hown.shape
  have HR1 : Hid (Rng w1 va l.length vc l) := rng_of_rw (hown.rw_ layG)
  have HAt : Hid (∀ g off, va = some ⟨g, off, none⟩ → w.heap.size + 3 ≤ g) := fun g off ha => by have := ownF_at hown g off ha; rw [hXs] at this; exact this
  have HRb : Hid (∀ g off, va = some ⟨g, off, none⟩ → 0 < l.length → g ≠ w.heap.size + 1) := fun g off ha _ => by have := HAt.out g off ha; omega
  have HRc : Hid (∀ g off, va = some ⟨g, off, none⟩ → 0 < l.length → g ≠ w.heap.size + 1 + 1) := fun g off ha _ => by have := HAt.out g off ha; omega
  have HN : Hid (Sp.Norm (-1) l ∧ (∀ r ∈ l, r.2 ≤ (t : Int)) ∧ l ≠ []) := ⟨hno, htop, hne HPN.out⟩
  clear hX x0 y0 hb1 hown hno htop hne hXs
  have f0 : w1.cell? ⟨w.heap.size + 1 + 1, 0, none⟩ = some (.int .i64 (1 + kk)) := by rw [Lib.cell_of_heap y1]; rfl
  have f1 : w1.cell? ⟨w.heap.size + 1 + 1, 1, none⟩ = some (.int .i64 1) := by rw [Lib.cell_of_heap y1]; rfl
  have f2 : w1.cell? ⟨w.heap.size + 1 + 1, 2, none⟩ = some (.int .i64 3) := by rw [Lib.cell_of_heap y1]; rfl
  have f3 : w1.cell? ⟨w.heap.size + 1 + 1, 3, none⟩ = some (.int .i64 0) := by rw [Lib.cell_of_heap y1]; rfl
  have f4 : w1.cell? ⟨w.heap.size + 1 + 1, 4, none⟩ = some (.string ⟨#[]⟩) := by rw [Lib.cell_of_heap y1]; rfl
  have f5 : w1.cell? ⟨w.heap.size + 1 + 1, 5, none⟩ = some (.slice none 0 0) := by rw [Lib.cell_of_heap y1]; rfl
  have f6 : w1.cell? ⟨w.heap.size + 1 + 1, 6, none⟩ = some (.int .i64 0) := by rw [Lib.cell_of_heap y1]; rfl
  have f7 : w1.cell? ⟨w.heap.size + 1 + 1, 7, none⟩ = some (.int .i64 0) := by rw [Lib.cell_of_heap y1]; rfl
  have f8 : w1.cell? ⟨w.heap.size + 1 + 1, 8, none⟩ = some (.bool false) := by rw [Lib.cell_of_heap y1]; rfl
  have z5 : w1.frozen? ⟨w.heap.size + 1 + 1, 5, none⟩ = false := Lib.frozen_of_heap y1 5
  have d0_ : w1.cell? ⟨w.heap.size + 1, 0, none⟩ = some (.int .i64 0) := by rw [Lib.cell_of_heap x1]; rfl
  have z10 : w1.frozen? ⟨w.heap.size + 1, 0, none⟩ = false := Lib.frozen_of_heap x1 0
  have d1_ : w1.cell? ⟨w.heap.size + 1, 1, none⟩ = some (.int .i64 0) := by rw [Lib.cell_of_heap x1]; rfl
  have z11 : w1.frozen? ⟨w.heap.size + 1, 1, none⟩ = false := Lib.frozen_of_heap x1 1
  have d2_ : w1.cell? ⟨w.heap.size + 1, 2, none⟩ = some (.int .i64 0) := by rw [Lib.cell_of_heap x1]; rfl
  have z12 : w1.frozen? ⟨w.heap.size + 1, 2, none⟩ = false := Lib.frozen_of_heap x1 2
  have d3_ : w1.cell? ⟨w.heap.size + 1, 3, none⟩ = some (.int .i64 0) := by rw [Lib.cell_of_heap x1]; rfl
  have z13 : w1.frozen? ⟨w.heap.size + 1, 3, none⟩ = false := Lib.frozen_of_heap x1 3
  have d4_ : w1.cell? ⟨w.heap.size + 1, 4, none⟩ = some (.string ⟨#[]⟩) := by rw [Lib.cell_of_heap x1]; rfl
  have z14 : w1.frozen? ⟨w.heap.size + 1, 4, none⟩ = false := Lib.frozen_of_heap x1 4
  have d5_ : w1.cell? ⟨w.heap.size + 1, 5, none⟩ = some (.slice none 0 0) := by rw [Lib.cell_of_heap x1]; rfl
  have z15 : w1.frozen? ⟨w.heap.size + 1, 5, none⟩ = false := Lib.frozen_of_heap x1 5
  have d6_ : w1.cell? ⟨w.heap.size + 1, 6, none⟩ = some (.int .i64 0) := by rw [Lib.cell_of_heap x1]; rfl
  have z16 : w1.frozen? ⟨w.heap.size + 1, 6, none⟩ = false := Lib.frozen_of_heap x1 6
  have d7_ : w1.cell? ⟨w.heap.size + 1, 7, none⟩ = some (.int .i64 0) := by rw [Lib.cell_of_heap x1]; rfl
  have z17 : w1.frozen? ⟨w.heap.size + 1, 7, none⟩ = false := Lib.frozen_of_heap x1 7
  have d8_ : w1.cell? ⟨w.heap.size + 1, 8, none⟩ = some (.bool false) := by rw [Lib.cell_of_heap x1]; rfl
  have z18 : w1.frozen? ⟨w.heap.size + 1, 8, none⟩ = false := Lib.frozen_of_heap x1 8
  have sx : (w1.setCell ⟨w.heap.size + 1 + 1, 5, none⟩ (.slice va l.length vc)).heap[w.heap.size + 1]? = some (Obj.cells #[.int .i64 0, .int .i64 0, .int .i64 0, .int .i64 0, .string ⟨#[]⟩, .slice none 0 0, .int .i64 0, .int .i64 0, .bool false] 34) := (Below.heap_setCell _ _ _ _ (by simp)).trans x1
  have sB := hB1.setCell (p := ⟨w.heap.size + 1 + 1, 5, none⟩) (by simp only; omega) (.slice va l.length vc)
  have hx9 := set9g (v0 := .int .i64 (1 + kk)) (v1 := .int .i64 1) (v2 := .int .i64 3) (v3 := .int .i64 0) (v4 := .string ⟨#[]⟩) (v5 := .slice va l.length vc) (v6 := .int .i64 0) (v7 := .int .i64 0) (v8 := .bool false) sx
  have hq0 := sB.setCell (p := ⟨w.heap.size + 1, 0, none⟩) (by simp only; omega) (.int .i64 (1 + kk))
  have hq1 := hq0.setCell (p := ⟨w.heap.size + 1, 1, none⟩) (by simp only; omega) (.int .i64 1)
  have hq2 := hq1.setCell (p := ⟨w.heap.size + 1, 2, none⟩) (by simp only; omega) (.int .i64 3)
  have hq3 := hq2.setCell (p := ⟨w.heap.size + 1, 3, none⟩) (by simp only; omega) (.int .i64 0)
  have hq4 := hq3.setCell (p := ⟨w.heap.size + 1, 4, none⟩) (by simp only; omega) (.string ⟨#[]⟩)
  have hq5 := hq4.setCell (p := ⟨w.heap.size + 1, 5, none⟩) (by simp only; omega) (.slice va l.length vc)
  have hq6 := hq5.setCell (p := ⟨w.heap.size + 1, 6, none⟩) (by simp only; omega) (.int .i64 0)
  have hq7 := hq6.setCell (p := ⟨w.heap.size + 1, 7, none⟩) (by simp only; omega) (.int .i64 0)
  have hq8 := hq7.setCell (p := ⟨w.heap.size + 1, 8, none⟩) (by simp only; omega) (.bool false)
  obtain ⟨w9, hw9⟩ : ∃ w9, ((((((((((w1.setCell ⟨w.heap.size + 1 + 1, 5, none⟩ (.slice va l.length vc)).setCell ⟨w.heap.size + 1, 0, none⟩ (.int .i64 (1 + kk))).setCell ⟨w.heap.size + 1, 1, none⟩ (.int .i64 1)).setCell ⟨w.heap.size + 1, 2, none⟩ (.int .i64 3)).setCell ⟨w.heap.size + 1, 3, none⟩ (.int .i64 0)).setCell ⟨w.heap.size + 1, 4, none⟩ (.string ⟨#[]⟩)).setCell ⟨w.heap.size + 1, 5, none⟩ (.slice va l.length vc)).setCell ⟨w.heap.size + 1, 6, none⟩ (.int .i64 0)).setCell ⟨w.heap.size + 1, 7, none⟩ (.int .i64 0)).setCell ⟨w.heap.size + 1, 8, none⟩ (.bool false)) = w9 := ⟨_, rfl⟩
  have HRg : Hid (Rng w9 va l.length vc l) := by
    show Rng _ _ _ _ _
    rw [← hw9]
    refine rng_set ?_ _ _ _ HRb.out
    refine rng_set ?_ _ _ _ HRb.out
    refine rng_set ?_ _ _ _ HRb.out
    refine rng_set ?_ _ _ _ HRb.out
    refine rng_set ?_ _ _ _ HRb.out
    refine rng_set ?_ _ _ _ HRb.out
    refine rng_set ?_ _ _ _ HRb.out
    refine rng_set ?_ _ _ _ HRb.out
    refine rng_set ?_ _ _ _ HRb.out
    refine rng_set ?_ _ _ _ HRc.out
    exact HR1.out
  rw [hw9] at hx9 hq8
  have r0 : w9.cell? ⟨w.heap.size + 1, 0, none⟩ = some (.int .i64 (1 + kk)) := by rw [Lib.cell_of_heap hx9]; rfl
  have r1 : w9.cell? ⟨w.heap.size + 1, 1, none⟩ = some (.int .i64 1) := by rw [Lib.cell_of_heap hx9]; rfl
  have r2 : w9.cell? ⟨w.heap.size + 1, 2, none⟩ = some (.int .i64 3) := by rw [Lib.cell_of_heap hx9]; rfl
  have r3 : w9.cell? ⟨w.heap.size + 1, 3, none⟩ = some (.int .i64 0) := by rw [Lib.cell_of_heap hx9]; rfl
  have r4 : w9.cell? ⟨w.heap.size + 1, 4, none⟩ = some (.string ⟨#[]⟩) := by rw [Lib.cell_of_heap hx9]; rfl
  have r5 : w9.cell? ⟨w.heap.size + 1, 5, none⟩ = some (.slice va l.length vc) := by rw [Lib.cell_of_heap hx9]; rfl
  have r6 : w9.cell? ⟨w.heap.size + 1, 6, none⟩ = some (.int .i64 0) := by rw [Lib.cell_of_heap hx9]; rfl
  have r7 : w9.cell? ⟨w.heap.size + 1, 7, none⟩ = some (.int .i64 0) := by rw [Lib.cell_of_heap hx9]; rfl
  have r8 : w9.cell? ⟨w.heap.size + 1, 8, none⟩ = some (.bool false) := by rw [Lib.cell_of_heap hx9]; rfl
  clear hq7 hq6 hq5 hq4 hq3 hq2 hq1 hq0 sx sB
  go_wp2_with fail
  try rw [hw9]
  refine bodyPost_ret (v := .agg #[.int .i64 (1 + kk), .int .i64 1, .int .i64 3, .int .i64 0, .string ⟨#[]⟩, .slice va l.length vc, .int .i64 0, .int .i64 0, .bool false]) (by simp [results, Tryd.results5, go_sem, r0, r1, r2, r3, r4, r5, r6, r7, r8]) rfl ⟨va, l.length, vc, l, rfl, HRg.out, (fun g off ha => by have := HAt.out g off ha; omega), HN.out.1, HN.out.2.1, HN.out.2.2, hle, hq8⟩
end Go.Proofs.YtajnadcinegmjaaDoor
