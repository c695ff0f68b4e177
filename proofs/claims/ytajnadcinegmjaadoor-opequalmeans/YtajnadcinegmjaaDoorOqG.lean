import Derived.Test.YtajnadcinegmjaaDoorOqF
import Derived.Test.YtajnadcinegmjaaDoorOqD
namespace Go.Proofs.YtajnadcinegmjaaDoor
open Go.RowKit Go.Lib Sp
set_option maxRecDepth 100000

theorem runesB_from (ns : List Int) : ∀ s : ByteArray, (ns.foldl (fun r n => r ++ Utf8.encode n) s).data.toList = s.data.toList ++ encs ns := by
  induction ns with
  | nil => intro s; simp [encs]
  | cons n ns ih =>
    intro s
    rw [List.foldl_cons, ih, encs_cons, ByteArray.data_append, Array.toList_append, List.append_assoc]
    rfl
theorem runesB_bs (ns : List Int) : runesBytes ns = bs (encs ns) := by
  rw [← bs_id (runesBytes ns)]
  congr 1
  have := runesB_from ns ByteArray.empty
  rw [runesBytes, this]
  rfl
theorem conv_own {W : World} {B : Nat} {a : Option Addr} {n cap : Nat} {rs : List Int} (h : OwnF rune1 1 21 W B (.slice a n cap) rs) (h0 : rs ≠ []) : (convert 22 9 (.slice a n cap)).run Tryd.prog W = .ok (.string (bs (encs rs))) W := by
  have hr := h.rw_ layU
  have hl := hr.len
  have hn : 0 < n := by rw [← hl]; exact List.length_pos_iff.2 h0
  obtain ⟨g, off, rfl, hg, hc⟩ := hr.cells hn
  have := run_convert_runes (P := Tryd.prog) W 22 9 21 ⟨g, off, none⟩ n cap rs (by omega) Tryd.underlying22 Tryd.underlying21 Tryd.underlying9 (fun j hj => by
    have hx : rs[j]? = some rs[j] := List.getElem?_eq_getElem (by omega)
    have := hc j _ hx 0 _ rfl
    rw [addr_add']
    simpa [List.getD_eq_getElem?_getD, hx] using this)
  rw [this, ← hl, List.take_length, runesB_bs]
theorem text_own {rs : List Int} (h : ∀ r ∈ rs, okL r) : IsText (bs (encs rs)) rs := ⟨bs_list _, fun r hr => okL_okR (h r hr)⟩
/-- A deed's value. -/
def deedV (dk dp : Int) (tv pv : Value) : Value := .agg #[.int .i64 dk, .int .i64 dp, tv, pv]
/-- What right gives. -/
structure IsRight (o : OpV) (c : Int) (t : Nat) : Prop where
  own : ownP o = 0
  id : o.c = c ∧ o.n = 1
  size : o.s.size ≤ 4096

set_option maxHeartbeats 4000000 in
theorem right_ins {dk dp : Int} {ta pa : Option Addr} {tn_ tcap pn pcap : Nat} {zs : List Int} {w : World} (hT : Rw rune1 1 w ta tn_ tcap zs) (t : Nat) (ht : t ≤ 30000) (k : Int)
    (hk : dk % 3 = 0 ∨ t = 0 ∨ pn = 0) :
    Calls Tryd.prog 5 #[deedV dk dp (.slice ta tn_ tcap) (.slice pa pn pcap), .int .i64 (t : Int), .int .i64 k] w fun e w' => ∃ rs : List Int, e = .returned (opVal ⟨1 + k % 8, 1, 1, dp % ((t : Int) + 1), bs (encs rs), [], 0, 0, false⟩ (.slice none 0 0)) ∧ rs ≠ [] ∧ rs.length ≤ 256 ∧ (∀ r ∈ rs, okL r) ∧ Below w.heap.size w w' := by
  have b0 := Int.emod_nonneg k (show (8 : Int) ≠ 0 by decide)
  have b1 := Int.emod_lt_of_pos k (show (0 : Int) < 8 by decide)
  have d0 := Int.emod_nonneg dk (show (3 : Int) ≠ 0 by decide)
  have d1 := Int.emod_lt_of_pos dk (show (0 : Int) < 3 by decide)
  have p0 := Int.emod_nonneg dp (show (t : Int) + 1 ≠ 0 by omega)
  have p1 := Int.emod_lt_of_pos dp (show (0 : Int) < (t : Int) + 1 by omega)
  have H1 : Hid (∀ w : World, Calls Tryd.prog 4 #[.int .i64 k, .int .i64 8] w fun e w' => e = .returned (.int .i64 (k % 8)) ∧ w' = w) := pick_any k 8 (by decide) (by decide)
  have H2 : Hid (∀ w : World, Calls Tryd.prog 4 #[.int .i64 dk, .int .i64 3] w fun e w' => e = .returned (.int .i64 (dk % 3)) ∧ w' = w) := pick_any dk 3 (by decide) (by decide)
  have H3 : Hid (∀ w : World, Calls Tryd.prog 4 #[.int .i64 dp, .int .i64 ((t : Int) + 1)] w fun e w' => e = .returned (.int .i64 (dp % ((t : Int) + 1))) ∧ w' = w) := pick_any dp ((t : Int) + 1) (by omega) (by omega)
  have HL : Hid (∀ w' : World, Below w.heap.size w w' → Calls Tryd.prog 9 #[.slice ta tn_ tcap] w' fun e w'' => ∃ v rs, e = .returned v ∧ OwnF rune1 1 21 w'' w'.heap.size v rs ∧ rs ≠ [] ∧ rs.length ≤ 256 ∧ (∀ r ∈ rs, okL r) ∧ Below w'.heap.size w' w'') := fun w' hb => letters_any (hT.below hb)
  clear hT
  generalize k % 8 = kk at *
  generalize dk % 3 = dd at *
  generalize dp % ((t : Int) + 1) = pp at *
  simp only [deedV, opVal]
  have tcs : (dd == 0) = true ∨ ((dd == 0) = false ∧ ((t : Int) == 0) = true) ∨ ((dd == 0) = false ∧ ((t : Int) == 0) = false ∧ ((pn : Int) == 0) = true) := by
    by_cases h1 : dd = 0
    · left; simp [h1]
    · by_cases h2 : t = 0
      · right; left; simp [h1, h2]
      · right; right; exact ⟨by simp [h1], by simp; omega, by simp; omega⟩
  clear hk
  have tcs2 : dd = 0 ∨ (¬ dd = 0 ∧ t = 0) ∨ (¬ dd = 0 ∧ ¬ t = 0 ∧ pn = 0) := by
    rcases tcs with h | ⟨h, h2⟩ | ⟨h, h2, h3⟩
    · left; simpa using h
    · right; left; exact ⟨by simpa using h, by simp at h2; omega⟩
    · right; right; exact ⟨by simpa using h, by simp at h2; omega, by simp at h3; omega⟩
  clear tcs
  go_enter Tryd.func5, Tryd.ntmps5
  go_wp2_with fail
  refine (H1.out _).mono ?_
  rintro e w1 ⟨rfl, hw1⟩
  subst hw1
  go_wp2_with fail
  refine (H2.out _).mono ?_
  rintro e w1 ⟨rfl, hw1⟩
  subst hw1
  rcases tcs2 with h | ⟨h, h2⟩ | ⟨h, h2, h3⟩
  · subst h
    go_wp2_with fail
    refine (H3.out _).mono ?_
    rintro e w1 ⟨rfl, hw1⟩
    subst hw1
    go_wp2_with fail
    have hX : Below w.heap.size w (((w.alloc (Obj.cells #[.int .i64 dk, .int .i64 dp, .slice ta tn_ tcap, .slice pa pn pcap] 25)).alloc (Obj.cells #[.int .i64 0, .int .i64 0, .int .i64 0, .int .i64 0, .string ⟨#[]⟩, .slice none 0 0, .int .i64 0, .int .i64 0, .bool false] 34)).alloc (Obj.cells #[.int .i64 (1 + kk), .int .i64 1, .int .i64 1, .int .i64 pp, .string ⟨#[]⟩, .slice none 0 0, .int .i64 0, .int .i64 0, .bool false] 34)) := (((Below.refl w.heap.size w).alloc (Nat.le_refl _) _).alloc (by simp) _).alloc (by simp; omega) _
    have x0 : (((w.alloc (Obj.cells #[.int .i64 dk, .int .i64 dp, .slice ta tn_ tcap, .slice pa pn pcap] 25)).alloc (Obj.cells #[.int .i64 0, .int .i64 0, .int .i64 0, .int .i64 0, .string ⟨#[]⟩, .slice none 0 0, .int .i64 0, .int .i64 0, .bool false] 34)).alloc (Obj.cells #[.int .i64 (1 + kk), .int .i64 1, .int .i64 1, .int .i64 pp, .string ⟨#[]⟩, .slice none 0 0, .int .i64 0, .int .i64 0, .bool false] 34)).heap[w.heap.size + 1]? = some (Obj.cells #[.int .i64 0, .int .i64 0, .int .i64 0, .int .i64 0, .string ⟨#[]⟩, .slice none 0 0, .int .i64 0, .int .i64 0, .bool false] 34) := (Below.heap_alloc _ _ _ (by simp)).trans (alloc_last _ _ _ (by simp))
    have y0 : (((w.alloc (Obj.cells #[.int .i64 dk, .int .i64 dp, .slice ta tn_ tcap, .slice pa pn pcap] 25)).alloc (Obj.cells #[.int .i64 0, .int .i64 0, .int .i64 0, .int .i64 0, .string ⟨#[]⟩, .slice none 0 0, .int .i64 0, .int .i64 0, .bool false] 34)).alloc (Obj.cells #[.int .i64 (1 + kk), .int .i64 1, .int .i64 1, .int .i64 pp, .string ⟨#[]⟩, .slice none 0 0, .int .i64 0, .int .i64 0, .bool false] 34)).heap[w.heap.size + 1 + 1]? = some (Obj.cells #[.int .i64 (1 + kk), .int .i64 1, .int .i64 1, .int .i64 pp, .string ⟨#[]⟩, .slice none 0 0, .int .i64 0, .int .i64 0, .bool false] 34) := alloc_last _ _ _ (by simp)
    refine (HL.out _ hX).mono ?_
    rintro e w1 ⟨v, rs, rfl, hown, hne, hle, hok, hb1⟩
    have hB1 := hX.trans (hb1.mono hX.size)
    have x1 := (hb1.block _ (Array.getElem?_eq_some_iff.1 x0).1).trans x0
    have y1 := (hb1.block _ (Array.getElem?_eq_some_iff.1 y0).1).trans y0
    obtain ⟨va, vc, rfl⟩ := hown.shape
    have hcv := conv_own hown hne
    have HOK : Hid (∀ r ∈ rs, okL r) := hok
    have HNE : Hid (rs ≠ []) := hne
    clear hX x0 y0 hb1 hown hok hne
    have f0 : w1.cell? ⟨w.heap.size + 1 + 1, 0, none⟩ = some (.int .i64 (1 + kk)) := by rw [Lib.cell_of_heap y1]; rfl
    have f1 : w1.cell? ⟨w.heap.size + 1 + 1, 1, none⟩ = some (.int .i64 1) := by rw [Lib.cell_of_heap y1]; rfl
    have f2 : w1.cell? ⟨w.heap.size + 1 + 1, 2, none⟩ = some (.int .i64 1) := by rw [Lib.cell_of_heap y1]; rfl
    have f3 : w1.cell? ⟨w.heap.size + 1 + 1, 3, none⟩ = some (.int .i64 pp) := by rw [Lib.cell_of_heap y1]; rfl
    have f4 : w1.cell? ⟨w.heap.size + 1 + 1, 4, none⟩ = some (.string ⟨#[]⟩) := by rw [Lib.cell_of_heap y1]; rfl
    have f5 : w1.cell? ⟨w.heap.size + 1 + 1, 5, none⟩ = some (.slice none 0 0) := by rw [Lib.cell_of_heap y1]; rfl
    have f6 : w1.cell? ⟨w.heap.size + 1 + 1, 6, none⟩ = some (.int .i64 0) := by rw [Lib.cell_of_heap y1]; rfl
    have f7 : w1.cell? ⟨w.heap.size + 1 + 1, 7, none⟩ = some (.int .i64 0) := by rw [Lib.cell_of_heap y1]; rfl
    have f8 : w1.cell? ⟨w.heap.size + 1 + 1, 8, none⟩ = some (.bool false) := by rw [Lib.cell_of_heap y1]; rfl
    have z4 : w1.frozen? ⟨w.heap.size + 1 + 1, 4, none⟩ = false := Lib.frozen_of_heap y1 4
    have d0_ : w1.cell? ⟨w.heap.size + 1, 0, none⟩ = some (.int .i64 0) := by rw [Lib.cell_of_heap x1]; rfl
    have z10 : w1.frozen? ⟨w.heap.size + 1, 0, none⟩ = false := Lib.frozen_of_heap x1 0
    have d1_ : w1.cell? ⟨w.heap.size + 1, 1, none⟩ = some (.int .i64 0) := by rw [Lib.cell_of_heap x1]; rfl
    have z11 : w1.frozen? ⟨w.heap.size + 1, 1, none⟩ = false := Lib.frozen_of_heap x1 1
    have d2_ : w1.cell? ⟨w.heap.size + 1, 2, none⟩ = some (.int .i64 0) := by rw [Lib.cell_of_heap x1]; rfl
    have z12 : w1.frozen? ⟨w.heap.size + 1, 2, none⟩ = false := Lib.frozen_of_heap x1 2
    have d3_ : w1.cell? ⟨w.heap.size + 1, 3, none⟩ = some (.int .i64 0) := by rw [Lib.cell_of_heap x1]; rfl
    have z13 : w1.frozen? ⟨w.heap.size + 1, 3, none⟩ = false := Lib.frozen_of_heap x1 3
    have d4_ : w1.cell? ⟨w.heap.size + 1, 4, none⟩ = some (.string ⟨#[]⟩) := by rw [Lib.cell_of_heap x1]; rfl
    have z14 : w1.frozen? ⟨w.heap.size + 1, 4, none⟩ = false := Lib.frozen_of_heap x1 4
    have d5_ : w1.cell? ⟨w.heap.size + 1, 5, none⟩ = some (.slice none 0 0) := by rw [Lib.cell_of_heap x1]; rfl
    have z15 : w1.frozen? ⟨w.heap.size + 1, 5, none⟩ = false := Lib.frozen_of_heap x1 5
    have d6_ : w1.cell? ⟨w.heap.size + 1, 6, none⟩ = some (.int .i64 0) := by rw [Lib.cell_of_heap x1]; rfl
    have z16 : w1.frozen? ⟨w.heap.size + 1, 6, none⟩ = false := Lib.frozen_of_heap x1 6
    have d7_ : w1.cell? ⟨w.heap.size + 1, 7, none⟩ = some (.int .i64 0) := by rw [Lib.cell_of_heap x1]; rfl
    have z17 : w1.frozen? ⟨w.heap.size + 1, 7, none⟩ = false := Lib.frozen_of_heap x1 7
    have d8_ : w1.cell? ⟨w.heap.size + 1, 8, none⟩ = some (.bool false) := by rw [Lib.cell_of_heap x1]; rfl
    have z18 : w1.frozen? ⟨w.heap.size + 1, 8, none⟩ = false := Lib.frozen_of_heap x1 8
    generalize hS : bs (encs rs) = S at *
    have sx : (w1.setCell ⟨w.heap.size + 1 + 1, 4, none⟩ (.string S)).heap[w.heap.size + 1]? = some (Obj.cells #[.int .i64 0, .int .i64 0, .int .i64 0, .int .i64 0, .string ⟨#[]⟩, .slice none 0 0, .int .i64 0, .int .i64 0, .bool false] 34) := (Below.heap_setCell _ _ _ _ (by simp)).trans x1
    have sB := hB1.setCell (p := ⟨w.heap.size + 1 + 1, 4, none⟩) (by simp only; omega) (.string S)
    have hx9 := set9g (v0 := .int .i64 (1 + kk)) (v1 := .int .i64 1) (v2 := .int .i64 1) (v3 := .int .i64 pp) (v4 := .string S) (v5 := .slice none 0 0) (v6 := .int .i64 0) (v7 := .int .i64 0) (v8 := .bool false) sx
    have hq0 := sB.setCell (p := ⟨w.heap.size + 1, 0, none⟩) (by simp only; omega) (.int .i64 (1 + kk))
    have hq1 := hq0.setCell (p := ⟨w.heap.size + 1, 1, none⟩) (by simp only; omega) (.int .i64 1)
    have hq2 := hq1.setCell (p := ⟨w.heap.size + 1, 2, none⟩) (by simp only; omega) (.int .i64 1)
    have hq3 := hq2.setCell (p := ⟨w.heap.size + 1, 3, none⟩) (by simp only; omega) (.int .i64 pp)
    have hq4 := hq3.setCell (p := ⟨w.heap.size + 1, 4, none⟩) (by simp only; omega) (.string S)
    have hq5 := hq4.setCell (p := ⟨w.heap.size + 1, 5, none⟩) (by simp only; omega) (.slice none 0 0)
    have hq6 := hq5.setCell (p := ⟨w.heap.size + 1, 6, none⟩) (by simp only; omega) (.int .i64 0)
    have hq7 := hq6.setCell (p := ⟨w.heap.size + 1, 7, none⟩) (by simp only; omega) (.int .i64 0)
    have hq8 := hq7.setCell (p := ⟨w.heap.size + 1, 8, none⟩) (by simp only; omega) (.bool false)
    obtain ⟨w9, hw9⟩ : ∃ w9, ((((((((((w1.setCell ⟨w.heap.size + 1 + 1, 4, none⟩ (.string S)).setCell ⟨w.heap.size + 1, 0, none⟩ (.int .i64 (1 + kk))).setCell ⟨w.heap.size + 1, 1, none⟩ (.int .i64 1)).setCell ⟨w.heap.size + 1, 2, none⟩ (.int .i64 1)).setCell ⟨w.heap.size + 1, 3, none⟩ (.int .i64 pp)).setCell ⟨w.heap.size + 1, 4, none⟩ (.string S)).setCell ⟨w.heap.size + 1, 5, none⟩ (.slice none 0 0)).setCell ⟨w.heap.size + 1, 6, none⟩ (.int .i64 0)).setCell ⟨w.heap.size + 1, 7, none⟩ (.int .i64 0)).setCell ⟨w.heap.size + 1, 8, none⟩ (.bool false)) = w9 := ⟨_, rfl⟩
    rw [hw9] at hx9 hq8
    have r0 : w9.cell? ⟨w.heap.size + 1, 0, none⟩ = some (.int .i64 (1 + kk)) := by rw [Lib.cell_of_heap hx9]; rfl
    have r1 : w9.cell? ⟨w.heap.size + 1, 1, none⟩ = some (.int .i64 1) := by rw [Lib.cell_of_heap hx9]; rfl
    have r2 : w9.cell? ⟨w.heap.size + 1, 2, none⟩ = some (.int .i64 1) := by rw [Lib.cell_of_heap hx9]; rfl
    have r3 : w9.cell? ⟨w.heap.size + 1, 3, none⟩ = some (.int .i64 pp) := by rw [Lib.cell_of_heap hx9]; rfl
    have r4 : w9.cell? ⟨w.heap.size + 1, 4, none⟩ = some (.string S) := by rw [Lib.cell_of_heap hx9]; rfl
    have r5 : w9.cell? ⟨w.heap.size + 1, 5, none⟩ = some (.slice none 0 0) := by rw [Lib.cell_of_heap hx9]; rfl
    have r6 : w9.cell? ⟨w.heap.size + 1, 6, none⟩ = some (.int .i64 0) := by rw [Lib.cell_of_heap hx9]; rfl
    have r7 : w9.cell? ⟨w.heap.size + 1, 7, none⟩ = some (.int .i64 0) := by rw [Lib.cell_of_heap hx9]; rfl
    have r8 : w9.cell? ⟨w.heap.size + 1, 8, none⟩ = some (.bool false) := by rw [Lib.cell_of_heap hx9]; rfl
    clear hq7 hq6 hq5 hq4 hq3 hq2 hq1 hq0 sx sB
    go_wp2_with fail
    try rw [hw9]
    refine bodyPost_ret (v := .agg #[.int .i64 (1 + kk), .int .i64 1, .int .i64 1, .int .i64 pp, .string S, .slice none 0 0, .int .i64 0, .int .i64 0, .bool false]) (by simp [results, Tryd.results5, go_sem, r0, r1, r2, r3, r4, r5, r6, r7, r8]) rfl ⟨rs, by rw [hS], HNE.out, hle, HOK.out, hq8⟩
  · have t1 : (dd == 0) = false := beq_eq_false_iff_ne.2 h
    have t2 : decide (dd = 0) = false := decide_eq_false h
    have t3 : ((t : Int) == 0) = true := by simp [h2]
    clear h2 h
    go_wp2_with fail
    refine (H3.out _).mono ?_
    rintro e w1 ⟨rfl, hw1⟩
    subst hw1
    go_wp2_with fail
    have hX : Below w.heap.size w (((w.alloc (Obj.cells #[.int .i64 dk, .int .i64 dp, .slice ta tn_ tcap, .slice pa pn pcap] 25)).alloc (Obj.cells #[.int .i64 0, .int .i64 0, .int .i64 0, .int .i64 0, .string ⟨#[]⟩, .slice none 0 0, .int .i64 0, .int .i64 0, .bool false] 34)).alloc (Obj.cells #[.int .i64 (1 + kk), .int .i64 1, .int .i64 1, .int .i64 pp, .string ⟨#[]⟩, .slice none 0 0, .int .i64 0, .int .i64 0, .bool false] 34)) := (((Below.refl w.heap.size w).alloc (Nat.le_refl _) _).alloc (by simp) _).alloc (by simp; omega) _
    have x0 : (((w.alloc (Obj.cells #[.int .i64 dk, .int .i64 dp, .slice ta tn_ tcap, .slice pa pn pcap] 25)).alloc (Obj.cells #[.int .i64 0, .int .i64 0, .int .i64 0, .int .i64 0, .string ⟨#[]⟩, .slice none 0 0, .int .i64 0, .int .i64 0, .bool false] 34)).alloc (Obj.cells #[.int .i64 (1 + kk), .int .i64 1, .int .i64 1, .int .i64 pp, .string ⟨#[]⟩, .slice none 0 0, .int .i64 0, .int .i64 0, .bool false] 34)).heap[w.heap.size + 1]? = some (Obj.cells #[.int .i64 0, .int .i64 0, .int .i64 0, .int .i64 0, .string ⟨#[]⟩, .slice none 0 0, .int .i64 0, .int .i64 0, .bool false] 34) := (Below.heap_alloc _ _ _ (by simp)).trans (alloc_last _ _ _ (by simp))
    have y0 : (((w.alloc (Obj.cells #[.int .i64 dk, .int .i64 dp, .slice ta tn_ tcap, .slice pa pn pcap] 25)).alloc (Obj.cells #[.int .i64 0, .int .i64 0, .int .i64 0, .int .i64 0, .string ⟨#[]⟩, .slice none 0 0, .int .i64 0, .int .i64 0, .bool false] 34)).alloc (Obj.cells #[.int .i64 (1 + kk), .int .i64 1, .int .i64 1, .int .i64 pp, .string ⟨#[]⟩, .slice none 0 0, .int .i64 0, .int .i64 0, .bool false] 34)).heap[w.heap.size + 1 + 1]? = some (Obj.cells #[.int .i64 (1 + kk), .int .i64 1, .int .i64 1, .int .i64 pp, .string ⟨#[]⟩, .slice none 0 0, .int .i64 0, .int .i64 0, .bool false] 34) := alloc_last _ _ _ (by simp)
    refine (HL.out _ hX).mono ?_
    rintro e w1 ⟨v, rs, rfl, hown, hne, hle, hok, hb1⟩
    have hB1 := hX.trans (hb1.mono hX.size)
    have x1 := (hb1.block _ (Array.getElem?_eq_some_iff.1 x0).1).trans x0
    have y1 := (hb1.block _ (Array.getElem?_eq_some_iff.1 y0).1).trans y0
    obtain ⟨va, vc, rfl⟩ := hown.shape
    have hcv := conv_own hown hne
    have HOK : Hid (∀ r ∈ rs, okL r) := hok
    have HNE : Hid (rs ≠ []) := hne
    clear hX x0 y0 hb1 hown hok hne
    have f0 : w1.cell? ⟨w.heap.size + 1 + 1, 0, none⟩ = some (.int .i64 (1 + kk)) := by rw [Lib.cell_of_heap y1]; rfl
    have f1 : w1.cell? ⟨w.heap.size + 1 + 1, 1, none⟩ = some (.int .i64 1) := by rw [Lib.cell_of_heap y1]; rfl
    have f2 : w1.cell? ⟨w.heap.size + 1 + 1, 2, none⟩ = some (.int .i64 1) := by rw [Lib.cell_of_heap y1]; rfl
    have f3 : w1.cell? ⟨w.heap.size + 1 + 1, 3, none⟩ = some (.int .i64 pp) := by rw [Lib.cell_of_heap y1]; rfl
    have f4 : w1.cell? ⟨w.heap.size + 1 + 1, 4, none⟩ = some (.string ⟨#[]⟩) := by rw [Lib.cell_of_heap y1]; rfl
    have f5 : w1.cell? ⟨w.heap.size + 1 + 1, 5, none⟩ = some (.slice none 0 0) := by rw [Lib.cell_of_heap y1]; rfl
    have f6 : w1.cell? ⟨w.heap.size + 1 + 1, 6, none⟩ = some (.int .i64 0) := by rw [Lib.cell_of_heap y1]; rfl
    have f7 : w1.cell? ⟨w.heap.size + 1 + 1, 7, none⟩ = some (.int .i64 0) := by rw [Lib.cell_of_heap y1]; rfl
    have f8 : w1.cell? ⟨w.heap.size + 1 + 1, 8, none⟩ = some (.bool false) := by rw [Lib.cell_of_heap y1]; rfl
    have z4 : w1.frozen? ⟨w.heap.size + 1 + 1, 4, none⟩ = false := Lib.frozen_of_heap y1 4
    have d0_ : w1.cell? ⟨w.heap.size + 1, 0, none⟩ = some (.int .i64 0) := by rw [Lib.cell_of_heap x1]; rfl
    have z10 : w1.frozen? ⟨w.heap.size + 1, 0, none⟩ = false := Lib.frozen_of_heap x1 0
    have d1_ : w1.cell? ⟨w.heap.size + 1, 1, none⟩ = some (.int .i64 0) := by rw [Lib.cell_of_heap x1]; rfl
    have z11 : w1.frozen? ⟨w.heap.size + 1, 1, none⟩ = false := Lib.frozen_of_heap x1 1
    have d2_ : w1.cell? ⟨w.heap.size + 1, 2, none⟩ = some (.int .i64 0) := by rw [Lib.cell_of_heap x1]; rfl
    have z12 : w1.frozen? ⟨w.heap.size + 1, 2, none⟩ = false := Lib.frozen_of_heap x1 2
    have d3_ : w1.cell? ⟨w.heap.size + 1, 3, none⟩ = some (.int .i64 0) := by rw [Lib.cell_of_heap x1]; rfl
    have z13 : w1.frozen? ⟨w.heap.size + 1, 3, none⟩ = false := Lib.frozen_of_heap x1 3
    have d4_ : w1.cell? ⟨w.heap.size + 1, 4, none⟩ = some (.string ⟨#[]⟩) := by rw [Lib.cell_of_heap x1]; rfl
    have z14 : w1.frozen? ⟨w.heap.size + 1, 4, none⟩ = false := Lib.frozen_of_heap x1 4
    have d5_ : w1.cell? ⟨w.heap.size + 1, 5, none⟩ = some (.slice none 0 0) := by rw [Lib.cell_of_heap x1]; rfl
    have z15 : w1.frozen? ⟨w.heap.size + 1, 5, none⟩ = false := Lib.frozen_of_heap x1 5
    have d6_ : w1.cell? ⟨w.heap.size + 1, 6, none⟩ = some (.int .i64 0) := by rw [Lib.cell_of_heap x1]; rfl
    have z16 : w1.frozen? ⟨w.heap.size + 1, 6, none⟩ = false := Lib.frozen_of_heap x1 6
    have d7_ : w1.cell? ⟨w.heap.size + 1, 7, none⟩ = some (.int .i64 0) := by rw [Lib.cell_of_heap x1]; rfl
    have z17 : w1.frozen? ⟨w.heap.size + 1, 7, none⟩ = false := Lib.frozen_of_heap x1 7
    have d8_ : w1.cell? ⟨w.heap.size + 1, 8, none⟩ = some (.bool false) := by rw [Lib.cell_of_heap x1]; rfl
    have z18 : w1.frozen? ⟨w.heap.size + 1, 8, none⟩ = false := Lib.frozen_of_heap x1 8
    generalize hS : bs (encs rs) = S at *
    have sx : (w1.setCell ⟨w.heap.size + 1 + 1, 4, none⟩ (.string S)).heap[w.heap.size + 1]? = some (Obj.cells #[.int .i64 0, .int .i64 0, .int .i64 0, .int .i64 0, .string ⟨#[]⟩, .slice none 0 0, .int .i64 0, .int .i64 0, .bool false] 34) := (Below.heap_setCell _ _ _ _ (by simp)).trans x1
    have sB := hB1.setCell (p := ⟨w.heap.size + 1 + 1, 4, none⟩) (by simp only; omega) (.string S)
    have hx9 := set9g (v0 := .int .i64 (1 + kk)) (v1 := .int .i64 1) (v2 := .int .i64 1) (v3 := .int .i64 pp) (v4 := .string S) (v5 := .slice none 0 0) (v6 := .int .i64 0) (v7 := .int .i64 0) (v8 := .bool false) sx
    have hq0 := sB.setCell (p := ⟨w.heap.size + 1, 0, none⟩) (by simp only; omega) (.int .i64 (1 + kk))
    have hq1 := hq0.setCell (p := ⟨w.heap.size + 1, 1, none⟩) (by simp only; omega) (.int .i64 1)
    have hq2 := hq1.setCell (p := ⟨w.heap.size + 1, 2, none⟩) (by simp only; omega) (.int .i64 1)
    have hq3 := hq2.setCell (p := ⟨w.heap.size + 1, 3, none⟩) (by simp only; omega) (.int .i64 pp)
    have hq4 := hq3.setCell (p := ⟨w.heap.size + 1, 4, none⟩) (by simp only; omega) (.string S)
    have hq5 := hq4.setCell (p := ⟨w.heap.size + 1, 5, none⟩) (by simp only; omega) (.slice none 0 0)
    have hq6 := hq5.setCell (p := ⟨w.heap.size + 1, 6, none⟩) (by simp only; omega) (.int .i64 0)
    have hq7 := hq6.setCell (p := ⟨w.heap.size + 1, 7, none⟩) (by simp only; omega) (.int .i64 0)
    have hq8 := hq7.setCell (p := ⟨w.heap.size + 1, 8, none⟩) (by simp only; omega) (.bool false)
    obtain ⟨w9, hw9⟩ : ∃ w9, ((((((((((w1.setCell ⟨w.heap.size + 1 + 1, 4, none⟩ (.string S)).setCell ⟨w.heap.size + 1, 0, none⟩ (.int .i64 (1 + kk))).setCell ⟨w.heap.size + 1, 1, none⟩ (.int .i64 1)).setCell ⟨w.heap.size + 1, 2, none⟩ (.int .i64 1)).setCell ⟨w.heap.size + 1, 3, none⟩ (.int .i64 pp)).setCell ⟨w.heap.size + 1, 4, none⟩ (.string S)).setCell ⟨w.heap.size + 1, 5, none⟩ (.slice none 0 0)).setCell ⟨w.heap.size + 1, 6, none⟩ (.int .i64 0)).setCell ⟨w.heap.size + 1, 7, none⟩ (.int .i64 0)).setCell ⟨w.heap.size + 1, 8, none⟩ (.bool false)) = w9 := ⟨_, rfl⟩
    rw [hw9] at hx9 hq8
    have r0 : w9.cell? ⟨w.heap.size + 1, 0, none⟩ = some (.int .i64 (1 + kk)) := by rw [Lib.cell_of_heap hx9]; rfl
    have r1 : w9.cell? ⟨w.heap.size + 1, 1, none⟩ = some (.int .i64 1) := by rw [Lib.cell_of_heap hx9]; rfl
    have r2 : w9.cell? ⟨w.heap.size + 1, 2, none⟩ = some (.int .i64 1) := by rw [Lib.cell_of_heap hx9]; rfl
    have r3 : w9.cell? ⟨w.heap.size + 1, 3, none⟩ = some (.int .i64 pp) := by rw [Lib.cell_of_heap hx9]; rfl
    have r4 : w9.cell? ⟨w.heap.size + 1, 4, none⟩ = some (.string S) := by rw [Lib.cell_of_heap hx9]; rfl
    have r5 : w9.cell? ⟨w.heap.size + 1, 5, none⟩ = some (.slice none 0 0) := by rw [Lib.cell_of_heap hx9]; rfl
    have r6 : w9.cell? ⟨w.heap.size + 1, 6, none⟩ = some (.int .i64 0) := by rw [Lib.cell_of_heap hx9]; rfl
    have r7 : w9.cell? ⟨w.heap.size + 1, 7, none⟩ = some (.int .i64 0) := by rw [Lib.cell_of_heap hx9]; rfl
    have r8 : w9.cell? ⟨w.heap.size + 1, 8, none⟩ = some (.bool false) := by rw [Lib.cell_of_heap hx9]; rfl
    clear hq7 hq6 hq5 hq4 hq3 hq2 hq1 hq0 sx sB
    go_wp2_with fail
    try rw [hw9]
    refine bodyPost_ret (v := .agg #[.int .i64 (1 + kk), .int .i64 1, .int .i64 1, .int .i64 pp, .string S, .slice none 0 0, .int .i64 0, .int .i64 0, .bool false]) (by simp [results, Tryd.results5, go_sem, r0, r1, r2, r3, r4, r5, r6, r7, r8]) rfl ⟨rs, by rw [hS], HNE.out, hle, HOK.out, hq8⟩
  · have t1 : (dd == 0) = false := beq_eq_false_iff_ne.2 h
    have t2 : decide (dd = 0) = false := decide_eq_false h
    have t3 : ((t : Int) == 0) = false := beq_eq_false_iff_ne.2 (by omega)
    have t5 : ((pn : Int) == 0) = true := by simp [h3]
    clear h2 h3 h
    go_wp2_with fail
    refine (H3.out _).mono ?_
    rintro e w1 ⟨rfl, hw1⟩
    subst hw1
    go_wp2_with fail
    have hX : Below w.heap.size w (((w.alloc (Obj.cells #[.int .i64 dk, .int .i64 dp, .slice ta tn_ tcap, .slice pa pn pcap] 25)).alloc (Obj.cells #[.int .i64 0, .int .i64 0, .int .i64 0, .int .i64 0, .string ⟨#[]⟩, .slice none 0 0, .int .i64 0, .int .i64 0, .bool false] 34)).alloc (Obj.cells #[.int .i64 (1 + kk), .int .i64 1, .int .i64 1, .int .i64 pp, .string ⟨#[]⟩, .slice none 0 0, .int .i64 0, .int .i64 0, .bool false] 34)) := (((Below.refl w.heap.size w).alloc (Nat.le_refl _) _).alloc (by simp) _).alloc (by simp; omega) _
    have x0 : (((w.alloc (Obj.cells #[.int .i64 dk, .int .i64 dp, .slice ta tn_ tcap, .slice pa pn pcap] 25)).alloc (Obj.cells #[.int .i64 0, .int .i64 0, .int .i64 0, .int .i64 0, .string ⟨#[]⟩, .slice none 0 0, .int .i64 0, .int .i64 0, .bool false] 34)).alloc (Obj.cells #[.int .i64 (1 + kk), .int .i64 1, .int .i64 1, .int .i64 pp, .string ⟨#[]⟩, .slice none 0 0, .int .i64 0, .int .i64 0, .bool false] 34)).heap[w.heap.size + 1]? = some (Obj.cells #[.int .i64 0, .int .i64 0, .int .i64 0, .int .i64 0, .string ⟨#[]⟩, .slice none 0 0, .int .i64 0, .int .i64 0, .bool false] 34) := (Below.heap_alloc _ _ _ (by simp)).trans (alloc_last _ _ _ (by simp))
    have y0 : (((w.alloc (Obj.cells #[.int .i64 dk, .int .i64 dp, .slice ta tn_ tcap, .slice pa pn pcap] 25)).alloc (Obj.cells #[.int .i64 0, .int .i64 0, .int .i64 0, .int .i64 0, .string ⟨#[]⟩, .slice none 0 0, .int .i64 0, .int .i64 0, .bool false] 34)).alloc (Obj.cells #[.int .i64 (1 + kk), .int .i64 1, .int .i64 1, .int .i64 pp, .string ⟨#[]⟩, .slice none 0 0, .int .i64 0, .int .i64 0, .bool false] 34)).heap[w.heap.size + 1 + 1]? = some (Obj.cells #[.int .i64 (1 + kk), .int .i64 1, .int .i64 1, .int .i64 pp, .string ⟨#[]⟩, .slice none 0 0, .int .i64 0, .int .i64 0, .bool false] 34) := alloc_last _ _ _ (by simp)
    refine (HL.out _ hX).mono ?_
    rintro e w1 ⟨v, rs, rfl, hown, hne, hle, hok, hb1⟩
    have hB1 := hX.trans (hb1.mono hX.size)
    have x1 := (hb1.block _ (Array.getElem?_eq_some_iff.1 x0).1).trans x0
    have y1 := (hb1.block _ (Array.getElem?_eq_some_iff.1 y0).1).trans y0
    obtain ⟨va, vc, rfl⟩ := hown.shape
    have hcv := conv_own hown hne
    have HOK : Hid (∀ r ∈ rs, okL r) := hok
    have HNE : Hid (rs ≠ []) := hne
    clear hX x0 y0 hb1 hown hok hne
    have f0 : w1.cell? ⟨w.heap.size + 1 + 1, 0, none⟩ = some (.int .i64 (1 + kk)) := by rw [Lib.cell_of_heap y1]; rfl
    have f1 : w1.cell? ⟨w.heap.size + 1 + 1, 1, none⟩ = some (.int .i64 1) := by rw [Lib.cell_of_heap y1]; rfl
    have f2 : w1.cell? ⟨w.heap.size + 1 + 1, 2, none⟩ = some (.int .i64 1) := by rw [Lib.cell_of_heap y1]; rfl
    have f3 : w1.cell? ⟨w.heap.size + 1 + 1, 3, none⟩ = some (.int .i64 pp) := by rw [Lib.cell_of_heap y1]; rfl
    have f4 : w1.cell? ⟨w.heap.size + 1 + 1, 4, none⟩ = some (.string ⟨#[]⟩) := by rw [Lib.cell_of_heap y1]; rfl
    have f5 : w1.cell? ⟨w.heap.size + 1 + 1, 5, none⟩ = some (.slice none 0 0) := by rw [Lib.cell_of_heap y1]; rfl
    have f6 : w1.cell? ⟨w.heap.size + 1 + 1, 6, none⟩ = some (.int .i64 0) := by rw [Lib.cell_of_heap y1]; rfl
    have f7 : w1.cell? ⟨w.heap.size + 1 + 1, 7, none⟩ = some (.int .i64 0) := by rw [Lib.cell_of_heap y1]; rfl
    have f8 : w1.cell? ⟨w.heap.size + 1 + 1, 8, none⟩ = some (.bool false) := by rw [Lib.cell_of_heap y1]; rfl
    have z4 : w1.frozen? ⟨w.heap.size + 1 + 1, 4, none⟩ = false := Lib.frozen_of_heap y1 4
    have d0_ : w1.cell? ⟨w.heap.size + 1, 0, none⟩ = some (.int .i64 0) := by rw [Lib.cell_of_heap x1]; rfl
    have z10 : w1.frozen? ⟨w.heap.size + 1, 0, none⟩ = false := Lib.frozen_of_heap x1 0
    have d1_ : w1.cell? ⟨w.heap.size + 1, 1, none⟩ = some (.int .i64 0) := by rw [Lib.cell_of_heap x1]; rfl
    have z11 : w1.frozen? ⟨w.heap.size + 1, 1, none⟩ = false := Lib.frozen_of_heap x1 1
    have d2_ : w1.cell? ⟨w.heap.size + 1, 2, none⟩ = some (.int .i64 0) := by rw [Lib.cell_of_heap x1]; rfl
    have z12 : w1.frozen? ⟨w.heap.size + 1, 2, none⟩ = false := Lib.frozen_of_heap x1 2
    have d3_ : w1.cell? ⟨w.heap.size + 1, 3, none⟩ = some (.int .i64 0) := by rw [Lib.cell_of_heap x1]; rfl
    have z13 : w1.frozen? ⟨w.heap.size + 1, 3, none⟩ = false := Lib.frozen_of_heap x1 3
    have d4_ : w1.cell? ⟨w.heap.size + 1, 4, none⟩ = some (.string ⟨#[]⟩) := by rw [Lib.cell_of_heap x1]; rfl
    have z14 : w1.frozen? ⟨w.heap.size + 1, 4, none⟩ = false := Lib.frozen_of_heap x1 4
    have d5_ : w1.cell? ⟨w.heap.size + 1, 5, none⟩ = some (.slice none 0 0) := by rw [Lib.cell_of_heap x1]; rfl
    have z15 : w1.frozen? ⟨w.heap.size + 1, 5, none⟩ = false := Lib.frozen_of_heap x1 5
    have d6_ : w1.cell? ⟨w.heap.size + 1, 6, none⟩ = some (.int .i64 0) := by rw [Lib.cell_of_heap x1]; rfl
    have z16 : w1.frozen? ⟨w.heap.size + 1, 6, none⟩ = false := Lib.frozen_of_heap x1 6
    have d7_ : w1.cell? ⟨w.heap.size + 1, 7, none⟩ = some (.int .i64 0) := by rw [Lib.cell_of_heap x1]; rfl
    have z17 : w1.frozen? ⟨w.heap.size + 1, 7, none⟩ = false := Lib.frozen_of_heap x1 7
    have d8_ : w1.cell? ⟨w.heap.size + 1, 8, none⟩ = some (.bool false) := by rw [Lib.cell_of_heap x1]; rfl
    have z18 : w1.frozen? ⟨w.heap.size + 1, 8, none⟩ = false := Lib.frozen_of_heap x1 8
    generalize hS : bs (encs rs) = S at *
    have sx : (w1.setCell ⟨w.heap.size + 1 + 1, 4, none⟩ (.string S)).heap[w.heap.size + 1]? = some (Obj.cells #[.int .i64 0, .int .i64 0, .int .i64 0, .int .i64 0, .string ⟨#[]⟩, .slice none 0 0, .int .i64 0, .int .i64 0, .bool false] 34) := (Below.heap_setCell _ _ _ _ (by simp)).trans x1
    have sB := hB1.setCell (p := ⟨w.heap.size + 1 + 1, 4, none⟩) (by simp only; omega) (.string S)
    have hx9 := set9g (v0 := .int .i64 (1 + kk)) (v1 := .int .i64 1) (v2 := .int .i64 1) (v3 := .int .i64 pp) (v4 := .string S) (v5 := .slice none 0 0) (v6 := .int .i64 0) (v7 := .int .i64 0) (v8 := .bool false) sx
    have hq0 := sB.setCell (p := ⟨w.heap.size + 1, 0, none⟩) (by simp only; omega) (.int .i64 (1 + kk))
    have hq1 := hq0.setCell (p := ⟨w.heap.size + 1, 1, none⟩) (by simp only; omega) (.int .i64 1)
    have hq2 := hq1.setCell (p := ⟨w.heap.size + 1, 2, none⟩) (by simp only; omega) (.int .i64 1)
    have hq3 := hq2.setCell (p := ⟨w.heap.size + 1, 3, none⟩) (by simp only; omega) (.int .i64 pp)
    have hq4 := hq3.setCell (p := ⟨w.heap.size + 1, 4, none⟩) (by simp only; omega) (.string S)
    have hq5 := hq4.setCell (p := ⟨w.heap.size + 1, 5, none⟩) (by simp only; omega) (.slice none 0 0)
    have hq6 := hq5.setCell (p := ⟨w.heap.size + 1, 6, none⟩) (by simp only; omega) (.int .i64 0)
    have hq7 := hq6.setCell (p := ⟨w.heap.size + 1, 7, none⟩) (by simp only; omega) (.int .i64 0)
    have hq8 := hq7.setCell (p := ⟨w.heap.size + 1, 8, none⟩) (by simp only; omega) (.bool false)
    obtain ⟨w9, hw9⟩ : ∃ w9, ((((((((((w1.setCell ⟨w.heap.size + 1 + 1, 4, none⟩ (.string S)).setCell ⟨w.heap.size + 1, 0, none⟩ (.int .i64 (1 + kk))).setCell ⟨w.heap.size + 1, 1, none⟩ (.int .i64 1)).setCell ⟨w.heap.size + 1, 2, none⟩ (.int .i64 1)).setCell ⟨w.heap.size + 1, 3, none⟩ (.int .i64 pp)).setCell ⟨w.heap.size + 1, 4, none⟩ (.string S)).setCell ⟨w.heap.size + 1, 5, none⟩ (.slice none 0 0)).setCell ⟨w.heap.size + 1, 6, none⟩ (.int .i64 0)).setCell ⟨w.heap.size + 1, 7, none⟩ (.int .i64 0)).setCell ⟨w.heap.size + 1, 8, none⟩ (.bool false)) = w9 := ⟨_, rfl⟩
    rw [hw9] at hx9 hq8
    have r0 : w9.cell? ⟨w.heap.size + 1, 0, none⟩ = some (.int .i64 (1 + kk)) := by rw [Lib.cell_of_heap hx9]; rfl
    have r1 : w9.cell? ⟨w.heap.size + 1, 1, none⟩ = some (.int .i64 1) := by rw [Lib.cell_of_heap hx9]; rfl
    have r2 : w9.cell? ⟨w.heap.size + 1, 2, none⟩ = some (.int .i64 1) := by rw [Lib.cell_of_heap hx9]; rfl
    have r3 : w9.cell? ⟨w.heap.size + 1, 3, none⟩ = some (.int .i64 pp) := by rw [Lib.cell_of_heap hx9]; rfl
    have r4 : w9.cell? ⟨w.heap.size + 1, 4, none⟩ = some (.string S) := by rw [Lib.cell_of_heap hx9]; rfl
    have r5 : w9.cell? ⟨w.heap.size + 1, 5, none⟩ = some (.slice none 0 0) := by rw [Lib.cell_of_heap hx9]; rfl
    have r6 : w9.cell? ⟨w.heap.size + 1, 6, none⟩ = some (.int .i64 0) := by rw [Lib.cell_of_heap hx9]; rfl
    have r7 : w9.cell? ⟨w.heap.size + 1, 7, none⟩ = some (.int .i64 0) := by rw [Lib.cell_of_heap hx9]; rfl
    have r8 : w9.cell? ⟨w.heap.size + 1, 8, none⟩ = some (.bool false) := by rw [Lib.cell_of_heap hx9]; rfl
    clear hq7 hq6 hq5 hq4 hq3 hq2 hq1 hq0 sx sB
    go_wp2_with fail
    try rw [hw9]
    refine bodyPost_ret (v := .agg #[.int .i64 (1 + kk), .int .i64 1, .int .i64 1, .int .i64 pp, .string S, .slice none 0 0, .int .i64 0, .int .i64 0, .bool false]) (by simp [results, Tryd.results5, go_sem, r0, r1, r2, r3, r4, r5, r6, r7, r8]) rfl ⟨rs, by rw [hS], HNE.out, hle, HOK.out, hq8⟩
end Go.Proofs.YtajnadcinegmjaaDoor
