import Derived.Test.YtnbedohlgghhdaaDoorOqF
import Derived.Test.YtnbedohlgghhdaaDoorBrkD
import Derived.Test.YtnbedohlgghhdaaDoorOqA
import Derived.Test.YtnbedohlgghhdaaDoorClone
namespace Go.Proofs.YtnbedohlgghhdaaDoor
open Go.RowKit Go.Lib Sp
set_option maxRecDepth 100000

theorem runesB_from (ns : List Int) : ∀ s : ByteArray, (ns.foldl (fun r n => r ++ Utf8.encode n) s).data.toList = s.data.toList ++ encs ns := by
  induction ns with
  | nil => intro s; simp [encs]
  | cons n ns ih =>
    intro s
    rw [List.foldl_cons, ih, encs_cons, ByteArray.data_append, Array.toList_append, List.append_assoc]
    rfl
theorem runesB_bs (ns : List Int) : runesBytes ns = bs (encs ns) := by
  rw [← bs_id (runesBytes ns)]
  congr 1
  have := runesB_from ns ByteArray.empty
  rw [runesBytes, this]
  rfl
theorem conv_own {W : World} {B : Nat} {a : Option Addr} {n cap : Nat} {rs : List Int} (h : OwnF rune1 1 21 W B (.slice a n cap) rs) (h0 : rs ≠ []) : (convert 28 9 (.slice a n cap)).run Tryd.prog W = .ok (.string (bs (encs rs))) W := by
  have hr := h.rw_ layU
  have hl := hr.len
  have hn : 0 < n := by rw [← hl]; exact List.length_pos_iff.2 h0
  obtain ⟨g, off, rfl, hg, hc⟩ := hr.cells hn
  have := run_convert_runes (P := Tryd.prog) W 28 9 21 ⟨g, off, none⟩ n cap rs (by omega) Tryd.underlying28 Tryd.underlying21 Tryd.underlying9 (fun j hj => by
    have hx : rs[j]? = some rs[j] := List.getElem?_eq_getElem (by omega)
    have := hc j _ hx 0 _ rfl
    rw [addr_add']
    simpa [List.getD_eq_getElem?_getD, hx] using this)
  rw [this, ← hl, List.take_length, runesB_bs]
theorem text_own {rs : List Int} (h : ∀ r ∈ rs, okL r) : IsText (bs (encs rs)) rs := ⟨bs_list _, fun r hr => okL_okR (h r hr)⟩
/-- A deed's value. -/
def deedV (dk dp : Int) (tv pv : Value) : Value := .agg #[.int .i64 dk, .int .i64 dp, tv, pv]
/-- What right gives. -/
structure IsRight (o : OpV) (c : Int) (t : Nat) : Prop where
  own : ownP o = 0
  id : o.c = c ∧ o.n = 1
  size : o.s.size ≤ 4096

set_option maxHeartbeats 4000000 in
theorem right_ins {dk dp : Int} {ta pa : Option Addr} {tn_ tcap pn pcap : Nat} {zs : List Int} {w : World} (hT : Rw rune1 1 w ta tn_ tcap zs) (t : Nat) (ht : t ≤ 30000) (k : Int)
    (hk : dk % 3 = 0 ∨ t = 0 ∨ pn = 0) :
    Calls Tryd.prog 4 #[deedV dk dp (.slice ta tn_ tcap) (.slice pa pn pcap), .int .i64 (t : Int), .int .i64 k] w fun e w' => ∃ rs : List Int, e = .returned (opVal ⟨1 + k % 8, 1, 1, dp % ((t : Int) + 1), bs (encs rs), [], 0, 0, false⟩ (.slice none 0 0)) ∧ rs ≠ [] ∧ rs.length ≤ 256 ∧ (∀ r ∈ rs, okL r) ∧ Below w.heap.size w w' := by
  have b0 := Int.emod_nonneg k (show (8 : Int) ≠ 0 by decide)
  have b1 := Int.emod_lt_of_pos k (show (0 : Int) < 8 by decide)
  have d0 := Int.emod_nonneg dk (show (3 : Int) ≠ 0 by decide)
  have d1 := Int.emod_lt_of_pos dk (show (0 : Int) < 3 by decide)
  have p0 := Int.emod_nonneg dp (show (t : Int) + 1 ≠ 0 by omega)
  have p1 := Int.emod_lt_of_pos dp (show (0 : Int) < (t : Int) + 1 by omega)
  have H1 : Hid (∀ w : World, Calls Tryd.prog 12 #[.int .i64 k, .int .i64 8] w fun e w' => e = .returned (.int .i64 (k % 8)) ∧ w' = w) := pick_any k 8 (by decide) (by decide)
  have H2 : Hid (∀ w : World, Calls Tryd.prog 12 #[.int .i64 dk, .int .i64 3] w fun e w' => e = .returned (.int .i64 (dk % 3)) ∧ w' = w) := pick_any dk 3 (by decide) (by decide)
  have H3 : Hid (∀ w : World, Calls Tryd.prog 12 #[.int .i64 dp, .int .i64 ((t : Int) + 1)] w fun e w' => e = .returned (.int .i64 (dp % ((t : Int) + 1))) ∧ w' = w) := pick_any dp ((t : Int) + 1) (by omega) (by omega)
  have HL : Hid (∀ w' : World, Below w.heap.size w w' → Calls Tryd.prog 13 #[.slice ta tn_ tcap] w' fun e w'' => ∃ v rs, e = .returned v ∧ OwnF rune1 1 21 w'' w'.heap.size v rs ∧ rs ≠ [] ∧ rs.length ≤ 256 ∧ (∀ r ∈ rs, okL r) ∧ Below w'.heap.size w' w'') := fun w' hb => letters_any (hT.below hb)
  clear hT
  generalize k % 8 = kk at *
  generalize dk % 3 = dd at *
  generalize dp % ((t : Int) + 1) = pp at *
  simp only [deedV, opVal]
  have tcs : (dd == 0) = true ∨ ((dd == 0) = false ∧ ((t : Int) == 0) = true) ∨ ((dd == 0) = false ∧ ((t : Int) == 0) = false ∧ ((pn : Int) == 0) = true) := by
    by_cases h1 : dd = 0
    · left; simp [h1]
    · by_cases h2 : t = 0
      · right; left; simp [h1, h2]
      · right; right; exact ⟨by simp [h1], by simp; omega, by simp; omega⟩
  clear hk
  have tcs2 : dd = 0 ∨ (¬ dd = 0 ∧ t = 0) ∨ (¬ dd = 0 ∧ ¬ t = 0 ∧ pn = 0) := by
    rcases tcs with h | ⟨h, h2⟩ | ⟨h, h2, h3⟩
    · left; simpa using h
    · right; left; exact ⟨by simpa using h, by simp at h2; omega⟩
    · right; right; exact ⟨by simpa using h, by simp at h2; omega, by simp at h3; omega⟩
  clear tcs
  go_enter Tryd.func4, Tryd.ntmps4
  go_wp2_with fail
  refine (H1.out _).mono ?_
  rintro e w1 ⟨rfl, hw1⟩
  subst hw1
  go_wp2_with fail
  refine (H2.out _).mono ?_
  rintro e w1 ⟨rfl, hw1⟩
  subst hw1
  rcases tcs2 with h | ⟨h, h2⟩ | ⟨h, h2, h3⟩
  · subst h
    go_wp2_with fail
    refine (H3.out _).mono ?_
    rintro e w1 ⟨rfl, hw1⟩
    subst hw1
    go_wp2_with fail
    have hX : Below w.heap.size w (((w.alloc (Obj.cells #[.int .i64 dk, .int .i64 dp, .slice ta tn_ tcap, .slice pa pn pcap] 30)).alloc (Obj.cells #[.int .i64 0, .int .i64 0, .int .i64 0, .int .i64 0, .string ⟨#[]⟩, .slice none 0 0, .int .i64 0, .int .i64 0, .bool false] 38)).alloc (Obj.cells #[.int .i64 (1 + kk), .int .i64 1, .int .i64 1, .int .i64 pp, .string ⟨#[]⟩, .slice none 0 0, .int .i64 0, .int .i64 0, .bool false] 38)) := (((Below.refl w.heap.size w).alloc (Nat.le_refl _) _).alloc (by simp) _).alloc (by simp; omega) _
    have x0 : (((w.alloc (Obj.cells #[.int .i64 dk, .int .i64 dp, .slice ta tn_ tcap, .slice pa pn pcap] 30)).alloc (Obj.cells #[.int .i64 0, .int .i64 0, .int .i64 0, .int .i64 0, .string ⟨#[]⟩, .slice none 0 0, .int .i64 0, .int .i64 0, .bool false] 38)).alloc (Obj.cells #[.int .i64 (1 + kk), .int .i64 1, .int .i64 1, .int .i64 pp, .string ⟨#[]⟩, .slice none 0 0, .int .i64 0, .int .i64 0, .bool false] 38)).heap[w.heap.size + 1]? = some (Obj.cells #[.int .i64 0, .int .i64 0, .int .i64 0, .int .i64 0, .string ⟨#[]⟩, .slice none 0 0, .int .i64 0, .int .i64 0, .bool false] 38) := (Below.heap_alloc _ _ _ (by simp)).trans (alloc_last _ _ _ (by simp))
    have y0 : (((w.alloc (Obj.cells #[.int .i64 dk, .int .i64 dp, .slice ta tn_ tcap, .slice pa pn pcap] 30)).alloc (Obj.cells #[.int .i64 0, .int .i64 0, .int .i64 0, .int .i64 0, .string ⟨#[]⟩, .slice none 0 0, .int .i64 0, .int .i64 0, .bool false] 38)).alloc (Obj.cells #[.int .i64 (1 + kk), .int .i64 1, .int .i64 1, .int .i64 pp, .string ⟨#[]⟩, .slice none 0 0, .int .i64 0, .int .i64 0, .bool false] 38)).heap[w.heap.size + 1 + 1]? = some (Obj.cells #[.int .i64 (1 + kk), .int .i64 1, .int .i64 1, .int .i64 pp, .string ⟨#[]⟩, .slice none 0 0, .int .i64 0, .int .i64 0, .bool false] 38) := alloc_last _ _ _ (by simp)
    refine (HL.out _ hX).mono ?_
    rintro e w1 ⟨v, rs, rfl, hown, hne, hle, hok, hb1⟩
    have hB1 := hX.trans (hb1.mono hX.size)
    have x1 := (hb1.block _ (Array.getElem?_eq_some_iff.1 x0).1).trans x0
    have y1 := (hb1.block _ (Array.getElem?_eq_some_iff.1 y0).1).trans y0
    obtain ⟨va, vc, rfl⟩ := hown.shape
    have hcv := conv_own hown hne
    have HOK : Hid (∀ r ∈ rs, okL r) := hok
    have HNE : Hid (rs ≠ []) := hne
    clear hX x0 y0 hb1 hown hok hne
    have f0 : w1.cell? ⟨w.heap.size + 1 + 1, 0, none⟩ = some (.int .i64 (1 + kk)) := by rw [Lib.cell_of_heap y1]; rfl
    have f1 : w1.cell? ⟨w.heap.size + 1 + 1, 1, none⟩ = some (.int .i64 1) := by rw [Lib.cell_of_heap y1]; rfl
    have f2 : w1.cell? ⟨w.heap.size + 1 + 1, 2, none⟩ = some (.int .i64 1) := by rw [Lib.cell_of_heap y1]; rfl
    have f3 : w1.cell? ⟨w.heap.size + 1 + 1, 3, none⟩ = some (.int .i64 pp) := by rw [Lib.cell_of_heap y1]; rfl
    have f4 : w1.cell? ⟨w.heap.size + 1 + 1, 4, none⟩ = some (.string ⟨#[]⟩) := by rw [Lib.cell_of_heap y1]; rfl
    have f5 : w1.cell? ⟨w.heap.size + 1 + 1, 5, none⟩ = some (.slice none 0 0) := by rw [Lib.cell_of_heap y1]; rfl
    have f6 : w1.cell? ⟨w.heap.size + 1 + 1, 6, none⟩ = some (.int .i64 0) := by rw [Lib.cell_of_heap y1]; rfl
    have f7 : w1.cell? ⟨w.heap.size + 1 + 1, 7, none⟩ = some (.int .i64 0) := by rw [Lib.cell_of_heap y1]; rfl
    have f8 : w1.cell? ⟨w.heap.size + 1 + 1, 8, none⟩ = some (.bool false) := by rw [Lib.cell_of_heap y1]; rfl
    have z4 : w1.frozen? ⟨w.heap.size + 1 + 1, 4, none⟩ = false := Lib.frozen_of_heap y1 4
    have d0_ : w1.cell? ⟨w.heap.size + 1, 0, none⟩ = some (.int .i64 0) := by rw [Lib.cell_of_heap x1]; rfl
    have z10 : w1.frozen? ⟨w.heap.size + 1, 0, none⟩ = false := Lib.frozen_of_heap x1 0
    have d1_ : w1.cell? ⟨w.heap.size + 1, 1, none⟩ = some (.int .i64 0) := by rw [Lib.cell_of_heap x1]; rfl
    have z11 : w1.frozen? ⟨w.heap.size + 1, 1, none⟩ = false := Lib.frozen_of_heap x1 1
    have d2_ : w1.cell? ⟨w.heap.size + 1, 2, none⟩ = some (.int .i64 0) := by rw [Lib.cell_of_heap x1]; rfl
    have z12 : w1.frozen? ⟨w.heap.size + 1, 2, none⟩ = false := Lib.frozen_of_heap x1 2
    have d3_ : w1.cell? ⟨w.heap.size + 1, 3, none⟩ = some (.int .i64 0) := by rw [Lib.cell_of_heap x1]; rfl
    have z13 : w1.frozen? ⟨w.heap.size + 1, 3, none⟩ = false := Lib.frozen_of_heap x1 3
    have d4_ : w1.cell? ⟨w.heap.size + 1, 4, none⟩ = some (.string ⟨#[]⟩) := by rw [Lib.cell_of_heap x1]; rfl
    have z14 : w1.frozen? ⟨w.heap.size + 1, 4, none⟩ = false := Lib.frozen_of_heap x1 4
    have d5_ : w1.cell? ⟨w.heap.size + 1, 5, none⟩ = some (.slice none 0 0) := by rw [Lib.cell_of_heap x1]; rfl
    have z15 : w1.frozen? ⟨w.heap.size + 1, 5, none⟩ = false := Lib.frozen_of_heap x1 5
    have d6_ : w1.cell? ⟨w.heap.size + 1, 6, none⟩ = some (.int .i64 0) := by rw [Lib.cell_of_heap x1]; rfl
    have z16 : w1.frozen? ⟨w.heap.size + 1, 6, none⟩ = false := Lib.frozen_of_heap x1 6
    have d7_ : w1.cell? ⟨w.heap.size + 1, 7, none⟩ = some (.int .i64 0) := by rw [Lib.cell_of_heap x1]; rfl
    have z17 : w1.frozen? ⟨w.heap.size + 1, 7, none⟩ = false := Lib.frozen_of_heap x1 7
    have d8_ : w1.cell? ⟨w.heap.size + 1, 8, none⟩ = some (.bool false) := by rw [Lib.cell_of_heap x1]; rfl
    have z18 : w1.frozen? ⟨w.heap.size + 1, 8, none⟩ = false := Lib.frozen_of_heap x1 8
    generalize hS : bs (encs rs) = S at *
    have sx : (w1.setCell ⟨w.heap.size + 1 + 1, 4, none⟩ (.string S)).heap[w.heap.size + 1]? = some (Obj.cells #[.int .i64 0, .int .i64 0, .int .i64 0, .int .i64 0, .string ⟨#[]⟩, .slice none 0 0, .int .i64 0, .int .i64 0, .bool false] 38) := (Below.heap_setCell _ _ _ _ (by simp)).trans x1
    have sB := hB1.setCell (p := ⟨w.heap.size + 1 + 1, 4, none⟩) (by simp only; omega) (.string S)
    have hx9 := set9g (v0 := .int .i64 (1 + kk)) (v1 := .int .i64 1) (v2 := .int .i64 1) (v3 := .int .i64 pp) (v4 := .string S) (v5 := .slice none 0 0) (v6 := .int .i64 0) (v7 := .int .i64 0) (v8 := .bool false) sx
    have hq0 := sB.setCell (p := ⟨w.heap.size + 1, 0, none⟩) (by simp only; omega) (.int .i64 (1 + kk))
    have hq1 := hq0.setCell (p := ⟨w.heap.size + 1, 1, none⟩) (by simp only; omega) (.int .i64 1)
    have hq2 := hq1.setCell (p := ⟨w.heap.size + 1, 2, none⟩) (by simp only; omega) (.int .i64 1)
    have hq3 := hq2.setCell (p := ⟨w.heap.size + 1, 3, none⟩) (by simp only; omega) (.int .i64 pp)
    have hq4 := hq3.setCell (p := ⟨w.heap.size + 1, 4, none⟩) (by simp only; omega) (.string S)
    have hq5 := hq4.setCell (p := ⟨w.heap.size + 1, 5, none⟩) (by simp only; omega) (.slice none 0 0)
    have hq6 := hq5.setCell (p := ⟨w.heap.size + 1, 6, none⟩) (by simp only; omega) (.int .i64 0)
    have hq7 := hq6.setCell (p := ⟨w.heap.size + 1, 7, none⟩) (by simp only; omega) (.int .i64 0)
    have hq8 := hq7.setCell (p := ⟨w.heap.size + 1, 8, none⟩) (by simp only; omega) (.bool false)
    obtain ⟨w9, hw9⟩ : ∃ w9, ((((((((((w1.setCell ⟨w.heap.size + 1 + 1, 4, none⟩ (.string S)).setCell ⟨w.heap.size + 1, 0, none⟩ (.int .i64 (1 + kk))).setCell ⟨w.heap.size + 1, 1, none⟩ (.int .i64 1)).setCell ⟨w.heap.size + 1, 2, none⟩ (.int .i64 1)).setCell ⟨w.heap.size + 1, 3, none⟩ (.int .i64 pp)).setCell ⟨w.heap.size + 1, 4, none⟩ (.string S)).setCell ⟨w.heap.size + 1, 5, none⟩ (.slice none 0 0)).setCell ⟨w.heap.size + 1, 6, none⟩ (.int .i64 0)).setCell ⟨w.heap.size + 1, 7, none⟩ (.int .i64 0)).setCell ⟨w.heap.size + 1, 8, none⟩ (.bool false)) = w9 := ⟨_, rfl⟩
    rw [hw9] at hx9 hq8
    have r0 : w9.cell? ⟨w.heap.size + 1, 0, none⟩ = some (.int .i64 (1 + kk)) := by rw [Lib.cell_of_heap hx9]; rfl
    have r1 : w9.cell? ⟨w.heap.size + 1, 1, none⟩ = some (.int .i64 1) := by rw [Lib.cell_of_heap hx9]; rfl
    have r2 : w9.cell? ⟨w.heap.size + 1, 2, none⟩ = some (.int .i64 1) := by rw [Lib.cell_of_heap hx9]; rfl
    have r3 : w9.cell? ⟨w.heap.size + 1, 3, none⟩ = some (.int .i64 pp) := by rw [Lib.cell_of_heap hx9]; rfl
    have r4 : w9.cell? ⟨w.heap.size + 1, 4, none⟩ = some (.string S) := by rw [Lib.cell_of_heap hx9]; rfl
    have r5 : w9.cell? ⟨w.heap.size + 1, 5, none⟩ = some (.slice none 0 0) := by rw [Lib.cell_of_heap hx9]; rfl
    have r6 : w9.cell? ⟨w.heap.size + 1, 6, none⟩ = some (.int .i64 0) := by rw [Lib.cell_of_heap hx9]; rfl
    have r7 : w9.cell? ⟨w.heap.size + 1, 7, none⟩ = some (.int .i64 0) := by rw [Lib.cell_of_heap hx9]; rfl
    have r8 : w9.cell? ⟨w.heap.size + 1, 8, none⟩ = some (.bool false) := by rw [Lib.cell_of_heap hx9]; rfl
    clear hq7 hq6 hq5 hq4 hq3 hq2 hq1 hq0 sx sB
    go_wp2_with fail
    try rw [hw9]
    refine bodyPost_ret (v := .agg #[.int .i64 (1 + kk), .int .i64 1, .int .i64 1, .int .i64 pp, .string S, .slice none 0 0, .int .i64 0, .int .i64 0, .bool false]) (by simp [results, Tryd.results4, go_sem, r0, r1, r2, r3, r4, r5, r6, r7, r8]) rfl ⟨rs, by rw [hS], HNE.out, hle, HOK.out, hq8⟩
  · have t1 : (dd == 0) = false := beq_eq_false_iff_ne.2 h
    have t2 : decide (dd = 0) = false := decide_eq_false h
    have t3 : ((t : Int) == 0) = true := by simp [h2]
    clear h2 h
    go_wp2_with fail
    refine (H3.out _).mono ?_
    rintro e w1 ⟨rfl, hw1⟩
    subst hw1
    go_wp2_with fail
    have hX : Below w.heap.size w (((w.alloc (Obj.cells #[.int .i64 dk, .int .i64 dp, .slice ta tn_ tcap, .slice pa pn pcap] 30)).alloc (Obj.cells #[.int .i64 0, .int .i64 0, .int .i64 0, .int .i64 0, .string ⟨#[]⟩, .slice none 0 0, .int .i64 0, .int .i64 0, .bool false] 38)).alloc (Obj.cells #[.int .i64 (1 + kk), .int .i64 1, .int .i64 1, .int .i64 pp, .string ⟨#[]⟩, .slice none 0 0, .int .i64 0, .int .i64 0, .bool false] 38)) := (((Below.refl w.heap.size w).alloc (Nat.le_refl _) _).alloc (by simp) _).alloc (by simp; omega) _
    have x0 : (((w.alloc (Obj.cells #[.int .i64 dk, .int .i64 dp, .slice ta tn_ tcap, .slice pa pn pcap] 30)).alloc (Obj.cells #[.int .i64 0, .int .i64 0, .int .i64 0, .int .i64 0, .string ⟨#[]⟩, .slice none 0 0, .int .i64 0, .int .i64 0, .bool false] 38)).alloc (Obj.cells #[.int .i64 (1 + kk), .int .i64 1, .int .i64 1, .int .i64 pp, .string ⟨#[]⟩, .slice none 0 0, .int .i64 0, .int .i64 0, .bool false] 38)).heap[w.heap.size + 1]? = some (Obj.cells #[.int .i64 0, .int .i64 0, .int .i64 0, .int .i64 0, .string ⟨#[]⟩, .slice none 0 0, .int .i64 0, .int .i64 0, .bool false] 38) := (Below.heap_alloc _ _ _ (by simp)).trans (alloc_last _ _ _ (by simp))
    have y0 : (((w.alloc (Obj.cells #[.int .i64 dk, .int .i64 dp, .slice ta tn_ tcap, .slice pa pn pcap] 30)).alloc (Obj.cells #[.int .i64 0, .int .i64 0, .int .i64 0, .int .i64 0, .string ⟨#[]⟩, .slice none 0 0, .int .i64 0, .int .i64 0, .bool false] 38)).alloc (Obj.cells #[.int .i64 (1 + kk), .int .i64 1, .int .i64 1, .int .i64 pp, .string ⟨#[]⟩, .slice none 0 0, .int .i64 0, .int .i64 0, .bool false] 38)).heap[w.heap.size + 1 + 1]? = some (Obj.cells #[.int .i64 (1 + kk), .int .i64 1, .int .i64 1, .int .i64 pp, .string ⟨#[]⟩, .slice none 0 0, .int .i64 0, .int .i64 0, .bool false] 38) := alloc_last _ _ _ (by simp)
    refine (HL.out _ hX).mono ?_
    rintro e w1 ⟨v, rs, rfl, hown, hne, hle, hok, hb1⟩
    have hB1 := hX.trans (hb1.mono hX.size)
    have x1 := (hb1.block _ (Array.getElem?_eq_some_iff.1 x0).1).trans x0
    have y1 := (hb1.block _ (Array.getElem?_eq_some_iff.1 y0).1).trans y0
    obtain ⟨va, vc, rfl⟩ := hown.shape
    have hcv := conv_own hown hne
    have HOK : Hid (∀ r ∈ rs, okL r) := hok
    have HNE : Hid (rs ≠ []) := hne
    clear hX x0 y0 hb1 hown hok hne
    have f0 : w1.cell? ⟨w.heap.size + 1 + 1, 0, none⟩ = some (.int .i64 (1 + kk)) := by rw [Lib.cell_of_heap y1]; rfl
    have f1 : w1.cell? ⟨w.heap.size + 1 + 1, 1, none⟩ = some (.int .i64 1) := by rw [Lib.cell_of_heap y1]; rfl
    have f2 : w1.cell? ⟨w.heap.size + 1 + 1, 2, none⟩ = some (.int .i64 1) := by rw [Lib.cell_of_heap y1]; rfl
    have f3 : w1.cell? ⟨w.heap.size + 1 + 1, 3, none⟩ = some (.int .i64 pp) := by rw [Lib.cell_of_heap y1]; rfl
    have f4 : w1.cell? ⟨w.heap.size + 1 + 1, 4, none⟩ = some (.string ⟨#[]⟩) := by rw [Lib.cell_of_heap y1]; rfl
    have f5 : w1.cell? ⟨w.heap.size + 1 + 1, 5, none⟩ = some (.slice none 0 0) := by rw [Lib.cell_of_heap y1]; rfl
    have f6 : w1.cell? ⟨w.heap.size + 1 + 1, 6, none⟩ = some (.int .i64 0) := by rw [Lib.cell_of_heap y1]; rfl
    have f7 : w1.cell? ⟨w.heap.size + 1 + 1, 7, none⟩ = some (.int .i64 0) := by rw [Lib.cell_of_heap y1]; rfl
    have f8 : w1.cell? ⟨w.heap.size + 1 + 1, 8, none⟩ = some (.bool false) := by rw [Lib.cell_of_heap y1]; rfl
    have z4 : w1.frozen? ⟨w.heap.size + 1 + 1, 4, none⟩ = false := Lib.frozen_of_heap y1 4
    have d0_ : w1.cell? ⟨w.heap.size + 1, 0, none⟩ = some (.int .i64 0) := by rw [Lib.cell_of_heap x1]; rfl
    have z10 : w1.frozen? ⟨w.heap.size + 1, 0, none⟩ = false := Lib.frozen_of_heap x1 0
    have d1_ : w1.cell? ⟨w.heap.size + 1, 1, none⟩ = some (.int .i64 0) := by rw [Lib.cell_of_heap x1]; rfl
    have z11 : w1.frozen? ⟨w.heap.size + 1, 1, none⟩ = false := Lib.frozen_of_heap x1 1
    have d2_ : w1.cell? ⟨w.heap.size + 1, 2, none⟩ = some (.int .i64 0) := by rw [Lib.cell_of_heap x1]; rfl
    have z12 : w1.frozen? ⟨w.heap.size + 1, 2, none⟩ = false := Lib.frozen_of_heap x1 2
    have d3_ : w1.cell? ⟨w.heap.size + 1, 3, none⟩ = some (.int .i64 0) := by rw [Lib.cell_of_heap x1]; rfl
    have z13 : w1.frozen? ⟨w.heap.size + 1, 3, none⟩ = false := Lib.frozen_of_heap x1 3
    have d4_ : w1.cell? ⟨w.heap.size + 1, 4, none⟩ = some (.string ⟨#[]⟩) := by rw [Lib.cell_of_heap x1]; rfl
    have z14 : w1.frozen? ⟨w.heap.size + 1, 4, none⟩ = false := Lib.frozen_of_heap x1 4
    have d5_ : w1.cell? ⟨w.heap.size + 1, 5, none⟩ = some (.slice none 0 0) := by rw [Lib.cell_of_heap x1]; rfl
    have z15 : w1.frozen? ⟨w.heap.size + 1, 5, none⟩ = false := Lib.frozen_of_heap x1 5
    have d6_ : w1.cell? ⟨w.heap.size + 1, 6, none⟩ = some (.int .i64 0) := by rw [Lib.cell_of_heap x1]; rfl
    have z16 : w1.frozen? ⟨w.heap.size + 1, 6, none⟩ = false := Lib.frozen_of_heap x1 6
    have d7_ : w1.cell? ⟨w.heap.size + 1, 7, none⟩ = some (.int .i64 0) := by rw [Lib.cell_of_heap x1]; rfl
    have z17 : w1.frozen? ⟨w.heap.size + 1, 7, none⟩ = false := Lib.frozen_of_heap x1 7
    have d8_ : w1.cell? ⟨w.heap.size + 1, 8, none⟩ = some (.bool false) := by rw [Lib.cell_of_heap x1]; rfl
    have z18 : w1.frozen? ⟨w.heap.size + 1, 8, none⟩ = false := Lib.frozen_of_heap x1 8
    generalize hS : bs (encs rs) = S at *
    have sx : (w1.setCell ⟨w.heap.size + 1 + 1, 4, none⟩ (.string S)).heap[w.heap.size + 1]? = some (Obj.cells #[.int .i64 0, .int .i64 0, .int .i64 0, .int .i64 0, .string ⟨#[]⟩, .slice none 0 0, .int .i64 0, .int .i64 0, .bool false] 38) := (Below.heap_setCell _ _ _ _ (by simp)).trans x1
    have sB := hB1.setCell (p := ⟨w.heap.size + 1 + 1, 4, none⟩) (by simp only; omega) (.string S)
    have hx9 := set9g (v0 := .int .i64 (1 + kk)) (v1 := .int .i64 1) (v2 := .int .i64 1) (v3 := .int .i64 pp) (v4 := .string S) (v5 := .slice none 0 0) (v6 := .int .i64 0) (v7 := .int .i64 0) (v8 := .bool false) sx
    have hq0 := sB.setCell (p := ⟨w.heap.size + 1, 0, none⟩) (by simp only; omega) (.int .i64 (1 + kk))
    have hq1 := hq0.setCell (p := ⟨w.heap.size + 1, 1, none⟩) (by simp only; omega) (.int .i64 1)
    have hq2 := hq1.setCell (p := ⟨w.heap.size + 1, 2, none⟩) (by simp only; omega) (.int .i64 1)
    have hq3 := hq2.setCell (p := ⟨w.heap.size + 1, 3, none⟩) (by simp only; omega) (.int .i64 pp)
    have hq4 := hq3.setCell (p := ⟨w.heap.size + 1, 4, none⟩) (by simp only; omega) (.string S)
    have hq5 := hq4.setCell (p := ⟨w.heap.size + 1, 5, none⟩) (by simp only; omega) (.slice none 0 0)
    have hq6 := hq5.setCell (p := ⟨w.heap.size + 1, 6, none⟩) (by simp only; omega) (.int .i64 0)
    have hq7 := hq6.setCell (p := ⟨w.heap.size + 1, 7, none⟩) (by simp only; omega) (.int .i64 0)
    have hq8 := hq7.setCell (p := ⟨w.heap.size + 1, 8, none⟩) (by simp only; omega) (.bool false)
    obtain ⟨w9, hw9⟩ : ∃ w9, ((((((((((w1.setCell ⟨w.heap.size + 1 + 1, 4, none⟩ (.string S)).setCell ⟨w.heap.size + 1, 0, none⟩ (.int .i64 (1 + kk))).setCell ⟨w.heap.size + 1, 1, none⟩ (.int .i64 1)).setCell ⟨w.heap.size + 1, 2, none⟩ (.int .i64 1)).setCell ⟨w.heap.size + 1, 3, none⟩ (.int .i64 pp)).setCell ⟨w.heap.size + 1, 4, none⟩ (.string S)).setCell ⟨w.heap.size + 1, 5, none⟩ (.slice none 0 0)).setCell ⟨w.heap.size + 1, 6, none⟩ (.int .i64 0)).setCell ⟨w.heap.size + 1, 7, none⟩ (.int .i64 0)).setCell ⟨w.heap.size + 1, 8, none⟩ (.bool false)) = w9 := ⟨_, rfl⟩
    rw [hw9] at hx9 hq8
    have r0 : w9.cell? ⟨w.heap.size + 1, 0, none⟩ = some (.int .i64 (1 + kk)) := by rw [Lib.cell_of_heap hx9]; rfl
    have r1 : w9.cell? ⟨w.heap.size + 1, 1, none⟩ = some (.int .i64 1) := by rw [Lib.cell_of_heap hx9]; rfl
    have r2 : w9.cell? ⟨w.heap.size + 1, 2, none⟩ = some (.int .i64 1) := by rw [Lib.cell_of_heap hx9]; rfl
    have r3 : w9.cell? ⟨w.heap.size + 1, 3, none⟩ = some (.int .i64 pp) := by rw [Lib.cell_of_heap hx9]; rfl
    have r4 : w9.cell? ⟨w.heap.size + 1, 4, none⟩ = some (.string S) := by rw [Lib.cell_of_heap hx9]; rfl
    have r5 : w9.cell? ⟨w.heap.size + 1, 5, none⟩ = some (.slice none 0 0) := by rw [Lib.cell_of_heap hx9]; rfl
    have r6 : w9.cell? ⟨w.heap.size + 1, 6, none⟩ = some (.int .i64 0) := by rw [Lib.cell_of_heap hx9]; rfl
    have r7 : w9.cell? ⟨w.heap.size + 1, 7, none⟩ = some (.int .i64 0) := by rw [Lib.cell_of_heap hx9]; rfl
    have r8 : w9.cell? ⟨w.heap.size + 1, 8, none⟩ = some (.bool false) := by rw [Lib.cell_of_heap hx9]; rfl
    clear hq7 hq6 hq5 hq4 hq3 hq2 hq1 hq0 sx sB
    go_wp2_with fail
    try rw [hw9]
    refine bodyPost_ret (v := .agg #[.int .i64 (1 + kk), .int .i64 1, .int .i64 1, .int .i64 pp, .string S, .slice none 0 0, .int .i64 0, .int .i64 0, .bool false]) (by simp [results, Tryd.results4, go_sem, r0, r1, r2, r3, r4, r5, r6, r7, r8]) rfl ⟨rs, by rw [hS], HNE.out, hle, HOK.out, hq8⟩
  · have t1 : (dd == 0) = false := beq_eq_false_iff_ne.2 h
    have t2 : decide (dd = 0) = false := decide_eq_false h
    have t3 : ((t : Int) == 0) = false := beq_eq_false_iff_ne.2 (by omega)
    have t5 : ((pn : Int) == 0) = true := by simp [h3]
    clear h2 h3 h
    go_wp2_with fail
    refine (H3.out _).mono ?_
    rintro e w1 ⟨rfl, hw1⟩
    subst hw1
    go_wp2_with fail
    have hX : Below w.heap.size w (((w.alloc (Obj.cells #[.int .i64 dk, .int .i64 dp, .slice ta tn_ tcap, .slice pa pn pcap] 30)).alloc (Obj.cells #[.int .i64 0, .int .i64 0, .int .i64 0, .int .i64 0, .string ⟨#[]⟩, .slice none 0 0, .int .i64 0, .int .i64 0, .bool false] 38)).alloc (Obj.cells #[.int .i64 (1 + kk), .int .i64 1, .int .i64 1, .int .i64 pp, .string ⟨#[]⟩, .slice none 0 0, .int .i64 0, .int .i64 0, .bool false] 38)) := (((Below.refl w.heap.size w).alloc (Nat.le_refl _) _).alloc (by simp) _).alloc (by simp; omega) _
    have x0 : (((w.alloc (Obj.cells #[.int .i64 dk, .int .i64 dp, .slice ta tn_ tcap, .slice pa pn pcap] 30)).alloc (Obj.cells #[.int .i64 0, .int .i64 0, .int .i64 0, .int .i64 0, .string ⟨#[]⟩, .slice none 0 0, .int .i64 0, .int .i64 0, .bool false] 38)).alloc (Obj.cells #[.int .i64 (1 + kk), .int .i64 1, .int .i64 1, .int .i64 pp, .string ⟨#[]⟩, .slice none 0 0, .int .i64 0, .int .i64 0, .bool false] 38)).heap[w.heap.size + 1]? = some (Obj.cells #[.int .i64 0, .int .i64 0, .int .i64 0, .int .i64 0, .string ⟨#[]⟩, .slice none 0 0, .int .i64 0, .int .i64 0, .bool false] 38) := (Below.heap_alloc _ _ _ (by simp)).trans (alloc_last _ _ _ (by simp))
    have y0 : (((w.alloc (Obj.cells #[.int .i64 dk, .int .i64 dp, .slice ta tn_ tcap, .slice pa pn pcap] 30)).alloc (Obj.cells #[.int .i64 0, .int .i64 0, .int .i64 0, .int .i64 0, .string ⟨#[]⟩, .slice none 0 0, .int .i64 0, .int .i64 0, .bool false] 38)).alloc (Obj.cells #[.int .i64 (1 + kk), .int .i64 1, .int .i64 1, .int .i64 pp, .string ⟨#[]⟩, .slice none 0 0, .int .i64 0, .int .i64 0, .bool false] 38)).heap[w.heap.size + 1 + 1]? = some (Obj.cells #[.int .i64 (1 + kk), .int .i64 1, .int .i64 1, .int .i64 pp, .string ⟨#[]⟩, .slice none 0 0, .int .i64 0, .int .i64 0, .bool false] 38) := alloc_last _ _ _ (by simp)
    refine (HL.out _ hX).mono ?_
    rintro e w1 ⟨v, rs, rfl, hown, hne, hle, hok, hb1⟩
    have hB1 := hX.trans (hb1.mono hX.size)
    have x1 := (hb1.block _ (Array.getElem?_eq_some_iff.1 x0).1).trans x0
    have y1 := (hb1.block _ (Array.getElem?_eq_some_iff.1 y0).1).trans y0
    obtain ⟨va, vc, rfl⟩ := hown.shape
    have hcv := conv_own hown hne
    have HOK : Hid (∀ r ∈ rs, okL r) := hok
    have HNE : Hid (rs ≠ []) := hne
    clear hX x0 y0 hb1 hown hok hne
    have f0 : w1.cell? ⟨w.heap.size + 1 + 1, 0, none⟩ = some (.int .i64 (1 + kk)) := by rw [Lib.cell_of_heap y1]; rfl
    have f1 : w1.cell? ⟨w.heap.size + 1 + 1, 1, none⟩ = some (.int .i64 1) := by rw [Lib.cell_of_heap y1]; rfl
    have f2 : w1.cell? ⟨w.heap.size + 1 + 1, 2, none⟩ = some (.int .i64 1) := by rw [Lib.cell_of_heap y1]; rfl
    have f3 : w1.cell? ⟨w.heap.size + 1 + 1, 3, none⟩ = some (.int .i64 pp) := by rw [Lib.cell_of_heap y1]; rfl
    have f4 : w1.cell? ⟨w.heap.size + 1 + 1, 4, none⟩ = some (.string ⟨#[]⟩) := by rw [Lib.cell_of_heap y1]; rfl
    have f5 : w1.cell? ⟨w.heap.size + 1 + 1, 5, none⟩ = some (.slice none 0 0) := by rw [Lib.cell_of_heap y1]; rfl
    have f6 : w1.cell? ⟨w.heap.size + 1 + 1, 6, none⟩ = some (.int .i64 0) := by rw [Lib.cell_of_heap y1]; rfl
    have f7 : w1.cell? ⟨w.heap.size + 1 + 1, 7, none⟩ = some (.int .i64 0) := by rw [Lib.cell_of_heap y1]; rfl
    have f8 : w1.cell? ⟨w.heap.size + 1 + 1, 8, none⟩ = some (.bool false) := by rw [Lib.cell_of_heap y1]; rfl
    have z4 : w1.frozen? ⟨w.heap.size + 1 + 1, 4, none⟩ = false := Lib.frozen_of_heap y1 4
    have d0_ : w1.cell? ⟨w.heap.size + 1, 0, none⟩ = some (.int .i64 0) := by rw [Lib.cell_of_heap x1]; rfl
    have z10 : w1.frozen? ⟨w.heap.size + 1, 0, none⟩ = false := Lib.frozen_of_heap x1 0
    have d1_ : w1.cell? ⟨w.heap.size + 1, 1, none⟩ = some (.int .i64 0) := by rw [Lib.cell_of_heap x1]; rfl
    have z11 : w1.frozen? ⟨w.heap.size + 1, 1, none⟩ = false := Lib.frozen_of_heap x1 1
    have d2_ : w1.cell? ⟨w.heap.size + 1, 2, none⟩ = some (.int .i64 0) := by rw [Lib.cell_of_heap x1]; rfl
    have z12 : w1.frozen? ⟨w.heap.size + 1, 2, none⟩ = false := Lib.frozen_of_heap x1 2
    have d3_ : w1.cell? ⟨w.heap.size + 1, 3, none⟩ = some (.int .i64 0) := by rw [Lib.cell_of_heap x1]; rfl
    have z13 : w1.frozen? ⟨w.heap.size + 1, 3, none⟩ = false := Lib.frozen_of_heap x1 3
    have d4_ : w1.cell? ⟨w.heap.size + 1, 4, none⟩ = some (.string ⟨#[]⟩) := by rw [Lib.cell_of_heap x1]; rfl
    have z14 : w1.frozen? ⟨w.heap.size + 1, 4, none⟩ = false := Lib.frozen_of_heap x1 4
    have d5_ : w1.cell? ⟨w.heap.size + 1, 5, none⟩ = some (.slice none 0 0) := by rw [Lib.cell_of_heap x1]; rfl
    have z15 : w1.frozen? ⟨w.heap.size + 1, 5, none⟩ = false := Lib.frozen_of_heap x1 5
    have d6_ : w1.cell? ⟨w.heap.size + 1, 6, none⟩ = some (.int .i64 0) := by rw [Lib.cell_of_heap x1]; rfl
    have z16 : w1.frozen? ⟨w.heap.size + 1, 6, none⟩ = false := Lib.frozen_of_heap x1 6
    have d7_ : w1.cell? ⟨w.heap.size + 1, 7, none⟩ = some (.int .i64 0) := by rw [Lib.cell_of_heap x1]; rfl
    have z17 : w1.frozen? ⟨w.heap.size + 1, 7, none⟩ = false := Lib.frozen_of_heap x1 7
    have d8_ : w1.cell? ⟨w.heap.size + 1, 8, none⟩ = some (.bool false) := by rw [Lib.cell_of_heap x1]; rfl
    have z18 : w1.frozen? ⟨w.heap.size + 1, 8, none⟩ = false := Lib.frozen_of_heap x1 8
    generalize hS : bs (encs rs) = S at *
    have sx : (w1.setCell ⟨w.heap.size + 1 + 1, 4, none⟩ (.string S)).heap[w.heap.size + 1]? = some (Obj.cells #[.int .i64 0, .int .i64 0, .int .i64 0, .int .i64 0, .string ⟨#[]⟩, .slice none 0 0, .int .i64 0, .int .i64 0, .bool false] 38) := (Below.heap_setCell _ _ _ _ (by simp)).trans x1
    have sB := hB1.setCell (p := ⟨w.heap.size + 1 + 1, 4, none⟩) (by simp only; omega) (.string S)
    have hx9 := set9g (v0 := .int .i64 (1 + kk)) (v1 := .int .i64 1) (v2 := .int .i64 1) (v3 := .int .i64 pp) (v4 := .string S) (v5 := .slice none 0 0) (v6 := .int .i64 0) (v7 := .int .i64 0) (v8 := .bool false) sx
    have hq0 := sB.setCell (p := ⟨w.heap.size + 1, 0, none⟩) (by simp only; omega) (.int .i64 (1 + kk))
    have hq1 := hq0.setCell (p := ⟨w.heap.size + 1, 1, none⟩) (by simp only; omega) (.int .i64 1)
    have hq2 := hq1.setCell (p := ⟨w.heap.size + 1, 2, none⟩) (by simp only; omega) (.int .i64 1)
    have hq3 := hq2.setCell (p := ⟨w.heap.size + 1, 3, none⟩) (by simp only; omega) (.int .i64 pp)
    have hq4 := hq3.setCell (p := ⟨w.heap.size + 1, 4, none⟩) (by simp only; omega) (.string S)
    have hq5 := hq4.setCell (p := ⟨w.heap.size + 1, 5, none⟩) (by simp only; omega) (.slice none 0 0)
    have hq6 := hq5.setCell (p := ⟨w.heap.size + 1, 6, none⟩) (by simp only; omega) (.int .i64 0)
    have hq7 := hq6.setCell (p := ⟨w.heap.size + 1, 7, none⟩) (by simp only; omega) (.int .i64 0)
    have hq8 := hq7.setCell (p := ⟨w.heap.size + 1, 8, none⟩) (by simp only; omega) (.bool false)
    obtain ⟨w9, hw9⟩ : ∃ w9, ((((((((((w1.setCell ⟨w.heap.size + 1 + 1, 4, none⟩ (.string S)).setCell ⟨w.heap.size + 1, 0, none⟩ (.int .i64 (1 + kk))).setCell ⟨w.heap.size + 1, 1, none⟩ (.int .i64 1)).setCell ⟨w.heap.size + 1, 2, none⟩ (.int .i64 1)).setCell ⟨w.heap.size + 1, 3, none⟩ (.int .i64 pp)).setCell ⟨w.heap.size + 1, 4, none⟩ (.string S)).setCell ⟨w.heap.size + 1, 5, none⟩ (.slice none 0 0)).setCell ⟨w.heap.size + 1, 6, none⟩ (.int .i64 0)).setCell ⟨w.heap.size + 1, 7, none⟩ (.int .i64 0)).setCell ⟨w.heap.size + 1, 8, none⟩ (.bool false)) = w9 := ⟨_, rfl⟩
    rw [hw9] at hx9 hq8
    have r0 : w9.cell? ⟨w.heap.size + 1, 0, none⟩ = some (.int .i64 (1 + kk)) := by rw [Lib.cell_of_heap hx9]; rfl
    have r1 : w9.cell? ⟨w.heap.size + 1, 1, none⟩ = some (.int .i64 1) := by rw [Lib.cell_of_heap hx9]; rfl
    have r2 : w9.cell? ⟨w.heap.size + 1, 2, none⟩ = some (.int .i64 1) := by rw [Lib.cell_of_heap hx9]; rfl
    have r3 : w9.cell? ⟨w.heap.size + 1, 3, none⟩ = some (.int .i64 pp) := by rw [Lib.cell_of_heap hx9]; rfl
    have r4 : w9.cell? ⟨w.heap.size + 1, 4, none⟩ = some (.string S) := by rw [Lib.cell_of_heap hx9]; rfl
    have r5 : w9.cell? ⟨w.heap.size + 1, 5, none⟩ = some (.slice none 0 0) := by rw [Lib.cell_of_heap hx9]; rfl
    have r6 : w9.cell? ⟨w.heap.size + 1, 6, none⟩ = some (.int .i64 0) := by rw [Lib.cell_of_heap hx9]; rfl
    have r7 : w9.cell? ⟨w.heap.size + 1, 7, none⟩ = some (.int .i64 0) := by rw [Lib.cell_of_heap hx9]; rfl
    have r8 : w9.cell? ⟨w.heap.size + 1, 8, none⟩ = some (.bool false) := by rw [Lib.cell_of_heap hx9]; rfl
    clear hq7 hq6 hq5 hq4 hq3 hq2 hq1 hq0 sx sB
    go_wp2_with fail
    try rw [hw9]
    refine bodyPost_ret (v := .agg #[.int .i64 (1 + kk), .int .i64 1, .int .i64 1, .int .i64 pp, .string S, .slice none 0 0, .int .i64 0, .int .i64 0, .bool false]) (by simp [results, Tryd.results4, go_sem, r0, r1, r2, r3, r4, r5, r6, r7, r8]) rfl ⟨rs, by rw [hS], HNE.out, hle, HOK.out, hq8⟩
end Go.Proofs.YtnbedohlgghhdaaDoor

namespace Go.Proofs.YtnbedohlgghhdaaDoor
open Go.RowKit Go.Lib Sp
set_option maxRecDepth 100000

set_option maxHeartbeats 4000000 in
theorem right_hide {dk dp : Int} {ta pa : Option Addr} {tn_ tcap pn pcap : Nat} {zs : List Int} {w : World} (hPt : Rw int1 1 w pa pn pcap zs) (t : Nat) (ht0 : 0 < t) (ht : t ≤ 30000) (k : Int) (hk : dk % 3 = 1) (hpn : 0 < pn) :
    Calls Tryd.prog 4 #[deedV dk dp (.slice ta tn_ tcap) (.slice pa pn pcap), .int .i64 (t : Int), .int .i64 k] w fun e w' => ∃ a m cap l, e = .returned (opVal ⟨1 + k % 8, 1, 2, 0, ⟨#[]⟩, l, 0, 0, false⟩ (.slice a m cap)) ∧ Rng w' a m cap l ∧ (∀ g off, a = some ⟨g, off, none⟩ → w.heap.size ≤ g) ∧ Sp.Norm (-1) l ∧ (∀ r ∈ l, r.2 ≤ (t : Int)) ∧ l ≠ [] ∧ l.length ≤ t ∧ Below w.heap.size w w' := by
  have b0 := Int.emod_nonneg k (show (8 : Int) ≠ 0 by decide)
  have b1 := Int.emod_lt_of_pos k (show (0 : Int) < 8 by decide)
  have H1 : Hid (∀ w : World, Calls Tryd.prog 12 #[.int .i64 k, .int .i64 8] w fun e w' => e = .returned (.int .i64 (k % 8)) ∧ w' = w) := pick_any k 8 (by decide) (by decide)
  have H2 : Hid (∀ w : World, Calls Tryd.prog 12 #[.int .i64 dk, .int .i64 3] w fun e w' => e = .returned (.int .i64 1) ∧ w' = w) := hk ▸ pick_any dk 3 (by decide) (by decide)
  have HL : Hid (∀ w' : World, Below w.heap.size w w' → Calls Tryd.prog 14 #[.slice pa pn pcap, .int .i64 (t : Int)] w' fun e w'' => ∃ v l, e = .returned v ∧ OwnF rangeV 2 60 w'' w'.heap.size v l ∧ Sp.Norm (-1) l ∧ (∀ r ∈ l, r.2 ≤ (t : Int)) ∧ (0 < pn → l ≠ []) ∧ l.length ≤ t ∧ Below w'.heap.size w' w'') := fun w' hb => chosenP_any (hPt.below hb) ht0 (by omega)
  have t3 : ((t : Int) == 0) = false := beq_eq_false_iff_ne.2 (by omega)
  have t5 : ((pn : Int) == 0) = false := beq_eq_false_iff_ne.2 (by omega)
  have HPN : Hid (0 < pn) := hpn
  clear hPt hk hpn ht0
  generalize k % 8 = kk at *
  simp only [deedV, opVal]
  go_enter Tryd.func4, Tryd.ntmps4
  go_wp2_with fail
  refine (H1.out _).mono ?_
  rintro e w1 ⟨rfl, hw1⟩
  subst hw1
  go_wp2_with fail
  refine (H2.out _).mono ?_
  rintro e w1 ⟨rfl, hw1⟩
  subst hw1
  go_wp2_with fail
  have hX : Below w.heap.size w (((w.alloc (Obj.cells #[.int .i64 dk, .int .i64 dp, .slice ta tn_ tcap, .slice pa pn pcap] 30)).alloc (Obj.cells #[.int .i64 0, .int .i64 0, .int .i64 0, .int .i64 0, .string ⟨#[]⟩, .slice none 0 0, .int .i64 0, .int .i64 0, .bool false] 38)).alloc (Obj.cells #[.int .i64 (1 + kk), .int .i64 1, .int .i64 2, .int .i64 0, .string ⟨#[]⟩, .slice none 0 0, .int .i64 0, .int .i64 0, .bool false] 38)) := (((Below.refl w.heap.size w).alloc (Nat.le_refl _) _).alloc (by simp) _).alloc (by simp; omega) _
  have x0 : (((w.alloc (Obj.cells #[.int .i64 dk, .int .i64 dp, .slice ta tn_ tcap, .slice pa pn pcap] 30)).alloc (Obj.cells #[.int .i64 0, .int .i64 0, .int .i64 0, .int .i64 0, .string ⟨#[]⟩, .slice none 0 0, .int .i64 0, .int .i64 0, .bool false] 38)).alloc (Obj.cells #[.int .i64 (1 + kk), .int .i64 1, .int .i64 2, .int .i64 0, .string ⟨#[]⟩, .slice none 0 0, .int .i64 0, .int .i64 0, .bool false] 38)).heap[w.heap.size + 1]? = some (Obj.cells #[.int .i64 0, .int .i64 0, .int .i64 0, .int .i64 0, .string ⟨#[]⟩, .slice none 0 0, .int .i64 0, .int .i64 0, .bool false] 38) := (Below.heap_alloc _ _ _ (by simp)).trans (alloc_last _ _ _ (by simp))
  have y0 : (((w.alloc (Obj.cells #[.int .i64 dk, .int .i64 dp, .slice ta tn_ tcap, .slice pa pn pcap] 30)).alloc (Obj.cells #[.int .i64 0, .int .i64 0, .int .i64 0, .int .i64 0, .string ⟨#[]⟩, .slice none 0 0, .int .i64 0, .int .i64 0, .bool false] 38)).alloc (Obj.cells #[.int .i64 (1 + kk), .int .i64 1, .int .i64 2, .int .i64 0, .string ⟨#[]⟩, .slice none 0 0, .int .i64 0, .int .i64 0, .bool false] 38)).heap[w.heap.size + 1 + 1]? = some (Obj.cells #[.int .i64 (1 + kk), .int .i64 1, .int .i64 2, .int .i64 0, .string ⟨#[]⟩, .slice none 0 0, .int .i64 0, .int .i64 0, .bool false] 38) := alloc_last _ _ _ (by simp)
  have hXs : (((w.alloc (Obj.cells #[.int .i64 dk, .int .i64 dp, .slice ta tn_ tcap, .slice pa pn pcap] 30)).alloc (Obj.cells #[.int .i64 0, .int .i64 0, .int .i64 0, .int .i64 0, .string ⟨#[]⟩, .slice none 0 0, .int .i64 0, .int .i64 0, .bool false] 38)).alloc (Obj.cells #[.int .i64 (1 + kk), .int .i64 1, .int .i64 2, .int .i64 0, .string ⟨#[]⟩, .slice none 0 0, .int .i64 0, .int .i64 0, .bool false] 38)).heap.size = w.heap.size + 3 := by simp
  refine (HL.out _ hX).mono ?_
  rintro e w1 ⟨v, l, rfl, hown, hno, htop, hne, hle, hb1⟩
  have hB1 := hX.trans (hb1.mono hX.size)
  have x1 := (hb1.block _ (Array.getElem?_eq_some_iff.1 x0).1).trans x0
  have y1 := (hb1.block _ (Array.getElem?_eq_some_iff.1 y0).1).trans y0
  obtain ⟨va, vc, rfl⟩ := hown.shape
  have HR1 : Hid (Rng w1 va l.length vc l) := rng_of_rw (hown.rw_ layG)
  have HAt : Hid (∀ g off, va = some ⟨g, off, none⟩ → w.heap.size + 3 ≤ g) := fun g off ha => by have := ownF_at hown g off ha; rw [hXs] at this; exact this
  have HRb : Hid (∀ g off, va = some ⟨g, off, none⟩ → 0 < l.length → g ≠ w.heap.size + 1) := fun g off ha _ => by have := HAt.out g off ha; omega
  have HRc : Hid (∀ g off, va = some ⟨g, off, none⟩ → 0 < l.length → g ≠ w.heap.size + 1 + 1) := fun g off ha _ => by have := HAt.out g off ha; omega
  have HN : Hid (Sp.Norm (-1) l ∧ (∀ r ∈ l, r.2 ≤ (t : Int)) ∧ l ≠ []) := ⟨hno, htop, hne HPN.out⟩
  clear hX x0 y0 hb1 hown hno htop hne hXs
  have f0 : w1.cell? ⟨w.heap.size + 1 + 1, 0, none⟩ = some (.int .i64 (1 + kk)) := by rw [Lib.cell_of_heap y1]; rfl
  have f1 : w1.cell? ⟨w.heap.size + 1 + 1, 1, none⟩ = some (.int .i64 1) := by rw [Lib.cell_of_heap y1]; rfl
  have f2 : w1.cell? ⟨w.heap.size + 1 + 1, 2, none⟩ = some (.int .i64 2) := by rw [Lib.cell_of_heap y1]; rfl
  have f3 : w1.cell? ⟨w.heap.size + 1 + 1, 3, none⟩ = some (.int .i64 0) := by rw [Lib.cell_of_heap y1]; rfl
  have f4 : w1.cell? ⟨w.heap.size + 1 + 1, 4, none⟩ = some (.string ⟨#[]⟩) := by rw [Lib.cell_of_heap y1]; rfl
  have f5 : w1.cell? ⟨w.heap.size + 1 + 1, 5, none⟩ = some (.slice none 0 0) := by rw [Lib.cell_of_heap y1]; rfl
  have f6 : w1.cell? ⟨w.heap.size + 1 + 1, 6, none⟩ = some (.int .i64 0) := by rw [Lib.cell_of_heap y1]; rfl
  have f7 : w1.cell? ⟨w.heap.size + 1 + 1, 7, none⟩ = some (.int .i64 0) := by rw [Lib.cell_of_heap y1]; rfl
  have f8 : w1.cell? ⟨w.heap.size + 1 + 1, 8, none⟩ = some (.bool false) := by rw [Lib.cell_of_heap y1]; rfl
  have z5 : w1.frozen? ⟨w.heap.size + 1 + 1, 5, none⟩ = false := Lib.frozen_of_heap y1 5
  have d0_ : w1.cell? ⟨w.heap.size + 1, 0, none⟩ = some (.int .i64 0) := by rw [Lib.cell_of_heap x1]; rfl
  have z10 : w1.frozen? ⟨w.heap.size + 1, 0, none⟩ = false := Lib.frozen_of_heap x1 0
  have d1_ : w1.cell? ⟨w.heap.size + 1, 1, none⟩ = some (.int .i64 0) := by rw [Lib.cell_of_heap x1]; rfl
  have z11 : w1.frozen? ⟨w.heap.size + 1, 1, none⟩ = false := Lib.frozen_of_heap x1 1
  have d2_ : w1.cell? ⟨w.heap.size + 1, 2, none⟩ = some (.int .i64 0) := by rw [Lib.cell_of_heap x1]; rfl
  have z12 : w1.frozen? ⟨w.heap.size + 1, 2, none⟩ = false := Lib.frozen_of_heap x1 2
  have d3_ : w1.cell? ⟨w.heap.size + 1, 3, none⟩ = some (.int .i64 0) := by rw [Lib.cell_of_heap x1]; rfl
  have z13 : w1.frozen? ⟨w.heap.size + 1, 3, none⟩ = false := Lib.frozen_of_heap x1 3
  have d4_ : w1.cell? ⟨w.heap.size + 1, 4, none⟩ = some (.string ⟨#[]⟩) := by rw [Lib.cell_of_heap x1]; rfl
  have z14 : w1.frozen? ⟨w.heap.size + 1, 4, none⟩ = false := Lib.frozen_of_heap x1 4
  have d5_ : w1.cell? ⟨w.heap.size + 1, 5, none⟩ = some (.slice none 0 0) := by rw [Lib.cell_of_heap x1]; rfl
  have z15 : w1.frozen? ⟨w.heap.size + 1, 5, none⟩ = false := Lib.frozen_of_heap x1 5
  have d6_ : w1.cell? ⟨w.heap.size + 1, 6, none⟩ = some (.int .i64 0) := by rw [Lib.cell_of_heap x1]; rfl
  have z16 : w1.frozen? ⟨w.heap.size + 1, 6, none⟩ = false := Lib.frozen_of_heap x1 6
  have d7_ : w1.cell? ⟨w.heap.size + 1, 7, none⟩ = some (.int .i64 0) := by rw [Lib.cell_of_heap x1]; rfl
  have z17 : w1.frozen? ⟨w.heap.size + 1, 7, none⟩ = false := Lib.frozen_of_heap x1 7
  have d8_ : w1.cell? ⟨w.heap.size + 1, 8, none⟩ = some (.bool false) := by rw [Lib.cell_of_heap x1]; rfl
  have z18 : w1.frozen? ⟨w.heap.size + 1, 8, none⟩ = false := Lib.frozen_of_heap x1 8
  have sx : (w1.setCell ⟨w.heap.size + 1 + 1, 5, none⟩ (.slice va l.length vc)).heap[w.heap.size + 1]? = some (Obj.cells #[.int .i64 0, .int .i64 0, .int .i64 0, .int .i64 0, .string ⟨#[]⟩, .slice none 0 0, .int .i64 0, .int .i64 0, .bool false] 38) := (Below.heap_setCell _ _ _ _ (by simp)).trans x1
  have sB := hB1.setCell (p := ⟨w.heap.size + 1 + 1, 5, none⟩) (by simp only; omega) (.slice va l.length vc)
  have hx9 := set9g (v0 := .int .i64 (1 + kk)) (v1 := .int .i64 1) (v2 := .int .i64 2) (v3 := .int .i64 0) (v4 := .string ⟨#[]⟩) (v5 := .slice va l.length vc) (v6 := .int .i64 0) (v7 := .int .i64 0) (v8 := .bool false) sx
  have hq0 := sB.setCell (p := ⟨w.heap.size + 1, 0, none⟩) (by simp only; omega) (.int .i64 (1 + kk))
  have hq1 := hq0.setCell (p := ⟨w.heap.size + 1, 1, none⟩) (by simp only; omega) (.int .i64 1)
  have hq2 := hq1.setCell (p := ⟨w.heap.size + 1, 2, none⟩) (by simp only; omega) (.int .i64 2)
  have hq3 := hq2.setCell (p := ⟨w.heap.size + 1, 3, none⟩) (by simp only; omega) (.int .i64 0)
  have hq4 := hq3.setCell (p := ⟨w.heap.size + 1, 4, none⟩) (by simp only; omega) (.string ⟨#[]⟩)
  have hq5 := hq4.setCell (p := ⟨w.heap.size + 1, 5, none⟩) (by simp only; omega) (.slice va l.length vc)
  have hq6 := hq5.setCell (p := ⟨w.heap.size + 1, 6, none⟩) (by simp only; omega) (.int .i64 0)
  have hq7 := hq6.setCell (p := ⟨w.heap.size + 1, 7, none⟩) (by simp only; omega) (.int .i64 0)
  have hq8 := hq7.setCell (p := ⟨w.heap.size + 1, 8, none⟩) (by simp only; omega) (.bool false)
  obtain ⟨w9, hw9⟩ : ∃ w9, ((((((((((w1.setCell ⟨w.heap.size + 1 + 1, 5, none⟩ (.slice va l.length vc)).setCell ⟨w.heap.size + 1, 0, none⟩ (.int .i64 (1 + kk))).setCell ⟨w.heap.size + 1, 1, none⟩ (.int .i64 1)).setCell ⟨w.heap.size + 1, 2, none⟩ (.int .i64 2)).setCell ⟨w.heap.size + 1, 3, none⟩ (.int .i64 0)).setCell ⟨w.heap.size + 1, 4, none⟩ (.string ⟨#[]⟩)).setCell ⟨w.heap.size + 1, 5, none⟩ (.slice va l.length vc)).setCell ⟨w.heap.size + 1, 6, none⟩ (.int .i64 0)).setCell ⟨w.heap.size + 1, 7, none⟩ (.int .i64 0)).setCell ⟨w.heap.size + 1, 8, none⟩ (.bool false)) = w9 := ⟨_, rfl⟩
  have HRg : Hid (Rng w9 va l.length vc l) := by
    show Rng _ _ _ _ _
    rw [← hw9]
    refine rng_set ?_ _ _ _ HRb.out
    refine rng_set ?_ _ _ _ HRb.out
    refine rng_set ?_ _ _ _ HRb.out
    refine rng_set ?_ _ _ _ HRb.out
    refine rng_set ?_ _ _ _ HRb.out
    refine rng_set ?_ _ _ _ HRb.out
    refine rng_set ?_ _ _ _ HRb.out
    refine rng_set ?_ _ _ _ HRb.out
    refine rng_set ?_ _ _ _ HRb.out
    refine rng_set ?_ _ _ _ HRc.out
    exact HR1.out
  rw [hw9] at hx9 hq8
  have r0 : w9.cell? ⟨w.heap.size + 1, 0, none⟩ = some (.int .i64 (1 + kk)) := by rw [Lib.cell_of_heap hx9]; rfl
  have r1 : w9.cell? ⟨w.heap.size + 1, 1, none⟩ = some (.int .i64 1) := by rw [Lib.cell_of_heap hx9]; rfl
  have r2 : w9.cell? ⟨w.heap.size + 1, 2, none⟩ = some (.int .i64 2) := by rw [Lib.cell_of_heap hx9]; rfl
  have r3 : w9.cell? ⟨w.heap.size + 1, 3, none⟩ = some (.int .i64 0) := by rw [Lib.cell_of_heap hx9]; rfl
  have r4 : w9.cell? ⟨w.heap.size + 1, 4, none⟩ = some (.string ⟨#[]⟩) := by rw [Lib.cell_of_heap hx9]; rfl
  have r5 : w9.cell? ⟨w.heap.size + 1, 5, none⟩ = some (.slice va l.length vc) := by rw [Lib.cell_of_heap hx9]; rfl
  have r6 : w9.cell? ⟨w.heap.size + 1, 6, none⟩ = some (.int .i64 0) := by rw [Lib.cell_of_heap hx9]; rfl
  have r7 : w9.cell? ⟨w.heap.size + 1, 7, none⟩ = some (.int .i64 0) := by rw [Lib.cell_of_heap hx9]; rfl
  have r8 : w9.cell? ⟨w.heap.size + 1, 8, none⟩ = some (.bool false) := by rw [Lib.cell_of_heap hx9]; rfl
  clear hq7 hq6 hq5 hq4 hq3 hq2 hq1 hq0 sx sB
  go_wp2_with fail
  try rw [hw9]
  refine bodyPost_ret (v := .agg #[.int .i64 (1 + kk), .int .i64 1, .int .i64 2, .int .i64 0, .string ⟨#[]⟩, .slice va l.length vc, .int .i64 0, .int .i64 0, .bool false]) (by simp [results, Tryd.results4, go_sem, r0, r1, r2, r3, r4, r5, r6, r7, r8]) rfl ⟨va, l.length, vc, l, rfl, HRg.out, (fun g off ha => by have := HAt.out g off ha; omega), HN.out.1, HN.out.2.1, HN.out.2.2, hle, hq8⟩

set_option maxHeartbeats 4000000 in
theorem right_show {dk dp : Int} {ta pa : Option Addr} {tn_ tcap pn pcap : Nat} {zs : List Int} {w : World} (hPt : Rw int1 1 w pa pn pcap zs) (t : Nat) (ht0 : 0 < t) (ht : t ≤ 30000) (k : Int) (hk : dk % 3 = 2) (hpn : 0 < pn) :
    Calls Tryd.prog 4 #[deedV dk dp (.slice ta tn_ tcap) (.slice pa pn pcap), .int .i64 (t : Int), .int .i64 k] w fun e w' => ∃ a m cap l, e = .returned (opVal ⟨1 + k % 8, 1, 3, 0, ⟨#[]⟩, l, 0, 0, false⟩ (.slice a m cap)) ∧ Rng w' a m cap l ∧ (∀ g off, a = some ⟨g, off, none⟩ → w.heap.size ≤ g) ∧ Sp.Norm (-1) l ∧ (∀ r ∈ l, r.2 ≤ (t : Int)) ∧ l ≠ [] ∧ l.length ≤ t ∧ Below w.heap.size w w' := by
  have b0 := Int.emod_nonneg k (show (8 : Int) ≠ 0 by decide)
  have b1 := Int.emod_lt_of_pos k (show (0 : Int) < 8 by decide)
  have H1 : Hid (∀ w : World, Calls Tryd.prog 12 #[.int .i64 k, .int .i64 8] w fun e w' => e = .returned (.int .i64 (k % 8)) ∧ w' = w) := pick_any k 8 (by decide) (by decide)
  have H2 : Hid (∀ w : World, Calls Tryd.prog 12 #[.int .i64 dk, .int .i64 3] w fun e w' => e = .returned (.int .i64 2) ∧ w' = w) := hk ▸ pick_any dk 3 (by decide) (by decide)
  have HL : Hid (∀ w' : World, Below w.heap.size w w' → Calls Tryd.prog 14 #[.slice pa pn pcap, .int .i64 (t : Int)] w' fun e w'' => ∃ v l, e = .returned v ∧ OwnF rangeV 2 60 w'' w'.heap.size v l ∧ Sp.Norm (-1) l ∧ (∀ r ∈ l, r.2 ≤ (t : Int)) ∧ (0 < pn → l ≠ []) ∧ l.length ≤ t ∧ Below w'.heap.size w' w'') := fun w' hb => chosenP_any (hPt.below hb) ht0 (by omega)
  have t3 : ((t : Int) == 0) = false := beq_eq_false_iff_ne.2 (by omega)
  have t5 : ((pn : Int) == 0) = false := beq_eq_false_iff_ne.2 (by omega)
  have HPN : Hid (0 < pn) := hpn
  clear hPt hk hpn ht0
  generalize k % 8 = kk at *
  simp only [deedV, opVal]
  go_enter Tryd.func4, Tryd.ntmps4
  go_wp2_with fail
  refine (H1.out _).mono ?_
  rintro e w1 ⟨rfl, hw1⟩
  subst hw1
  go_wp2_with fail
  refine (H2.out _).mono ?_
  rintro e w1 ⟨rfl, hw1⟩
  subst hw1
  go_wp2_with fail
  have hX : Below w.heap.size w (((w.alloc (Obj.cells #[.int .i64 dk, .int .i64 dp, .slice ta tn_ tcap, .slice pa pn pcap] 30)).alloc (Obj.cells #[.int .i64 0, .int .i64 0, .int .i64 0, .int .i64 0, .string ⟨#[]⟩, .slice none 0 0, .int .i64 0, .int .i64 0, .bool false] 38)).alloc (Obj.cells #[.int .i64 (1 + kk), .int .i64 1, .int .i64 3, .int .i64 0, .string ⟨#[]⟩, .slice none 0 0, .int .i64 0, .int .i64 0, .bool false] 38)) := (((Below.refl w.heap.size w).alloc (Nat.le_refl _) _).alloc (by simp) _).alloc (by simp; omega) _
  have x0 : (((w.alloc (Obj.cells #[.int .i64 dk, .int .i64 dp, .slice ta tn_ tcap, .slice pa pn pcap] 30)).alloc (Obj.cells #[.int .i64 0, .int .i64 0, .int .i64 0, .int .i64 0, .string ⟨#[]⟩, .slice none 0 0, .int .i64 0, .int .i64 0, .bool false] 38)).alloc (Obj.cells #[.int .i64 (1 + kk), .int .i64 1, .int .i64 3, .int .i64 0, .string ⟨#[]⟩, .slice none 0 0, .int .i64 0, .int .i64 0, .bool false] 38)).heap[w.heap.size + 1]? = some (Obj.cells #[.int .i64 0, .int .i64 0, .int .i64 0, .int .i64 0, .string ⟨#[]⟩, .slice none 0 0, .int .i64 0, .int .i64 0, .bool false] 38) := (Below.heap_alloc _ _ _ (by simp)).trans (alloc_last _ _ _ (by simp))
  have y0 : (((w.alloc (Obj.cells #[.int .i64 dk, .int .i64 dp, .slice ta tn_ tcap, .slice pa pn pcap] 30)).alloc (Obj.cells #[.int .i64 0, .int .i64 0, .int .i64 0, .int .i64 0, .string ⟨#[]⟩, .slice none 0 0, .int .i64 0, .int .i64 0, .bool false] 38)).alloc (Obj.cells #[.int .i64 (1 + kk), .int .i64 1, .int .i64 3, .int .i64 0, .string ⟨#[]⟩, .slice none 0 0, .int .i64 0, .int .i64 0, .bool false] 38)).heap[w.heap.size + 1 + 1]? = some (Obj.cells #[.int .i64 (1 + kk), .int .i64 1, .int .i64 3, .int .i64 0, .string ⟨#[]⟩, .slice none 0 0, .int .i64 0, .int .i64 0, .bool false] 38) := alloc_last _ _ _ (by simp)
  have hXs : (((w.alloc (Obj.cells #[.int .i64 dk, .int .i64 dp, .slice ta tn_ tcap, .slice pa pn pcap] 30)).alloc (Obj.cells #[.int .i64 0, .int .i64 0, .int .i64 0, .int .i64 0, .string ⟨#[]⟩, .slice none 0 0, .int .i64 0, .int .i64 0, .bool false] 38)).alloc (Obj.cells #[.int .i64 (1 + kk), .int .i64 1, .int .i64 3, .int .i64 0, .string ⟨#[]⟩, .slice none 0 0, .int .i64 0, .int .i64 0, .bool false] 38)).heap.size = w.heap.size + 3 := by simp
  refine (HL.out _ hX).mono ?_
  rintro e w1 ⟨v, l, rfl, hown, hno, htop, hne, hle, hb1⟩
  have hB1 := hX.trans (hb1.mono hX.size)
  have x1 := (hb1.block _ (Array.getElem?_eq_some_iff.1 x0).1).trans x0
  have y1 := (hb1.block _ (Array.getElem?_eq_some_iff.1 y0).1).trans y0
  obtain ⟨va, vc, rfl⟩ := hown.shape
  have HR1 : Hid (Rng w1 va l.length vc l) := rng_of_rw (hown.rw_ layG)
  have HAt : Hid (∀ g off, va = some ⟨g, off, none⟩ → w.heap.size + 3 ≤ g) := fun g off ha => by have := ownF_at hown g off ha; rw [hXs] at this; exact this
  have HRb : Hid (∀ g off, va = some ⟨g, off, none⟩ → 0 < l.length → g ≠ w.heap.size + 1) := fun g off ha _ => by have := HAt.out g off ha; omega
  have HRc : Hid (∀ g off, va = some ⟨g, off, none⟩ → 0 < l.length → g ≠ w.heap.size + 1 + 1) := fun g off ha _ => by have := HAt.out g off ha; omega
  have HN : Hid (Sp.Norm (-1) l ∧ (∀ r ∈ l, r.2 ≤ (t : Int)) ∧ l ≠ []) := ⟨hno, htop, hne HPN.out⟩
  clear hX x0 y0 hb1 hown hno htop hne hXs
  have f0 : w1.cell? ⟨w.heap.size + 1 + 1, 0, none⟩ = some (.int .i64 (1 + kk)) := by rw [Lib.cell_of_heap y1]; rfl
  have f1 : w1.cell? ⟨w.heap.size + 1 + 1, 1, none⟩ = some (.int .i64 1) := by rw [Lib.cell_of_heap y1]; rfl
  have f2 : w1.cell? ⟨w.heap.size + 1 + 1, 2, none⟩ = some (.int .i64 3) := by rw [Lib.cell_of_heap y1]; rfl
  have f3 : w1.cell? ⟨w.heap.size + 1 + 1, 3, none⟩ = some (.int .i64 0) := by rw [Lib.cell_of_heap y1]; rfl
  have f4 : w1.cell? ⟨w.heap.size + 1 + 1, 4, none⟩ = some (.string ⟨#[]⟩) := by rw [Lib.cell_of_heap y1]; rfl
  have f5 : w1.cell? ⟨w.heap.size + 1 + 1, 5, none⟩ = some (.slice none 0 0) := by rw [Lib.cell_of_heap y1]; rfl
  have f6 : w1.cell? ⟨w.heap.size + 1 + 1, 6, none⟩ = some (.int .i64 0) := by rw [Lib.cell_of_heap y1]; rfl
  have f7 : w1.cell? ⟨w.heap.size + 1 + 1, 7, none⟩ = some (.int .i64 0) := by rw [Lib.cell_of_heap y1]; rfl
  have f8 : w1.cell? ⟨w.heap.size + 1 + 1, 8, none⟩ = some (.bool false) := by rw [Lib.cell_of_heap y1]; rfl
  have z5 : w1.frozen? ⟨w.heap.size + 1 + 1, 5, none⟩ = false := Lib.frozen_of_heap y1 5
  have d0_ : w1.cell? ⟨w.heap.size + 1, 0, none⟩ = some (.int .i64 0) := by rw [Lib.cell_of_heap x1]; rfl
  have z10 : w1.frozen? ⟨w.heap.size + 1, 0, none⟩ = false := Lib.frozen_of_heap x1 0
  have d1_ : w1.cell? ⟨w.heap.size + 1, 1, none⟩ = some (.int .i64 0) := by rw [Lib.cell_of_heap x1]; rfl
  have z11 : w1.frozen? ⟨w.heap.size + 1, 1, none⟩ = false := Lib.frozen_of_heap x1 1
  have d2_ : w1.cell? ⟨w.heap.size + 1, 2, none⟩ = some (.int .i64 0) := by rw [Lib.cell_of_heap x1]; rfl
  have z12 : w1.frozen? ⟨w.heap.size + 1, 2, none⟩ = false := Lib.frozen_of_heap x1 2
  have d3_ : w1.cell? ⟨w.heap.size + 1, 3, none⟩ = some (.int .i64 0) := by rw [Lib.cell_of_heap x1]; rfl
  have z13 : w1.frozen? ⟨w.heap.size + 1, 3, none⟩ = false := Lib.frozen_of_heap x1 3
  have d4_ : w1.cell? ⟨w.heap.size + 1, 4, none⟩ = some (.string ⟨#[]⟩) := by rw [Lib.cell_of_heap x1]; rfl
  have z14 : w1.frozen? ⟨w.heap.size + 1, 4, none⟩ = false := Lib.frozen_of_heap x1 4
  have d5_ : w1.cell? ⟨w.heap.size + 1, 5, none⟩ = some (.slice none 0 0) := by rw [Lib.cell_of_heap x1]; rfl
  have z15 : w1.frozen? ⟨w.heap.size + 1, 5, none⟩ = false := Lib.frozen_of_heap x1 5
  have d6_ : w1.cell? ⟨w.heap.size + 1, 6, none⟩ = some (.int .i64 0) := by rw [Lib.cell_of_heap x1]; rfl
  have z16 : w1.frozen? ⟨w.heap.size + 1, 6, none⟩ = false := Lib.frozen_of_heap x1 6
  have d7_ : w1.cell? ⟨w.heap.size + 1, 7, none⟩ = some (.int .i64 0) := by rw [Lib.cell_of_heap x1]; rfl
  have z17 : w1.frozen? ⟨w.heap.size + 1, 7, none⟩ = false := Lib.frozen_of_heap x1 7
  have d8_ : w1.cell? ⟨w.heap.size + 1, 8, none⟩ = some (.bool false) := by rw [Lib.cell_of_heap x1]; rfl
  have z18 : w1.frozen? ⟨w.heap.size + 1, 8, none⟩ = false := Lib.frozen_of_heap x1 8
  have sx : (w1.setCell ⟨w.heap.size + 1 + 1, 5, none⟩ (.slice va l.length vc)).heap[w.heap.size + 1]? = some (Obj.cells #[.int .i64 0, .int .i64 0, .int .i64 0, .int .i64 0, .string ⟨#[]⟩, .slice none 0 0, .int .i64 0, .int .i64 0, .bool false] 38) := (Below.heap_setCell _ _ _ _ (by simp)).trans x1
  have sB := hB1.setCell (p := ⟨w.heap.size + 1 + 1, 5, none⟩) (by simp only; omega) (.slice va l.length vc)
  have hx9 := set9g (v0 := .int .i64 (1 + kk)) (v1 := .int .i64 1) (v2 := .int .i64 3) (v3 := .int .i64 0) (v4 := .string ⟨#[]⟩) (v5 := .slice va l.length vc) (v6 := .int .i64 0) (v7 := .int .i64 0) (v8 := .bool false) sx
  have hq0 := sB.setCell (p := ⟨w.heap.size + 1, 0, none⟩) (by simp only; omega) (.int .i64 (1 + kk))
  have hq1 := hq0.setCell (p := ⟨w.heap.size + 1, 1, none⟩) (by simp only; omega) (.int .i64 1)
  have hq2 := hq1.setCell (p := ⟨w.heap.size + 1, 2, none⟩) (by simp only; omega) (.int .i64 3)
  have hq3 := hq2.setCell (p := ⟨w.heap.size + 1, 3, none⟩) (by simp only; omega) (.int .i64 0)
  have hq4 := hq3.setCell (p := ⟨w.heap.size + 1, 4, none⟩) (by simp only; omega) (.string ⟨#[]⟩)
  have hq5 := hq4.setCell (p := ⟨w.heap.size + 1, 5, none⟩) (by simp only; omega) (.slice va l.length vc)
  have hq6 := hq5.setCell (p := ⟨w.heap.size + 1, 6, none⟩) (by simp only; omega) (.int .i64 0)
  have hq7 := hq6.setCell (p := ⟨w.heap.size + 1, 7, none⟩) (by simp only; omega) (.int .i64 0)
  have hq8 := hq7.setCell (p := ⟨w.heap.size + 1, 8, none⟩) (by simp only; omega) (.bool false)
  obtain ⟨w9, hw9⟩ : ∃ w9, ((((((((((w1.setCell ⟨w.heap.size + 1 + 1, 5, none⟩ (.slice va l.length vc)).setCell ⟨w.heap.size + 1, 0, none⟩ (.int .i64 (1 + kk))).setCell ⟨w.heap.size + 1, 1, none⟩ (.int .i64 1)).setCell ⟨w.heap.size + 1, 2, none⟩ (.int .i64 3)).setCell ⟨w.heap.size + 1, 3, none⟩ (.int .i64 0)).setCell ⟨w.heap.size + 1, 4, none⟩ (.string ⟨#[]⟩)).setCell ⟨w.heap.size + 1, 5, none⟩ (.slice va l.length vc)).setCell ⟨w.heap.size + 1, 6, none⟩ (.int .i64 0)).setCell ⟨w.heap.size + 1, 7, none⟩ (.int .i64 0)).setCell ⟨w.heap.size + 1, 8, none⟩ (.bool false)) = w9 := ⟨_, rfl⟩
  have HRg : Hid (Rng w9 va l.length vc l) := by
    show Rng _ _ _ _ _
    rw [← hw9]
    refine rng_set ?_ _ _ _ HRb.out
    refine rng_set ?_ _ _ _ HRb.out
    refine rng_set ?_ _ _ _ HRb.out
    refine rng_set ?_ _ _ _ HRb.out
    refine rng_set ?_ _ _ _ HRb.out
    refine rng_set ?_ _ _ _ HRb.out
    refine rng_set ?_ _ _ _ HRb.out
    refine rng_set ?_ _ _ _ HRb.out
    refine rng_set ?_ _ _ _ HRb.out
    refine rng_set ?_ _ _ _ HRc.out
    exact HR1.out
  rw [hw9] at hx9 hq8
  have r0 : w9.cell? ⟨w.heap.size + 1, 0, none⟩ = some (.int .i64 (1 + kk)) := by rw [Lib.cell_of_heap hx9]; rfl
  have r1 : w9.cell? ⟨w.heap.size + 1, 1, none⟩ = some (.int .i64 1) := by rw [Lib.cell_of_heap hx9]; rfl
  have r2 : w9.cell? ⟨w.heap.size + 1, 2, none⟩ = some (.int .i64 3) := by rw [Lib.cell_of_heap hx9]; rfl
  have r3 : w9.cell? ⟨w.heap.size + 1, 3, none⟩ = some (.int .i64 0) := by rw [Lib.cell_of_heap hx9]; rfl
  have r4 : w9.cell? ⟨w.heap.size + 1, 4, none⟩ = some (.string ⟨#[]⟩) := by rw [Lib.cell_of_heap hx9]; rfl
  have r5 : w9.cell? ⟨w.heap.size + 1, 5, none⟩ = some (.slice va l.length vc) := by rw [Lib.cell_of_heap hx9]; rfl
  have r6 : w9.cell? ⟨w.heap.size + 1, 6, none⟩ = some (.int .i64 0) := by rw [Lib.cell_of_heap hx9]; rfl
  have r7 : w9.cell? ⟨w.heap.size + 1, 7, none⟩ = some (.int .i64 0) := by rw [Lib.cell_of_heap hx9]; rfl
  have r8 : w9.cell? ⟨w.heap.size + 1, 8, none⟩ = some (.bool false) := by rw [Lib.cell_of_heap hx9]; rfl
  clear hq7 hq6 hq5 hq4 hq3 hq2 hq1 hq0 sx sB
  go_wp2_with fail
  try rw [hw9]
  refine bodyPost_ret (v := .agg #[.int .i64 (1 + kk), .int .i64 1, .int .i64 3, .int .i64 0, .string ⟨#[]⟩, .slice va l.length vc, .int .i64 0, .int .i64 0, .bool false]) (by simp [results, Tryd.results4, go_sem, r0, r1, r2, r3, r4, r5, r6, r7, r8]) rfl ⟨va, l.length, vc, l, rfl, HRg.out, (fun g off ha => by have := HAt.out g off ha; omega), HN.out.1, HN.out.2.1, HN.out.2.2, hle, hq8⟩
end Go.Proofs.YtnbedohlgghhdaaDoor

namespace Go.Proofs.YtnbedohlgghhdaaDoor
open Go.RowKit Go.Lib Sp
set_option maxRecDepth 100000

section
variable {α : Type} {f : α → List Value} {k : Nat} {S T : TypeId} {by_ : Nat}
/-- 'append(v, u...)', also of nothing. -/
theorem appendF_all (hK : Kind Tryd.prog S T k by_) (hf : Lay f k) {w : World} {B : Nat} {v : Value} {l : List α} (h : OwnF f k T w B v l) (hB : B ≤ w.heap.size)
    {b : Option Addr} {m capb : Nat} {ys : List α} (hy : Rw f k w b m capb ys) (hs : (l.length + m) * by_ ≤ 140737488355328) (hs2 : l.length + m ≤ 1099511627776) (ty : TypeId) :
    ∃ a' cap' w', (Builtin.append_ #[S, S] ty #[v, .slice b m capb]).run Tryd.prog w = .ok (.slice a' (l.length + m) cap') w' ∧ OwnF f k T w' B (.slice a' (l.length + m) cap') (l ++ ys) ∧ Below B w w' ∧ Keeps w w' v := by
  by_cases hm : 0 < m
  · obtain ⟨g, cap', w', hr, ho, hb, hk, _⟩ := appendF hK hf h hB hy hm hs (by omega) ty
    exact ⟨_, cap', w', hr, ho, hb, hk⟩
  · obtain rfl : m = 0 := by omega
    obtain rfl : ys = [] := List.eq_nil_of_length_eq_zero hy.len
    obtain ⟨i, z, hi, hz, hsz, hby, _⟩ := hK.info
    obtain ⟨a', cap', rfl⟩ := h.shape
    refine ⟨a', cap', w, ?_, by rw [List.append_nil]; exact h, Below.refl _ _, fun _ _ _ => rfl⟩
    rcases h.2 with ⟨e, h0⟩ | ⟨g, cap, cur, e, _, _, hnc, _⟩
    · obtain rfl := List.eq_nil_of_length_eq_zero h0
      simp only [List.length_nil] at e ⊢
      cases e
      cases b <;> simp [Builtin.append_, run_underlying hK.under, sizeOf, typeInfo, hi, Builtin.lenOf, Builtin.firstCells, loadCells, loadCellsFrom]
    · cases e
      cases b <;> simp [Builtin.append_, run_underlying hK.under, sizeOf, typeInfo, hi, Builtin.lenOf, Builtin.firstCells, hnc, storeCells, loadCells, loadCellsFrom]
end
theorem rw_of_rng {w : World} {a : Option Addr} {n cap : Nat} {l : List (Int × Int)} (h : Rng w a n cap l) : Rw rangeV 2 w a n cap l := by
  refine ⟨h.len, h.room, fun hn => ?_⟩
  obtain ⟨g, off, rfl, hg, _, _⟩ := h.cells 0 hn
  refine ⟨g, off, rfl, hg, fun j x hj i v hv => ?_⟩
  have hl := h.len
  have hjl : j < l.length := (List.getElem?_eq_some_iff.1 hj).1
  obtain ⟨g2, off2, e, _, h0, h1⟩ := h.cells j (by omega)
  simp only [Option.some.injEq, Addr.mk.injEq, and_true] at e
  obtain ⟨rfl, rfl⟩ := e
  have ex : l.getD j (0, 0) = x := by rw [List.getD_eq_getElem?_getD, hj]; rfl
  rw [ex] at h0 h1
  have hi : i = 0 ∨ i = 1 := by
    have := (List.getElem?_eq_some_iff.1 hv).1
    simp [rangeV] at this
    omega
  rcases hi with rfl | rfl
  · simp only [rangeV, List.getElem?_cons_zero, Option.some.injEq] at hv
    subst hv
    exact h0
  · simp only [rangeV, List.getElem?_cons_succ, List.getElem?_cons_zero, Option.some.injEq] at hv
    subst hv
    exact h1

set_option maxHeartbeats 1000000 in
/-- op's own copied. -/
theorem copiedR_any {w : World} {a : Option Addr} {n cap : Nat} {l : List (Int × Int)} (h : Rng w a n cap l) (hn : n ≤ 1000000000) :
    Calls Tryd.prog 19 #[.slice a n cap] w fun e w' => ∃ v, e = .returned v ∧ OwnF rangeV 2 60 w' w.heap.size v l ∧ Below w.heap.size w w' := by
  obtain ⟨a', cap', w', hr, ho, hb, _⟩ := appendF_all kindG layG (ownF_nil (f := rangeV) (k := 2) (T := 60) w w.heap.size) (Nat.le_refl _) (rw_of_rng h) (by simp; omega) (by simp; omega) 36
  simp only [List.length_nil, List.nil_append, Nat.zero_add] at hr ho
  clear h
  go_enter Tryd.func19, Tryd.ntmps19
  go_wp2_with (at_builtin; refine wpList_append_hr rfl _ _ 36 rfl _ _ rfl rfl hr ?_)
  go_ret
  exact ⟨_, rfl, ho, hb⟩

set_option maxHeartbeats 400000 in
theorem strClone_any (s : ByteArray) (hs : s.size ≤ 281474976710656) (w : World) : Calls Tryd.prog 18 #[.string s] w fun e w' => e = .returned (.string s) ∧ Below w.heap.size w w' := by
  have HC : Hid (∀ w : World, Calls Tryd.prog 26 #[.string s] w fun e w' => e = .returned (.string s) ∧ Below w.heap.size w w') := fun w => Tryd.clone_any s w hs
  go_enter Tryd.func18, Tryd.ntmps18
  go_wp2_with fail
  refine (HC.out _).mono ?_
  rintro e w1 ⟨rfl, hb1⟩
  go_wp2_with fail
  go_ret
  exact ⟨rfl, hb1⟩

/-- A store below B: a row at or beyond B stands. -/
theorem own_set {w : World} {B : Nat} {v : Value} {l : List (Int × Int)} (h : OwnF rangeV 2 60 w B v l) (b i : Nat) (u : Value) (hb : b < B) : OwnF rangeV 2 60 (w.setCell ⟨b, i, none⟩ u) B v l := by
  refine ⟨h.1, ?_⟩
  rcases h.2 with h0 | ⟨g, cap, cur, e, h1, hh, rest⟩
  · exact .inl h0
  · exact .inr ⟨g, cap, cur, e, h1, (Below.heap_setCell _ _ _ _ (by simp only; omega)).trans hh, rest⟩

set_option maxHeartbeats 2000000 in
theorem opClone_any {o : OpV} {w : World} {a : Option Addr} {m cap : Nat} (h : Rng w a m cap o.l) (hm : m ≤ 1000000000) (hs : o.s.size ≤ 281474976710656) :
    Calls Tryd.prog 6 #[opVal o (.slice a m cap)] w fun e w' => ∃ a' cap', e = .returned (opVal o (.slice a' m cap')) ∧ OwnF rangeV 2 60 w' (w.heap.size + 2) (.slice a' m cap') o.l ∧ Below w.heap.size w w' := by
  have hlen := h.len
  have HS : Hid (∀ w' : World, Calls Tryd.prog 18 #[.string o.s] w' fun e w'' => e = .returned (.string o.s) ∧ Below w'.heap.size w' w'') := fun w' => strClone_any o.s hs w'
  have HR : Hid (∀ w' : World, Below w.heap.size w w' → Calls Tryd.prog 19 #[.slice a m cap] w' fun e w'' => ∃ v, e = .returned v ∧ OwnF rangeV 2 60 w'' w'.heap.size v o.l ∧ Below w'.heap.size w' w'') := fun w' hb => copiedR_any (h.below hb) hm
  clear h hm hs
  obtain ⟨c, n, k, p, s, l, tc, tn, on⟩ := o
  simp only at hlen HS HR
  simp only [opVal]
  have hX : Below w.heap.size w ((w.alloc (Obj.cells #[.int .i64 c, .int .i64 n, .int .i64 k, .int .i64 p, .string s, .slice a m cap, .int .i64 tc, .int .i64 tn, .bool on] 38)).alloc (Obj.cells #[.int .i64 0, .int .i64 0, .int .i64 0, .int .i64 0, .string ⟨#[]⟩, .slice none 0 0, .int .i64 0, .int .i64 0, .bool false] 38)) := ((Below.refl w.heap.size w).alloc (Nat.le_refl _) _).alloc (by simp) _
  have y0 : ((w.alloc (Obj.cells #[.int .i64 c, .int .i64 n, .int .i64 k, .int .i64 p, .string s, .slice a m cap, .int .i64 tc, .int .i64 tn, .bool on] 38)).alloc (Obj.cells #[.int .i64 0, .int .i64 0, .int .i64 0, .int .i64 0, .string ⟨#[]⟩, .slice none 0 0, .int .i64 0, .int .i64 0, .bool false] 38)).heap[w.heap.size]? = some (Obj.cells #[.int .i64 c, .int .i64 n, .int .i64 k, .int .i64 p, .string s, .slice a m cap, .int .i64 tc, .int .i64 tn, .bool on] 38) := (Below.heap_alloc _ _ _ (by simp)).trans (alloc_last _ _ _ rfl)
  have x0 : ((w.alloc (Obj.cells #[.int .i64 c, .int .i64 n, .int .i64 k, .int .i64 p, .string s, .slice a m cap, .int .i64 tc, .int .i64 tn, .bool on] 38)).alloc (Obj.cells #[.int .i64 0, .int .i64 0, .int .i64 0, .int .i64 0, .string ⟨#[]⟩, .slice none 0 0, .int .i64 0, .int .i64 0, .bool false] 38)).heap[w.heap.size + 1]? = some (Obj.cells #[.int .i64 0, .int .i64 0, .int .i64 0, .int .i64 0, .string ⟨#[]⟩, .slice none 0 0, .int .i64 0, .int .i64 0, .bool false] 38) := alloc_last _ _ _ (by simp)
  have hXs : ((w.alloc (Obj.cells #[.int .i64 c, .int .i64 n, .int .i64 k, .int .i64 p, .string s, .slice a m cap, .int .i64 tc, .int .i64 tn, .bool on] 38)).alloc (Obj.cells #[.int .i64 0, .int .i64 0, .int .i64 0, .int .i64 0, .string ⟨#[]⟩, .slice none 0 0, .int .i64 0, .int .i64 0, .bool false] 38)).heap.size = w.heap.size + 2 := by simp
  go_enter Tryd.func6, Tryd.ntmps6
  go_wp2_with fail
  refine (HS.out _).mono ?_
  rintro e w1 ⟨rfl, hb1⟩
  have hB1 := hX.trans (hb1.mono hX.size)
  have x1 := (hb1.block _ (Array.getElem?_eq_some_iff.1 x0).1).trans x0
  have y1 := (hb1.block _ (Array.getElem?_eq_some_iff.1 y0).1).trans y0
  have hs1 : w.heap.size + 2 ≤ w1.heap.size := by have := hb1.size; rw [hXs] at this; exact this
  clear hX x0 y0 hb1 hXs
  have f0 : w1.cell? ⟨w.heap.size, 0, none⟩ = some (.int .i64 c) := by rw [Lib.cell_of_heap y1]; rfl
  have f1 : w1.cell? ⟨w.heap.size, 1, none⟩ = some (.int .i64 n) := by rw [Lib.cell_of_heap y1]; rfl
  have f2 : w1.cell? ⟨w.heap.size, 2, none⟩ = some (.int .i64 k) := by rw [Lib.cell_of_heap y1]; rfl
  have f3 : w1.cell? ⟨w.heap.size, 3, none⟩ = some (.int .i64 p) := by rw [Lib.cell_of_heap y1]; rfl
  have f4 : w1.cell? ⟨w.heap.size, 4, none⟩ = some (.string s) := by rw [Lib.cell_of_heap y1]; rfl
  have fz4 : w1.frozen? ⟨w.heap.size, 4, none⟩ = false := Lib.frozen_of_heap y1 4
  have f5 : w1.cell? ⟨w.heap.size, 5, none⟩ = some (.slice a m cap) := by rw [Lib.cell_of_heap y1]; rfl
  have f6 : w1.cell? ⟨w.heap.size, 6, none⟩ = some (.int .i64 tc) := by rw [Lib.cell_of_heap y1]; rfl
  have f7 : w1.cell? ⟨w.heap.size, 7, none⟩ = some (.int .i64 tn) := by rw [Lib.cell_of_heap y1]; rfl
  have f8 : w1.cell? ⟨w.heap.size, 8, none⟩ = some (.bool on) := by rw [Lib.cell_of_heap y1]; rfl
  have sy : (w1.setCell ⟨w.heap.size, 4, none⟩ (.string s)).heap[w.heap.size]? = some (Obj.cells #[.int .i64 c, .int .i64 n, .int .i64 k, .int .i64 p, .string s, .slice a m cap, .int .i64 tc, .int .i64 tn, .bool on] 38) := (heap_setCell_same _ w.heap.size 4 _ _ _ y1).trans (by simp)
  have sx : (w1.setCell ⟨w.heap.size, 4, none⟩ (.string s)).heap[w.heap.size + 1]? = some (Obj.cells #[.int .i64 0, .int .i64 0, .int .i64 0, .int .i64 0, .string ⟨#[]⟩, .slice none 0 0, .int .i64 0, .int .i64 0, .bool false] 38) := (Below.heap_setCell _ _ _ _ (by simp)).trans x1
  have sB := hB1.setCell (p := ⟨w.heap.size, 4, none⟩) (Nat.le_refl _) (.string s)
  have hs2 : w.heap.size + 2 ≤ (w1.setCell ⟨w.heap.size, 4, none⟩ (.string s)).heap.size := by simpa [World.setCell] using hs1
  go_wp2_with fail
  refine (HR.out _ sB).mono ?_
  rintro e w2 ⟨v, rfl, hown, hb2⟩
  have hB2 := sB.trans (hb2.mono sB.size)
  have x2 := (hb2.block _ (Array.getElem?_eq_some_iff.1 sx).1).trans sx
  have y2 := (hb2.block _ (Array.getElem?_eq_some_iff.1 sy).1).trans sy
  obtain ⟨va, vc, rfl⟩ := hown.shape
  rw [hlen] at hown ⊢
  have HO : Hid (OwnF rangeV 2 60 w2 (w.heap.size + 2) (.slice va m vc) l) := hown.mono hs2
  clear f0 f1 f2 f3 f4 f5 f6 f7 f8 fz4 sy sx sB hb2 hown x1 y1 hB1 hs1 hs2
  have f0 : w2.cell? ⟨w.heap.size, 0, none⟩ = some (.int .i64 c) := by rw [Lib.cell_of_heap y2]; rfl
  have f1 : w2.cell? ⟨w.heap.size, 1, none⟩ = some (.int .i64 n) := by rw [Lib.cell_of_heap y2]; rfl
  have f2 : w2.cell? ⟨w.heap.size, 2, none⟩ = some (.int .i64 k) := by rw [Lib.cell_of_heap y2]; rfl
  have f3 : w2.cell? ⟨w.heap.size, 3, none⟩ = some (.int .i64 p) := by rw [Lib.cell_of_heap y2]; rfl
  have f4 : w2.cell? ⟨w.heap.size, 4, none⟩ = some (.string s) := by rw [Lib.cell_of_heap y2]; rfl
  have f5 : w2.cell? ⟨w.heap.size, 5, none⟩ = some (.slice a m cap) := by rw [Lib.cell_of_heap y2]; rfl
  have fz5 : w2.frozen? ⟨w.heap.size, 5, none⟩ = false := Lib.frozen_of_heap y2 5
  have f6 : w2.cell? ⟨w.heap.size, 6, none⟩ = some (.int .i64 tc) := by rw [Lib.cell_of_heap y2]; rfl
  have f7 : w2.cell? ⟨w.heap.size, 7, none⟩ = some (.int .i64 tn) := by rw [Lib.cell_of_heap y2]; rfl
  have f8 : w2.cell? ⟨w.heap.size, 8, none⟩ = some (.bool on) := by rw [Lib.cell_of_heap y2]; rfl
  have d0 : w2.cell? ⟨w.heap.size + 1, 0, none⟩ = some (.int .i64 0) := by rw [Lib.cell_of_heap x2]; rfl
  have dz0 : w2.frozen? ⟨w.heap.size + 1, 0, none⟩ = false := Lib.frozen_of_heap x2 0
  have d1 : w2.cell? ⟨w.heap.size + 1, 1, none⟩ = some (.int .i64 0) := by rw [Lib.cell_of_heap x2]; rfl
  have dz1 : w2.frozen? ⟨w.heap.size + 1, 1, none⟩ = false := Lib.frozen_of_heap x2 1
  have d2 : w2.cell? ⟨w.heap.size + 1, 2, none⟩ = some (.int .i64 0) := by rw [Lib.cell_of_heap x2]; rfl
  have dz2 : w2.frozen? ⟨w.heap.size + 1, 2, none⟩ = false := Lib.frozen_of_heap x2 2
  have d3 : w2.cell? ⟨w.heap.size + 1, 3, none⟩ = some (.int .i64 0) := by rw [Lib.cell_of_heap x2]; rfl
  have dz3 : w2.frozen? ⟨w.heap.size + 1, 3, none⟩ = false := Lib.frozen_of_heap x2 3
  have d4 : w2.cell? ⟨w.heap.size + 1, 4, none⟩ = some (.string ⟨#[]⟩) := by rw [Lib.cell_of_heap x2]; rfl
  have dz4 : w2.frozen? ⟨w.heap.size + 1, 4, none⟩ = false := Lib.frozen_of_heap x2 4
  have d5 : w2.cell? ⟨w.heap.size + 1, 5, none⟩ = some (.slice none 0 0) := by rw [Lib.cell_of_heap x2]; rfl
  have dz5 : w2.frozen? ⟨w.heap.size + 1, 5, none⟩ = false := Lib.frozen_of_heap x2 5
  have d6 : w2.cell? ⟨w.heap.size + 1, 6, none⟩ = some (.int .i64 0) := by rw [Lib.cell_of_heap x2]; rfl
  have dz6 : w2.frozen? ⟨w.heap.size + 1, 6, none⟩ = false := Lib.frozen_of_heap x2 6
  have d7 : w2.cell? ⟨w.heap.size + 1, 7, none⟩ = some (.int .i64 0) := by rw [Lib.cell_of_heap x2]; rfl
  have dz7 : w2.frozen? ⟨w.heap.size + 1, 7, none⟩ = false := Lib.frozen_of_heap x2 7
  have d8 : w2.cell? ⟨w.heap.size + 1, 8, none⟩ = some (.bool false) := by rw [Lib.cell_of_heap x2]; rfl
  have dz8 : w2.frozen? ⟨w.heap.size + 1, 8, none⟩ = false := Lib.frozen_of_heap x2 8
  have sx : (w2.setCell ⟨w.heap.size, 5, none⟩ (.slice va m vc)).heap[w.heap.size + 1]? = some (Obj.cells #[.int .i64 0, .int .i64 0, .int .i64 0, .int .i64 0, .string ⟨#[]⟩, .slice none 0 0, .int .i64 0, .int .i64 0, .bool false] 38) := (Below.heap_setCell _ _ _ _ (by simp)).trans x2
  have sB := hB2.setCell (p := ⟨w.heap.size, 5, none⟩) (Nat.le_refl _) (.slice va m vc)
  have hx9 := set9g (v0 := .int .i64 c) (v1 := .int .i64 n) (v2 := .int .i64 k) (v3 := .int .i64 p) (v4 := .string s) (v5 := .slice va m vc) (v6 := .int .i64 tc) (v7 := .int .i64 tn) (v8 := .bool on) sx
  have hq0 := sB.setCell (p := ⟨w.heap.size + 1, 0, none⟩) (by simp only; omega) (.int .i64 c)
  have hq1 := hq0.setCell (p := ⟨w.heap.size + 1, 1, none⟩) (by simp only; omega) (.int .i64 n)
  have hq2 := hq1.setCell (p := ⟨w.heap.size + 1, 2, none⟩) (by simp only; omega) (.int .i64 k)
  have hq3 := hq2.setCell (p := ⟨w.heap.size + 1, 3, none⟩) (by simp only; omega) (.int .i64 p)
  have hq4 := hq3.setCell (p := ⟨w.heap.size + 1, 4, none⟩) (by simp only; omega) (.string s)
  have hq5 := hq4.setCell (p := ⟨w.heap.size + 1, 5, none⟩) (by simp only; omega) (.slice va m vc)
  have hq6 := hq5.setCell (p := ⟨w.heap.size + 1, 6, none⟩) (by simp only; omega) (.int .i64 tc)
  have hq7 := hq6.setCell (p := ⟨w.heap.size + 1, 7, none⟩) (by simp only; omega) (.int .i64 tn)
  have hq8 := hq7.setCell (p := ⟨w.heap.size + 1, 8, none⟩) (by simp only; omega) (.bool on)
  obtain ⟨w9, hw9⟩ : ∃ w9, ((((((((((w2.setCell ⟨w.heap.size, 5, none⟩ (.slice va m vc)).setCell ⟨w.heap.size + 1, 0, none⟩ (.int .i64 c)).setCell ⟨w.heap.size + 1, 1, none⟩ (.int .i64 n)).setCell ⟨w.heap.size + 1, 2, none⟩ (.int .i64 k)).setCell ⟨w.heap.size + 1, 3, none⟩ (.int .i64 p)).setCell ⟨w.heap.size + 1, 4, none⟩ (.string s)).setCell ⟨w.heap.size + 1, 5, none⟩ (.slice va m vc)).setCell ⟨w.heap.size + 1, 6, none⟩ (.int .i64 tc)).setCell ⟨w.heap.size + 1, 7, none⟩ (.int .i64 tn)).setCell ⟨w.heap.size + 1, 8, none⟩ (.bool on)) = w9 := ⟨_, rfl⟩
  have HO9 : Hid (OwnF rangeV 2 60 w9 (w.heap.size + 2) (.slice va m vc) l) := by
    show OwnF _ _ _ _ _ _ _
    rw [← hw9]
    refine own_set ?_ _ _ _ (by omega)
    refine own_set ?_ _ _ _ (by omega)
    refine own_set ?_ _ _ _ (by omega)
    refine own_set ?_ _ _ _ (by omega)
    refine own_set ?_ _ _ _ (by omega)
    refine own_set ?_ _ _ _ (by omega)
    refine own_set ?_ _ _ _ (by omega)
    refine own_set ?_ _ _ _ (by omega)
    refine own_set ?_ _ _ _ (by omega)
    refine own_set ?_ _ _ _ (by omega)
    exact HO.out
  rw [hw9] at hx9 hq8
  have r0 : w9.cell? ⟨w.heap.size + 1, 0, none⟩ = some (.int .i64 c) := by rw [Lib.cell_of_heap hx9]; rfl
  have r1 : w9.cell? ⟨w.heap.size + 1, 1, none⟩ = some (.int .i64 n) := by rw [Lib.cell_of_heap hx9]; rfl
  have r2 : w9.cell? ⟨w.heap.size + 1, 2, none⟩ = some (.int .i64 k) := by rw [Lib.cell_of_heap hx9]; rfl
  have r3 : w9.cell? ⟨w.heap.size + 1, 3, none⟩ = some (.int .i64 p) := by rw [Lib.cell_of_heap hx9]; rfl
  have r4 : w9.cell? ⟨w.heap.size + 1, 4, none⟩ = some (.string s) := by rw [Lib.cell_of_heap hx9]; rfl
  have r5 : w9.cell? ⟨w.heap.size + 1, 5, none⟩ = some (.slice va m vc) := by rw [Lib.cell_of_heap hx9]; rfl
  have r6 : w9.cell? ⟨w.heap.size + 1, 6, none⟩ = some (.int .i64 tc) := by rw [Lib.cell_of_heap hx9]; rfl
  have r7 : w9.cell? ⟨w.heap.size + 1, 7, none⟩ = some (.int .i64 tn) := by rw [Lib.cell_of_heap hx9]; rfl
  have r8 : w9.cell? ⟨w.heap.size + 1, 8, none⟩ = some (.bool on) := by rw [Lib.cell_of_heap hx9]; rfl
  clear hq7 hq6 hq5 hq4 hq3 hq2 hq1 hq0 sx sB
  go_wp2_with fail
  try rw [hw9]
  refine bodyPost_ret (v := .agg #[.int .i64 c, .int .i64 n, .int .i64 k, .int .i64 p, .string s, .slice va m vc, .int .i64 tc, .int .i64 tn, .bool on]) (by simp [results, Tryd.results6, go_sem, r0, r1, r2, r3, r4, r5, r6, r7, r8]) rfl ⟨va, vc, rfl, HO9.out, hq8⟩
end Go.Proofs.YtnbedohlgghhdaaDoor
