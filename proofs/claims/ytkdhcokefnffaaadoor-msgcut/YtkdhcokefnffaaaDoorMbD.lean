import Derived.Test.YtkdhcokefnffaaaDoorMbC
import Derived.Test.YtkdhcokefnffaaaDoorMaS
/-! The reader's command, of bytes that are cut or go on. -/
namespace Go.Proofs.YtkdhcokefnffaaaDoor
open Go.RowKit Go.Lib Sp
set_option maxRecDepth 100000

theorem ranges_yes {w : World} {p n cap i : Nat} {a : Option Addr} {bs : List Nat} (h : Rdr w p a n cap bs i) {l : List (Nat × Nat)} (hA : Agr (bs.drop i) (encP l.length ++ rngL 0 l)) (hl : 1 ≤ l.length ∧ l.length ≤ 32768) (hO : RO 0 0 l) (hlt : ∀ g, a = some g → g.block < w.heap.size) (hQ : i + ((encP l.length).length + (rngL 0 l).length) ≤ n) :
    Calls Tryd.prog 40 #[.pointer (some ⟨p, 0, none⟩)] w fun e w' => ∃ b m c, e = .returned (.slice b m c) ∧ Rdr w' p a n cap bs (i + ((encP l.length).length + (rngL 0 l).length)) ∧ Chg (fun g => g = p) w w' :=
  (ranges_any h hA hl hO hlt _ rfl).mono (by
    rintro e w' (⟨_, h⟩ | ⟨h, _⟩)
    · exact h
    · omega)
theorem ranges_cut {w : World} {p n cap i : Nat} {a : Option Addr} {bs : List Nat} (h : Rdr w p a n cap bs i) {l : List (Nat × Nat)} (hA : Agr (bs.drop i) (encP l.length ++ rngL 0 l)) (hl : 1 ≤ l.length ∧ l.length ≤ 32768) (hO : RO 0 0 l) (hlt : ∀ g, a = some g → g.block < w.heap.size) (hQ : n < i + ((encP l.length).length + (rngL 0 l).length)) :
    Calls Tryd.prog 40 #[.pointer (some ⟨p, 0, none⟩)] w fun e w' => e = thrown n 102 ∧ Chg (fun g => g = p) w w' :=
  (ranges_any h hA hl hO hlt _ rfl).mono (by
    rintro e w' (⟨h, _⟩ | ⟨_, h⟩)
    · omega
    · exact h)

set_option maxHeartbeats 8000000 in
theorem command_ins {w : World} {p n cap q0 : Nat} {a : Option Addr} {bs : List Nat} (h : Rdr w p a n cap bs q0) (ha : ∀ g, a = some g → g.block < w.heap.size) {c m t : Nat} {S : List Nat} (hA : Agr (bs.drop q0) (encP 1 ++ (encP c ++ (encP m ++ (encP t ++ (encP S.length ++ S)))))) (hc : 1 ≤ c ∧ c ≤ 8) (hm : 1 ≤ m ∧ m ≤ 1024) (ht : t ≤ 1048576) (hS : 1 ≤ S.length ∧ S.length ≤ 1024) (r : Int) (hck : check (strB S) = (r, 0, 0)) (hr : r ≤ 256) (hr2 : (t : Int) + r ≤ 1048576) (hw : Bar w) (Q : Nat) (hQ : Q = q0 + (encP 1 ++ (encP c ++ (encP m ++ (encP t ++ (encP S.length ++ S))))).length) (hnQ : n ≠ Q) :
    Calls Tryd.prog 25 #[.pointer (some ⟨p, 0, none⟩)] w fun e w' => (n < Q ∧ e = thrown n 102 ∨ Q < n ∧ e = thrown Q 103) ∧ Chg (fun g => g = p) w w' := by
  have hpl := h.lt
  have hbp := bar_ne hw h.box
  have hbl : 0 < w.heap.size := by
    obtain ⟨t, fr, hg⟩ := hw.lies
    exact (Array.getElem?_eq_some_iff.1 hg).1
  obtain ⟨wa, ewa⟩ : ∃ W, (w.alloc (.cells #[.int .i64 0, .int .i64 0, .int .i64 0, .int .i64 0, .string ⟨#[]⟩, .slice none 0 0, .int .i64 0, .int .i64 0, .bool false] 35)).alloc (.cells #[.int .i64 0, .int .i64 0, .int .i64 0, .int .i64 0, .string ⟨#[]⟩, .slice none 0 0, .int .i64 0, .int .i64 0, .bool false] 35) = W := ⟨_, rfl⟩
  have hba : Below w.heap.size w wa := ewa ▸ ((Below.refl _ _).alloc (Nat.le_refl _) _).alloc (by simp) _
  have hO : wa.heap[w.heap.size + 1]? = some (.cells #[.int .i64 0, .int .i64 0, .int .i64 0, .int .i64 0, .string ⟨#[]⟩, .slice none 0 0, .int .i64 0, .int .i64 0, .bool false] 35) := by
    rw [← ewa]
    have := heap_alloc_new (w.alloc (.cells #[.int .i64 0, .int .i64 0, .int .i64 0, .int .i64 0, .string ⟨#[]⟩, .slice none 0 0, .int .i64 0, .int .i64 0, .bool false] 35)) (.cells #[.int .i64 0, .int .i64 0, .int .i64 0, .int .i64 0, .string ⟨#[]⟩, .slice none 0 0, .int .i64 0, .int .i64 0, .bool false] 35)
    rwa [World.size_alloc] at this
  have hR := h.chg (D := fun _ => False) (Chg.of_below hba) (fun h => h) (fun _ _ h => h)
  have hC : Chg (fun g => g = p ∨ w.heap.size ≤ g) w wa := Chg.of_below hba
  have ham : ∀ g, a = some g → ¬ g.block = w.heap.size + 1 := fun g e => by have := ha g e; omega
  simp only [List.length_append] at hQ
  obtain ⟨b0, b1, b2, b3, b4, b5, b6, b7, b8⟩ := box9 hO
  have FB : ∀ i, wa.frozen? ⟨w.heap.size + 1, i, none⟩ = false := fun i => Lib.frozen_of_heap hO i
  clear h hba
  go_enter Tryd.func25, Tryd.ntmps25
  rcases Nat.lt_or_ge n (q0 + (encP 1).length) with g0 | g0
  · have HB := kind_cut hR hA.fst (by omega) g0
    clear hR
    go_wp2_with fail
    refine HB.mono ?_
    rintro e wx ⟨rfl, hCx⟩
    clear HB
    unfold thrown
    try dsimp only
    go_wp2_with fail
    exact ⟨rfl, .inl ⟨by omega, rfl⟩, chg_drop (hC.trans (hCx.mono (fun _ _ e => .inl e))) (fun _ e => e)⟩
  have HB := kind_yes hR hA.fst (by omega) g0
  have HC : Hid (Chg (fun g => g = p ∨ w.heap.size ≤ g) w wa) := hC
  have HO : Hid (wa.heap[w.heap.size + 1]? = some (.cells #[.int .i64 0, .int .i64 0, .int .i64 0, .int .i64 0, .string ⟨#[]⟩, .slice none 0 0, .int .i64 0, .int .i64 0, .bool false] 35)) := hO
  clear hR hC hO
  go_wp2_with fail
  refine HB.mono ?_
  rintro e wf0 ⟨rfl, hR, hCx⟩
  clear HB
  clear b0 b1 b2 b3 b4 b5 b6 b7 b8 FB
  have hO := hCx.block HO.out (by omega)
  have hC : Chg (fun g => g = p ∨ w.heap.size ≤ g) w wf0 := HC.out.trans (hCx.mono (fun _ _ e => .inl e))
  clear HC HO hCx
  obtain ⟨x0, x1, x2, x3, x4, x5, x6, x7, x8⟩ := box9 hO
  have FX : ∀ i, wf0.frozen? ⟨w.heap.size + 1, i, none⟩ = false := fun i => Lib.frozen_of_heap hO i
  obtain ⟨ws0, ews0⟩ : ∃ W, (wf0.setCell ⟨w.heap.size + 1, 2, none⟩ (.int .i64 1)) = W := ⟨_, rfl⟩
  have hO2 : ws0.heap[w.heap.size + 1]? = some (.cells #[.int .i64 0, .int .i64 0, .int .i64 1, .int .i64 0, .string ⟨#[]⟩, .slice none 0 0, .int .i64 0, .int .i64 0, .bool false] 35) := ews0 ▸ (heap_setCell_cells hO 2 (.int .i64 1))
  have hS : Chg (fun g => g = w.heap.size + 1) wf0 ws0 := ews0 ▸ (Chg.set (D := fun g => g = w.heap.size + 1) (q := w.heap.size + 1) 2 _ _ rfl)
  have hR2 := hR.chg hS (by omega) ham
  have hC2 : Chg (fun g => g = p ∨ w.heap.size ≤ g) w ws0 := hC.trans (hS.mono (fun _ _ e => .inr (by omega)))
  clear hO hR hC hS
  have hO := hO2
  have hR := hR2
  have hC := hC2
  clear hO2 hR2 hC2
  obtain ⟨q1, hq1⟩ : ∃ q, q0 + (encP 1).length = q := ⟨_, rfl⟩
  rw [hq1] at hR
  have hA := hA.next
  rw [hq1] at hA
  obtain ⟨b0, b1, b2, b3, b4, b5, b6, b7, b8⟩ := box9 hO
  have FB : ∀ i, ws0.frozen? ⟨w.heap.size + 1, i, none⟩ = false := fun i => Lib.frozen_of_heap hO i
  have hA' := hA
  clear hA'
  rcases Nat.lt_or_ge n (q1 + (encP c).length) with g1 | g1
  · have HB := between_cut hR hA.fst 1 8 41 (by omega) (by omega) (by omega) g1
    clear hR
    go_wp2_with fail
    refine HB.mono ?_
    rintro e wx ⟨rfl, hCx⟩
    clear HB
    unfold thrown
    try dsimp only
    go_wp2_with fail
    exact ⟨rfl, .inl ⟨by omega, rfl⟩, chg_drop (hC.trans (hCx.mono (fun _ _ e => .inl e))) (fun _ e => e)⟩
  have HB := between_yes hR hA.fst 1 8 41 (by omega) (by omega) (by omega) g1
  have HC : Hid (Chg (fun g => g = p ∨ w.heap.size ≤ g) w ws0) := hC
  have HO : Hid (ws0.heap[w.heap.size + 1]? = some (.cells #[.int .i64 0, .int .i64 0, .int .i64 1, .int .i64 0, .string ⟨#[]⟩, .slice none 0 0, .int .i64 0, .int .i64 0, .bool false] 35)) := hO
  clear hR hC hO
  go_wp2_with fail
  refine HB.mono ?_
  rintro e wf1 ⟨rfl, hR, hCx⟩
  clear HB
  clear b0 b1 b2 b3 b4 b5 b6 b7 b8 FB x0 x1 x2 x3 x4 x5 x6 x7 x8 FX ews0
  have hO := hCx.block HO.out (by omega)
  have hC : Chg (fun g => g = p ∨ w.heap.size ≤ g) w wf1 := HC.out.trans (hCx.mono (fun _ _ e => .inl e))
  clear HC HO hCx
  obtain ⟨x0, x1, x2, x3, x4, x5, x6, x7, x8⟩ := box9 hO
  have FX : ∀ i, wf1.frozen? ⟨w.heap.size + 1, i, none⟩ = false := fun i => Lib.frozen_of_heap hO i
  obtain ⟨ws1, ews1⟩ : ∃ W, (wf1.setCell ⟨w.heap.size + 1, 0, none⟩ (.int .i64 (c : Int))) = W := ⟨_, rfl⟩
  have hO2 : ws1.heap[w.heap.size + 1]? = some (.cells #[.int .i64 (c : Int), .int .i64 0, .int .i64 1, .int .i64 0, .string ⟨#[]⟩, .slice none 0 0, .int .i64 0, .int .i64 0, .bool false] 35) := ews1 ▸ (heap_setCell_cells hO 0 (.int .i64 (c : Int)))
  have hS : Chg (fun g => g = w.heap.size + 1) wf1 ws1 := ews1 ▸ (Chg.set (D := fun g => g = w.heap.size + 1) (q := w.heap.size + 1) 0 _ _ rfl)
  have hR2 := hR.chg hS (by omega) ham
  have hC2 : Chg (fun g => g = p ∨ w.heap.size ≤ g) w ws1 := hC.trans (hS.mono (fun _ _ e => .inr (by omega)))
  clear hO hR hC hS
  have hO := hO2
  have hR := hR2
  have hC := hC2
  clear hO2 hR2 hC2
  obtain ⟨q2, hq2⟩ : ∃ q, q1 + (encP c).length = q := ⟨_, rfl⟩
  rw [hq2] at hR
  have hA := hA.next
  rw [hq2] at hA
  obtain ⟨b0, b1, b2, b3, b4, b5, b6, b7, b8⟩ := box9 hO
  have FB : ∀ i, ws1.frozen? ⟨w.heap.size + 1, i, none⟩ = false := fun i => Lib.frozen_of_heap hO i
  have hA' := hA
  clear hA'
  rcases Nat.lt_or_ge n (q2 + (encP m).length) with g2 | g2
  · have HB := between_cut hR hA.fst 1 1024 41 (by omega) (by omega) (by omega) g2
    clear hR
    go_wp2_with fail
    refine HB.mono ?_
    rintro e wx ⟨rfl, hCx⟩
    clear HB
    unfold thrown
    try dsimp only
    go_wp2_with fail
    exact ⟨rfl, .inl ⟨by omega, rfl⟩, chg_drop (hC.trans (hCx.mono (fun _ _ e => .inl e))) (fun _ e => e)⟩
  have HB := between_yes hR hA.fst 1 1024 41 (by omega) (by omega) (by omega) g2
  have HC : Hid (Chg (fun g => g = p ∨ w.heap.size ≤ g) w ws1) := hC
  have HO : Hid (ws1.heap[w.heap.size + 1]? = some (.cells #[.int .i64 (c : Int), .int .i64 0, .int .i64 1, .int .i64 0, .string ⟨#[]⟩, .slice none 0 0, .int .i64 0, .int .i64 0, .bool false] 35)) := hO
  clear hR hC hO
  go_wp2_with fail
  refine HB.mono ?_
  rintro e wf2 ⟨rfl, hR, hCx⟩
  clear HB
  clear b0 b1 b2 b3 b4 b5 b6 b7 b8 FB x0 x1 x2 x3 x4 x5 x6 x7 x8 FX ews1
  have hO := hCx.block HO.out (by omega)
  have hC : Chg (fun g => g = p ∨ w.heap.size ≤ g) w wf2 := HC.out.trans (hCx.mono (fun _ _ e => .inl e))
  clear HC HO hCx
  obtain ⟨x0, x1, x2, x3, x4, x5, x6, x7, x8⟩ := box9 hO
  have FX : ∀ i, wf2.frozen? ⟨w.heap.size + 1, i, none⟩ = false := fun i => Lib.frozen_of_heap hO i
  obtain ⟨ws2, ews2⟩ : ∃ W, (wf2.setCell ⟨w.heap.size + 1, 1, none⟩ (.int .i64 (m : Int))) = W := ⟨_, rfl⟩
  have hO2 : ws2.heap[w.heap.size + 1]? = some (.cells #[.int .i64 (c : Int), .int .i64 (m : Int), .int .i64 1, .int .i64 0, .string ⟨#[]⟩, .slice none 0 0, .int .i64 0, .int .i64 0, .bool false] 35) := ews2 ▸ (heap_setCell_cells hO 1 (.int .i64 (m : Int)))
  have hS : Chg (fun g => g = w.heap.size + 1) wf2 ws2 := ews2 ▸ (Chg.set (D := fun g => g = w.heap.size + 1) (q := w.heap.size + 1) 1 _ _ rfl)
  have hR2 := hR.chg hS (by omega) ham
  have hC2 : Chg (fun g => g = p ∨ w.heap.size ≤ g) w ws2 := hC.trans (hS.mono (fun _ _ e => .inr (by omega)))
  clear hO hR hC hS
  have hO := hO2
  have hR := hR2
  have hC := hC2
  clear hO2 hR2 hC2
  obtain ⟨q3, hq3⟩ : ∃ q, q2 + (encP m).length = q := ⟨_, rfl⟩
  rw [hq3] at hR
  have hA := hA.next
  rw [hq3] at hA
  obtain ⟨b0, b1, b2, b3, b4, b5, b6, b7, b8⟩ := box9 hO
  have FB : ∀ i, ws2.frozen? ⟨w.heap.size + 1, i, none⟩ = false := fun i => Lib.frozen_of_heap hO i
  have hA' := hA
  clear hA'
  rcases Nat.lt_or_ge n (q3 + (encP t).length) with g3 | g3
  · have HB := between_cut hR hA.fst 0 1048576 12 (by omega) (by omega) (by omega) g3
    clear hR
    go_wp2_with fail
    refine HB.mono ?_
    rintro e wx ⟨rfl, hCx⟩
    clear HB
    unfold thrown
    try dsimp only
    go_wp2_with fail
    exact ⟨rfl, .inl ⟨by omega, rfl⟩, chg_drop (hC.trans (hCx.mono (fun _ _ e => .inl e))) (fun _ e => e)⟩
  have HB := between_yes hR hA.fst 0 1048576 12 (by omega) (by omega) (by omega) g3
  have HC : Hid (Chg (fun g => g = p ∨ w.heap.size ≤ g) w ws2) := hC
  have HO : Hid (ws2.heap[w.heap.size + 1]? = some (.cells #[.int .i64 (c : Int), .int .i64 (m : Int), .int .i64 1, .int .i64 0, .string ⟨#[]⟩, .slice none 0 0, .int .i64 0, .int .i64 0, .bool false] 35)) := hO
  clear hR hC hO
  go_wp2_with fail
  refine HB.mono ?_
  rintro e wf3 ⟨rfl, hR, hCx⟩
  clear HB
  clear b0 b1 b2 b3 b4 b5 b6 b7 b8 FB x0 x1 x2 x3 x4 x5 x6 x7 x8 FX ews2
  have hO := hCx.block HO.out (by omega)
  have hC : Chg (fun g => g = p ∨ w.heap.size ≤ g) w wf3 := HC.out.trans (hCx.mono (fun _ _ e => .inl e))
  clear HC HO hCx
  obtain ⟨x0, x1, x2, x3, x4, x5, x6, x7, x8⟩ := box9 hO
  have FX : ∀ i, wf3.frozen? ⟨w.heap.size + 1, i, none⟩ = false := fun i => Lib.frozen_of_heap hO i
  obtain ⟨ws3, ews3⟩ : ∃ W, (wf3.setCell ⟨w.heap.size + 1, 3, none⟩ (.int .i64 (t : Int))) = W := ⟨_, rfl⟩
  have hO2 : ws3.heap[w.heap.size + 1]? = some (.cells #[.int .i64 (c : Int), .int .i64 (m : Int), .int .i64 1, .int .i64 (t : Int), .string ⟨#[]⟩, .slice none 0 0, .int .i64 0, .int .i64 0, .bool false] 35) := ews3 ▸ (heap_setCell_cells hO 3 (.int .i64 (t : Int)))
  have hS : Chg (fun g => g = w.heap.size + 1) wf3 ws3 := ews3 ▸ (Chg.set (D := fun g => g = w.heap.size + 1) (q := w.heap.size + 1) 3 _ _ rfl)
  have hR2 := hR.chg hS (by omega) ham
  have hC2 : Chg (fun g => g = p ∨ w.heap.size ≤ g) w ws3 := hC.trans (hS.mono (fun _ _ e => .inr (by omega)))
  clear hO hR hC hS
  have hO := hO2
  have hR := hR2
  have hC := hC2
  clear hO2 hR2 hC2
  obtain ⟨q4, hq4⟩ : ∃ q, q3 + (encP t).length = q := ⟨_, rfl⟩
  rw [hq4] at hR
  have hA := hA.next
  rw [hq4] at hA
  obtain ⟨b0, b1, b2, b3, b4, b5, b6, b7, b8⟩ := box9 hO
  have FB : ∀ i, ws3.frozen? ⟨w.heap.size + 1, i, none⟩ = false := fun i => Lib.frozen_of_heap hO i
  have hA' := hA
  clear hA'
  rcases Nat.lt_or_ge n (q4 + ((encP S.length).length + S.length)) with g4 | g4
  · have HB := text_cut hR hA hS (1048576 - (t : Int)) (by omega)
    clear hR
    go_wp2_with fail
    refine HB.mono ?_
    rintro e wx ⟨rfl, hCx⟩
    clear HB
    unfold thrown
    try dsimp only
    go_wp2_with fail
    exact ⟨rfl, .inl ⟨by omega, rfl⟩, chg_drop (hC.trans (hCx.mono (fun _ _ e => .inl e))) (fun _ e => e)⟩
  have HB := text_yes hR hA hS r (1048576 - (t : Int)) hck hr (by omega) (hw.chg hC (by omega)) (by omega)
  have HC : Hid (Chg (fun g => g = p ∨ w.heap.size ≤ g) w ws3) := hC
  have HO : Hid (ws3.heap[w.heap.size + 1]? = some (.cells #[.int .i64 (c : Int), .int .i64 (m : Int), .int .i64 1, .int .i64 (t : Int), .string ⟨#[]⟩, .slice none 0 0, .int .i64 0, .int .i64 0, .bool false] 35)) := hO
  clear hR hC hO
  go_wp2_with fail
  refine HB.mono ?_
  rintro e wf4 ⟨rfl, hR, hCx⟩
  clear HB
  clear b0 b1 b2 b3 b4 b5 b6 b7 b8 FB x0 x1 x2 x3 x4 x5 x6 x7 x8 FX ews3
  have hO := hCx.block HO.out (by omega)
  have hC : Chg (fun g => g = p ∨ w.heap.size ≤ g) w wf4 := HC.out.trans (hCx.mono (fun _ _ e => .inl e))
  clear HC HO hCx
  obtain ⟨x0, x1, x2, x3, x4, x5, x6, x7, x8⟩ := box9 hO
  have FX : ∀ i, wf4.frozen? ⟨w.heap.size + 1, i, none⟩ = false := fun i => Lib.frozen_of_heap hO i
  obtain ⟨ws4, ews4⟩ : ∃ W, (wf4.setCell ⟨w.heap.size + 1, 4, none⟩ (.string (strB S))) = W := ⟨_, rfl⟩
  have hO2 : ws4.heap[w.heap.size + 1]? = some (.cells #[.int .i64 (c : Int), .int .i64 (m : Int), .int .i64 1, .int .i64 (t : Int), .string (strB S), .slice none 0 0, .int .i64 0, .int .i64 0, .bool false] 35) := ews4 ▸ (heap_setCell_cells hO 4 (.string (strB S)))
  have hS : Chg (fun g => g = w.heap.size + 1) wf4 ws4 := ews4 ▸ (Chg.set (D := fun g => g = w.heap.size + 1) (q := w.heap.size + 1) 4 _ _ rfl)
  have hR2 := hR.chg hS (by omega) ham
  have hC2 : Chg (fun g => g = p ∨ w.heap.size ≤ g) w ws4 := hC.trans (hS.mono (fun _ _ e => .inr (by omega)))
  clear hO hR hC hS
  have hO := hO2
  have hR := hR2
  have hC := hC2
  clear hO2 hR2 hC2
  obtain ⟨q5, hq5⟩ : ∃ q, q4 + ((encP S.length).length + S.length) = q := ⟨_, rfl⟩
  rw [hq5] at hR
  obtain ⟨b0, b1, b2, b3, b4, b5, b6, b7, b8⟩ := box9 hO
  have FB : ∀ i, ws4.frozen? ⟨w.heap.size + 1, i, none⟩ = false := fun i => Lib.frozen_of_heap hO i
  have hQ2 : q5 = Q := by omega
  subst hQ2
  have hle := hR.le
  have HB := end_rest hR (by omega)
  clear hR
  go_wp2_with fail
  refine HB.mono ?_
  rintro e wx ⟨rfl, hCx⟩
  clear HB
  unfold thrown
  try dsimp only
  go_wp2_with fail
  exact ⟨rfl, .inr ⟨by omega, rfl⟩, chg_drop (hC.trans (hCx.mono (fun _ _ e => e.elim))) (fun _ e => e)⟩

set_option maxHeartbeats 8000000 in
theorem command_hide {w : World} {p n cap q0 : Nat} {a : Option Addr} {bs : List Nat} (h : Rdr w p a n cap bs q0) (ha : ∀ g, a = some g → g.block < w.heap.size) {c m : Nat} {l : List (Nat × Nat)} (hA : Agr (bs.drop q0) (encP 2 ++ (encP c ++ (encP m ++ (encP l.length ++ rngL 0 l))))) (hc : 1 ≤ c ∧ c ≤ 8) (hm : 1 ≤ m ∧ m ≤ 1024) (hl : 1 ≤ l.length ∧ l.length ≤ 32768) (hO2 : RO 0 0 l) (Q : Nat) (hQ : Q = q0 + (encP 2 ++ (encP c ++ (encP m ++ (encP l.length ++ rngL 0 l)))).length) (hnQ : n ≠ Q) :
    Calls Tryd.prog 25 #[.pointer (some ⟨p, 0, none⟩)] w fun e w' => (n < Q ∧ e = thrown n 102 ∨ Q < n ∧ e = thrown Q 103) ∧ Chg (fun g => g = p) w w' := by
  have hpl := h.lt
  obtain ⟨wa, ewa⟩ : ∃ W, (w.alloc (.cells #[.int .i64 0, .int .i64 0, .int .i64 0, .int .i64 0, .string ⟨#[]⟩, .slice none 0 0, .int .i64 0, .int .i64 0, .bool false] 35)).alloc (.cells #[.int .i64 0, .int .i64 0, .int .i64 0, .int .i64 0, .string ⟨#[]⟩, .slice none 0 0, .int .i64 0, .int .i64 0, .bool false] 35) = W := ⟨_, rfl⟩
  have hba : Below w.heap.size w wa := ewa ▸ ((Below.refl _ _).alloc (Nat.le_refl _) _).alloc (by simp) _
  have hO : wa.heap[w.heap.size + 1]? = some (.cells #[.int .i64 0, .int .i64 0, .int .i64 0, .int .i64 0, .string ⟨#[]⟩, .slice none 0 0, .int .i64 0, .int .i64 0, .bool false] 35) := by
    rw [← ewa]
    have := heap_alloc_new (w.alloc (.cells #[.int .i64 0, .int .i64 0, .int .i64 0, .int .i64 0, .string ⟨#[]⟩, .slice none 0 0, .int .i64 0, .int .i64 0, .bool false] 35)) (.cells #[.int .i64 0, .int .i64 0, .int .i64 0, .int .i64 0, .string ⟨#[]⟩, .slice none 0 0, .int .i64 0, .int .i64 0, .bool false] 35)
    rwa [World.size_alloc] at this
  have hR := h.chg (D := fun _ => False) (Chg.of_below hba) (fun h => h) (fun _ _ h => h)
  have hC : Chg (fun g => g = p ∨ w.heap.size ≤ g) w wa := Chg.of_below hba
  have ham : ∀ g, a = some g → ¬ g.block = w.heap.size + 1 := fun g e => by have := ha g e; omega
  simp only [List.length_append] at hQ
  obtain ⟨b0, b1, b2, b3, b4, b5, b6, b7, b8⟩ := box9 hO
  have FB : ∀ i, wa.frozen? ⟨w.heap.size + 1, i, none⟩ = false := fun i => Lib.frozen_of_heap hO i
  clear h hba
  go_enter Tryd.func25, Tryd.ntmps25
  rcases Nat.lt_or_ge n (q0 + (encP 2).length) with g0 | g0
  · have HB := kind_cut hR hA.fst (by omega) g0
    clear hR
    go_wp2_with fail
    refine HB.mono ?_
    rintro e wx ⟨rfl, hCx⟩
    clear HB
    unfold thrown
    try dsimp only
    go_wp2_with fail
    exact ⟨rfl, .inl ⟨by omega, rfl⟩, chg_drop (hC.trans (hCx.mono (fun _ _ e => .inl e))) (fun _ e => e)⟩
  have HB := kind_yes hR hA.fst (by omega) g0
  have HC : Hid (Chg (fun g => g = p ∨ w.heap.size ≤ g) w wa) := hC
  have HO : Hid (wa.heap[w.heap.size + 1]? = some (.cells #[.int .i64 0, .int .i64 0, .int .i64 0, .int .i64 0, .string ⟨#[]⟩, .slice none 0 0, .int .i64 0, .int .i64 0, .bool false] 35)) := hO
  clear hR hC hO
  go_wp2_with fail
  refine HB.mono ?_
  rintro e wf0 ⟨rfl, hR, hCx⟩
  clear HB
  clear b0 b1 b2 b3 b4 b5 b6 b7 b8 FB
  have hO := hCx.block HO.out (by omega)
  have hC : Chg (fun g => g = p ∨ w.heap.size ≤ g) w wf0 := HC.out.trans (hCx.mono (fun _ _ e => .inl e))
  clear HC HO hCx
  obtain ⟨x0, x1, x2, x3, x4, x5, x6, x7, x8⟩ := box9 hO
  have FX : ∀ i, wf0.frozen? ⟨w.heap.size + 1, i, none⟩ = false := fun i => Lib.frozen_of_heap hO i
  obtain ⟨ws0, ews0⟩ : ∃ W, (wf0.setCell ⟨w.heap.size + 1, 2, none⟩ (.int .i64 2)) = W := ⟨_, rfl⟩
  have hO9 : ws0.heap[w.heap.size + 1]? = some (.cells #[.int .i64 0, .int .i64 0, .int .i64 2, .int .i64 0, .string ⟨#[]⟩, .slice none 0 0, .int .i64 0, .int .i64 0, .bool false] 35) := ews0 ▸ (heap_setCell_cells hO 2 (.int .i64 2))
  have hS : Chg (fun g => g = w.heap.size + 1) wf0 ws0 := ews0 ▸ (Chg.set (D := fun g => g = w.heap.size + 1) (q := w.heap.size + 1) 2 _ _ rfl)
  have hR2 := hR.chg hS (by omega) ham
  have hC2 : Chg (fun g => g = p ∨ w.heap.size ≤ g) w ws0 := hC.trans (hS.mono (fun _ _ e => .inr (by omega)))
  clear hO hR hC hS
  have hO := hO9
  have hR := hR2
  have hC := hC2
  clear hO9 hR2 hC2
  obtain ⟨q1, hq1⟩ : ∃ q, q0 + (encP 2).length = q := ⟨_, rfl⟩
  rw [hq1] at hR
  have hA := hA.next
  rw [hq1] at hA
  obtain ⟨b0, b1, b2, b3, b4, b5, b6, b7, b8⟩ := box9 hO
  have FB : ∀ i, ws0.frozen? ⟨w.heap.size + 1, i, none⟩ = false := fun i => Lib.frozen_of_heap hO i
  have hA' := hA
  clear hA'
  rcases Nat.lt_or_ge n (q1 + (encP c).length) with g1 | g1
  · have HB := between_cut hR hA.fst 1 8 41 (by omega) (by omega) (by omega) g1
    clear hR
    go_wp2_with fail
    refine HB.mono ?_
    rintro e wx ⟨rfl, hCx⟩
    clear HB
    unfold thrown
    try dsimp only
    go_wp2_with fail
    exact ⟨rfl, .inl ⟨by omega, rfl⟩, chg_drop (hC.trans (hCx.mono (fun _ _ e => .inl e))) (fun _ e => e)⟩
  have HB := between_yes hR hA.fst 1 8 41 (by omega) (by omega) (by omega) g1
  have HC : Hid (Chg (fun g => g = p ∨ w.heap.size ≤ g) w ws0) := hC
  have HO : Hid (ws0.heap[w.heap.size + 1]? = some (.cells #[.int .i64 0, .int .i64 0, .int .i64 2, .int .i64 0, .string ⟨#[]⟩, .slice none 0 0, .int .i64 0, .int .i64 0, .bool false] 35)) := hO
  clear hR hC hO
  go_wp2_with fail
  refine HB.mono ?_
  rintro e wf1 ⟨rfl, hR, hCx⟩
  clear HB
  clear b0 b1 b2 b3 b4 b5 b6 b7 b8 FB x0 x1 x2 x3 x4 x5 x6 x7 x8 FX ews0
  have hO := hCx.block HO.out (by omega)
  have hC : Chg (fun g => g = p ∨ w.heap.size ≤ g) w wf1 := HC.out.trans (hCx.mono (fun _ _ e => .inl e))
  clear HC HO hCx
  obtain ⟨x0, x1, x2, x3, x4, x5, x6, x7, x8⟩ := box9 hO
  have FX : ∀ i, wf1.frozen? ⟨w.heap.size + 1, i, none⟩ = false := fun i => Lib.frozen_of_heap hO i
  obtain ⟨ws1, ews1⟩ : ∃ W, (wf1.setCell ⟨w.heap.size + 1, 0, none⟩ (.int .i64 (c : Int))) = W := ⟨_, rfl⟩
  have hO9 : ws1.heap[w.heap.size + 1]? = some (.cells #[.int .i64 (c : Int), .int .i64 0, .int .i64 2, .int .i64 0, .string ⟨#[]⟩, .slice none 0 0, .int .i64 0, .int .i64 0, .bool false] 35) := ews1 ▸ (heap_setCell_cells hO 0 (.int .i64 (c : Int)))
  have hS : Chg (fun g => g = w.heap.size + 1) wf1 ws1 := ews1 ▸ (Chg.set (D := fun g => g = w.heap.size + 1) (q := w.heap.size + 1) 0 _ _ rfl)
  have hR2 := hR.chg hS (by omega) ham
  have hC2 : Chg (fun g => g = p ∨ w.heap.size ≤ g) w ws1 := hC.trans (hS.mono (fun _ _ e => .inr (by omega)))
  clear hO hR hC hS
  have hO := hO9
  have hR := hR2
  have hC := hC2
  clear hO9 hR2 hC2
  obtain ⟨q2, hq2⟩ : ∃ q, q1 + (encP c).length = q := ⟨_, rfl⟩
  rw [hq2] at hR
  have hA := hA.next
  rw [hq2] at hA
  obtain ⟨b0, b1, b2, b3, b4, b5, b6, b7, b8⟩ := box9 hO
  have FB : ∀ i, ws1.frozen? ⟨w.heap.size + 1, i, none⟩ = false := fun i => Lib.frozen_of_heap hO i
  have hA' := hA
  clear hA'
  rcases Nat.lt_or_ge n (q2 + (encP m).length) with g2 | g2
  · have HB := between_cut hR hA.fst 1 1024 41 (by omega) (by omega) (by omega) g2
    clear hR
    go_wp2_with fail
    refine HB.mono ?_
    rintro e wx ⟨rfl, hCx⟩
    clear HB
    unfold thrown
    try dsimp only
    go_wp2_with fail
    exact ⟨rfl, .inl ⟨by omega, rfl⟩, chg_drop (hC.trans (hCx.mono (fun _ _ e => .inl e))) (fun _ e => e)⟩
  have HB := between_yes hR hA.fst 1 1024 41 (by omega) (by omega) (by omega) g2
  have HC : Hid (Chg (fun g => g = p ∨ w.heap.size ≤ g) w ws1) := hC
  have HO : Hid (ws1.heap[w.heap.size + 1]? = some (.cells #[.int .i64 (c : Int), .int .i64 0, .int .i64 2, .int .i64 0, .string ⟨#[]⟩, .slice none 0 0, .int .i64 0, .int .i64 0, .bool false] 35)) := hO
  clear hR hC hO
  go_wp2_with fail
  refine HB.mono ?_
  rintro e wf2 ⟨rfl, hR, hCx⟩
  clear HB
  clear b0 b1 b2 b3 b4 b5 b6 b7 b8 FB x0 x1 x2 x3 x4 x5 x6 x7 x8 FX ews1
  have hO := hCx.block HO.out (by omega)
  have hC : Chg (fun g => g = p ∨ w.heap.size ≤ g) w wf2 := HC.out.trans (hCx.mono (fun _ _ e => .inl e))
  clear HC HO hCx
  obtain ⟨x0, x1, x2, x3, x4, x5, x6, x7, x8⟩ := box9 hO
  have FX : ∀ i, wf2.frozen? ⟨w.heap.size + 1, i, none⟩ = false := fun i => Lib.frozen_of_heap hO i
  obtain ⟨ws2, ews2⟩ : ∃ W, (wf2.setCell ⟨w.heap.size + 1, 1, none⟩ (.int .i64 (m : Int))) = W := ⟨_, rfl⟩
  have hO9 : ws2.heap[w.heap.size + 1]? = some (.cells #[.int .i64 (c : Int), .int .i64 (m : Int), .int .i64 2, .int .i64 0, .string ⟨#[]⟩, .slice none 0 0, .int .i64 0, .int .i64 0, .bool false] 35) := ews2 ▸ (heap_setCell_cells hO 1 (.int .i64 (m : Int)))
  have hS : Chg (fun g => g = w.heap.size + 1) wf2 ws2 := ews2 ▸ (Chg.set (D := fun g => g = w.heap.size + 1) (q := w.heap.size + 1) 1 _ _ rfl)
  have hR2 := hR.chg hS (by omega) ham
  have hC2 : Chg (fun g => g = p ∨ w.heap.size ≤ g) w ws2 := hC.trans (hS.mono (fun _ _ e => .inr (by omega)))
  clear hO hR hC hS
  have hO := hO9
  have hR := hR2
  have hC := hC2
  clear hO9 hR2 hC2
  obtain ⟨q3, hq3⟩ : ∃ q, q2 + (encP m).length = q := ⟨_, rfl⟩
  rw [hq3] at hR
  have hA := hA.next
  rw [hq3] at hA
  obtain ⟨b0, b1, b2, b3, b4, b5, b6, b7, b8⟩ := box9 hO
  have FB : ∀ i, ws2.frozen? ⟨w.heap.size + 1, i, none⟩ = false := fun i => Lib.frozen_of_heap hO i
  have hA' := hA
  clear hA'
  rcases Nat.lt_or_ge n (q3 + ((encP l.length).length + (rngL 0 l).length)) with g3 | g3
  · have HB := ranges_cut hR hA hl hO2 (fun g e => by have := ha g e; have := hC.size; omega) (by omega)
    clear hR
    go_wp2_with fail
    refine HB.mono ?_
    rintro e wx ⟨rfl, hCx⟩
    clear HB
    unfold thrown
    try dsimp only
    go_wp2_with fail
    exact ⟨rfl, .inl ⟨by omega, rfl⟩, chg_drop (hC.trans (hCx.mono (fun _ _ e => .inl e))) (fun _ e => e)⟩
  have HB := ranges_yes hR hA hl hO2 (fun g e => by have := ha g e; have := hC.size; omega) (by omega)
  have HC : Hid (Chg (fun g => g = p ∨ w.heap.size ≤ g) w ws2) := hC
  have HO : Hid (ws2.heap[w.heap.size + 1]? = some (.cells #[.int .i64 (c : Int), .int .i64 (m : Int), .int .i64 2, .int .i64 0, .string ⟨#[]⟩, .slice none 0 0, .int .i64 0, .int .i64 0, .bool false] 35)) := hO
  clear hR hC hO
  go_wp2_with fail
  refine HB.mono ?_
  rintro e wf3 ⟨rb, rm, rc, rfl, hR, hCx⟩
  clear HB
  clear b0 b1 b2 b3 b4 b5 b6 b7 b8 FB x0 x1 x2 x3 x4 x5 x6 x7 x8 FX ews2
  have hO := hCx.block HO.out (by omega)
  have hC : Chg (fun g => g = p ∨ w.heap.size ≤ g) w wf3 := HC.out.trans (hCx.mono (fun _ _ e => .inl e))
  clear HC HO hCx
  obtain ⟨x0, x1, x2, x3, x4, x5, x6, x7, x8⟩ := box9 hO
  have FX : ∀ i, wf3.frozen? ⟨w.heap.size + 1, i, none⟩ = false := fun i => Lib.frozen_of_heap hO i
  obtain ⟨ws3, ews3⟩ : ∃ W, (wf3.setCell ⟨w.heap.size + 1, 5, none⟩ (.slice rb rm rc)) = W := ⟨_, rfl⟩
  have hO9 : ws3.heap[w.heap.size + 1]? = some (.cells #[.int .i64 (c : Int), .int .i64 (m : Int), .int .i64 2, .int .i64 0, .string ⟨#[]⟩, .slice rb rm rc, .int .i64 0, .int .i64 0, .bool false] 35) := ews3 ▸ (heap_setCell_cells hO 5 (.slice rb rm rc))
  have hS : Chg (fun g => g = w.heap.size + 1) wf3 ws3 := ews3 ▸ (Chg.set (D := fun g => g = w.heap.size + 1) (q := w.heap.size + 1) 5 _ _ rfl)
  have hR2 := hR.chg hS (by omega) ham
  have hC2 : Chg (fun g => g = p ∨ w.heap.size ≤ g) w ws3 := hC.trans (hS.mono (fun _ _ e => .inr (by omega)))
  clear hO hR hC hS
  have hO := hO9
  have hR := hR2
  have hC := hC2
  clear hO9 hR2 hC2
  obtain ⟨q4, hq4⟩ : ∃ q, q3 + ((encP l.length).length + (rngL 0 l).length) = q := ⟨_, rfl⟩
  rw [hq4] at hR
  obtain ⟨b0, b1, b2, b3, b4, b5, b6, b7, b8⟩ := box9 hO
  have FB : ∀ i, ws3.frozen? ⟨w.heap.size + 1, i, none⟩ = false := fun i => Lib.frozen_of_heap hO i
  have hQ2 : q4 = Q := by omega
  subst hQ2
  have hle := hR.le
  have HB := end_rest hR (by omega)
  clear hR
  go_wp2_with fail
  refine HB.mono ?_
  rintro e wx ⟨rfl, hCx⟩
  clear HB
  unfold thrown
  try dsimp only
  go_wp2_with fail
  exact ⟨rfl, .inr ⟨by omega, rfl⟩, chg_drop (hC.trans (hCx.mono (fun _ _ e => e.elim))) (fun _ e => e)⟩

set_option maxHeartbeats 8000000 in
theorem command_status {w : World} {p n cap q0 : Nat} {a : Option Addr} {bs : List Nat} (h : Rdr w p a n cap bs q0) (ha : ∀ g, a = some g → g.block < w.heap.size) {c m x y u : Nat} (hA : Agr (bs.drop q0) (encP 4 ++ (encP c ++ (encP m ++ (encP x ++ (encP y ++ encP u)))))) (hc : 1 ≤ c ∧ c ≤ 8) (hm : 1 ≤ m ∧ m ≤ 1024) (hx : 1 ≤ x ∧ x ≤ 8) (hy : 1 ≤ y ∧ y ≤ 1024) (hne : ¬ ((x : Int) = c ∧ (y : Int) = m)) (hu : u ≤ 1) (Q : Nat) (hQ : Q = q0 + (encP 4 ++ (encP c ++ (encP m ++ (encP x ++ (encP y ++ encP u))))).length) (hnQ : n ≠ Q) :
    Calls Tryd.prog 25 #[.pointer (some ⟨p, 0, none⟩)] w fun e w' => (n < Q ∧ e = thrown n 102 ∨ Q < n ∧ e = thrown Q 103) ∧ Chg (fun g => g = p) w w' := by
  have hpl := h.lt
  obtain ⟨B, hB⟩ : ∃ B, ((u : Int) == 1) = B := ⟨_, rfl⟩
  obtain ⟨wa, ewa⟩ : ∃ W, (w.alloc (.cells #[.int .i64 0, .int .i64 0, .int .i64 0, .int .i64 0, .string ⟨#[]⟩, .slice none 0 0, .int .i64 0, .int .i64 0, .bool false] 35)).alloc (.cells #[.int .i64 0, .int .i64 0, .int .i64 0, .int .i64 0, .string ⟨#[]⟩, .slice none 0 0, .int .i64 0, .int .i64 0, .bool false] 35) = W := ⟨_, rfl⟩
  have hba : Below w.heap.size w wa := ewa ▸ ((Below.refl _ _).alloc (Nat.le_refl _) _).alloc (by simp) _
  have hO : wa.heap[w.heap.size + 1]? = some (.cells #[.int .i64 0, .int .i64 0, .int .i64 0, .int .i64 0, .string ⟨#[]⟩, .slice none 0 0, .int .i64 0, .int .i64 0, .bool false] 35) := by
    rw [← ewa]
    have := heap_alloc_new (w.alloc (.cells #[.int .i64 0, .int .i64 0, .int .i64 0, .int .i64 0, .string ⟨#[]⟩, .slice none 0 0, .int .i64 0, .int .i64 0, .bool false] 35)) (.cells #[.int .i64 0, .int .i64 0, .int .i64 0, .int .i64 0, .string ⟨#[]⟩, .slice none 0 0, .int .i64 0, .int .i64 0, .bool false] 35)
    rwa [World.size_alloc] at this
  have hR := h.chg (D := fun _ => False) (Chg.of_below hba) (fun h => h) (fun _ _ h => h)
  have hC : Chg (fun g => g = p ∨ w.heap.size ≤ g) w wa := Chg.of_below hba
  have ham : ∀ g, a = some g → ¬ g.block = w.heap.size + 1 := fun g e => by have := ha g e; omega
  simp only [List.length_append] at hQ
  obtain ⟨b0, b1, b2, b3, b4, b5, b6, b7, b8⟩ := box9 hO
  have FB : ∀ i, wa.frozen? ⟨w.heap.size + 1, i, none⟩ = false := fun i => Lib.frozen_of_heap hO i
  clear h hba
  go_enter Tryd.func25, Tryd.ntmps25
  rcases Nat.lt_or_ge n (q0 + (encP 4).length) with g0 | g0
  · have HB := kind_cut hR hA.fst (by omega) g0
    clear hR
    go_wp2_with fail
    refine HB.mono ?_
    rintro e wx ⟨rfl, hCx⟩
    clear HB
    unfold thrown
    try dsimp only
    go_wp2_with fail
    exact ⟨rfl, .inl ⟨by omega, rfl⟩, chg_drop (hC.trans (hCx.mono (fun _ _ e => .inl e))) (fun _ e => e)⟩
  have HB := kind_yes hR hA.fst (by omega) g0
  have HC : Hid (Chg (fun g => g = p ∨ w.heap.size ≤ g) w wa) := hC
  have HO : Hid (wa.heap[w.heap.size + 1]? = some (.cells #[.int .i64 0, .int .i64 0, .int .i64 0, .int .i64 0, .string ⟨#[]⟩, .slice none 0 0, .int .i64 0, .int .i64 0, .bool false] 35)) := hO
  clear hR hC hO
  go_wp2_with fail
  refine HB.mono ?_
  rintro e wf0 ⟨rfl, hR, hCx⟩
  clear HB
  clear b0 b1 b2 b3 b4 b5 b6 b7 b8 FB
  have hO := hCx.block HO.out (by omega)
  have hC : Chg (fun g => g = p ∨ w.heap.size ≤ g) w wf0 := HC.out.trans (hCx.mono (fun _ _ e => .inl e))
  clear HC HO hCx
  obtain ⟨x0, x1, x2, x3, x4, x5, x6, x7, x8⟩ := box9 hO
  have FX : ∀ i, wf0.frozen? ⟨w.heap.size + 1, i, none⟩ = false := fun i => Lib.frozen_of_heap hO i
  obtain ⟨ws0, ews0⟩ : ∃ W, (wf0.setCell ⟨w.heap.size + 1, 2, none⟩ (.int .i64 4)) = W := ⟨_, rfl⟩
  have hO2 : ws0.heap[w.heap.size + 1]? = some (.cells #[.int .i64 0, .int .i64 0, .int .i64 4, .int .i64 0, .string ⟨#[]⟩, .slice none 0 0, .int .i64 0, .int .i64 0, .bool false] 35) := ews0 ▸ (heap_setCell_cells hO 2 (.int .i64 4))
  have hS : Chg (fun g => g = w.heap.size + 1) wf0 ws0 := ews0 ▸ (Chg.set (D := fun g => g = w.heap.size + 1) (q := w.heap.size + 1) 2 _ _ rfl)
  have hR2 := hR.chg hS (by omega) ham
  have hC2 : Chg (fun g => g = p ∨ w.heap.size ≤ g) w ws0 := hC.trans (hS.mono (fun _ _ e => .inr (by omega)))
  clear hO hR hC hS
  have hO := hO2
  have hR := hR2
  have hC := hC2
  clear hO2 hR2 hC2
  obtain ⟨q1, hq1⟩ : ∃ q, q0 + (encP 4).length = q := ⟨_, rfl⟩
  rw [hq1] at hR
  have hA := hA.next
  rw [hq1] at hA
  obtain ⟨b0, b1, b2, b3, b4, b5, b6, b7, b8⟩ := box9 hO
  have FB : ∀ i, ws0.frozen? ⟨w.heap.size + 1, i, none⟩ = false := fun i => Lib.frozen_of_heap hO i
  have hA' := hA
  clear hA'
  rcases Nat.lt_or_ge n (q1 + (encP c).length) with g1 | g1
  · have HB := between_cut hR hA.fst 1 8 41 (by omega) (by omega) (by omega) g1
    clear hR
    go_wp2_with fail
    refine HB.mono ?_
    rintro e wx ⟨rfl, hCx⟩
    clear HB
    unfold thrown
    try dsimp only
    go_wp2_with fail
    exact ⟨rfl, .inl ⟨by omega, rfl⟩, chg_drop (hC.trans (hCx.mono (fun _ _ e => .inl e))) (fun _ e => e)⟩
  have HB := between_yes hR hA.fst 1 8 41 (by omega) (by omega) (by omega) g1
  have HC : Hid (Chg (fun g => g = p ∨ w.heap.size ≤ g) w ws0) := hC
  have HO : Hid (ws0.heap[w.heap.size + 1]? = some (.cells #[.int .i64 0, .int .i64 0, .int .i64 4, .int .i64 0, .string ⟨#[]⟩, .slice none 0 0, .int .i64 0, .int .i64 0, .bool false] 35)) := hO
  clear hR hC hO
  go_wp2_with fail
  refine HB.mono ?_
  rintro e wf1 ⟨rfl, hR, hCx⟩
  clear HB
  clear b0 b1 b2 b3 b4 b5 b6 b7 b8 FB x0 x1 x2 x3 x4 x5 x6 x7 x8 FX ews0
  have hO := hCx.block HO.out (by omega)
  have hC : Chg (fun g => g = p ∨ w.heap.size ≤ g) w wf1 := HC.out.trans (hCx.mono (fun _ _ e => .inl e))
  clear HC HO hCx
  obtain ⟨x0, x1, x2, x3, x4, x5, x6, x7, x8⟩ := box9 hO
  have FX : ∀ i, wf1.frozen? ⟨w.heap.size + 1, i, none⟩ = false := fun i => Lib.frozen_of_heap hO i
  obtain ⟨ws1, ews1⟩ : ∃ W, (wf1.setCell ⟨w.heap.size + 1, 0, none⟩ (.int .i64 (c : Int))) = W := ⟨_, rfl⟩
  have hO2 : ws1.heap[w.heap.size + 1]? = some (.cells #[.int .i64 (c : Int), .int .i64 0, .int .i64 4, .int .i64 0, .string ⟨#[]⟩, .slice none 0 0, .int .i64 0, .int .i64 0, .bool false] 35) := ews1 ▸ (heap_setCell_cells hO 0 (.int .i64 (c : Int)))
  have hS : Chg (fun g => g = w.heap.size + 1) wf1 ws1 := ews1 ▸ (Chg.set (D := fun g => g = w.heap.size + 1) (q := w.heap.size + 1) 0 _ _ rfl)
  have hR2 := hR.chg hS (by omega) ham
  have hC2 : Chg (fun g => g = p ∨ w.heap.size ≤ g) w ws1 := hC.trans (hS.mono (fun _ _ e => .inr (by omega)))
  clear hO hR hC hS
  have hO := hO2
  have hR := hR2
  have hC := hC2
  clear hO2 hR2 hC2
  obtain ⟨q2, hq2⟩ : ∃ q, q1 + (encP c).length = q := ⟨_, rfl⟩
  rw [hq2] at hR
  have hA := hA.next
  rw [hq2] at hA
  obtain ⟨b0, b1, b2, b3, b4, b5, b6, b7, b8⟩ := box9 hO
  have FB : ∀ i, ws1.frozen? ⟨w.heap.size + 1, i, none⟩ = false := fun i => Lib.frozen_of_heap hO i
  have hA' := hA
  clear hA'
  rcases Nat.lt_or_ge n (q2 + (encP m).length) with g2 | g2
  · have HB := between_cut hR hA.fst 1 1024 41 (by omega) (by omega) (by omega) g2
    clear hR
    go_wp2_with fail
    refine HB.mono ?_
    rintro e wx ⟨rfl, hCx⟩
    clear HB
    unfold thrown
    try dsimp only
    go_wp2_with fail
    exact ⟨rfl, .inl ⟨by omega, rfl⟩, chg_drop (hC.trans (hCx.mono (fun _ _ e => .inl e))) (fun _ e => e)⟩
  have HB := between_yes hR hA.fst 1 1024 41 (by omega) (by omega) (by omega) g2
  have HC : Hid (Chg (fun g => g = p ∨ w.heap.size ≤ g) w ws1) := hC
  have HO : Hid (ws1.heap[w.heap.size + 1]? = some (.cells #[.int .i64 (c : Int), .int .i64 0, .int .i64 4, .int .i64 0, .string ⟨#[]⟩, .slice none 0 0, .int .i64 0, .int .i64 0, .bool false] 35)) := hO
  clear hR hC hO
  go_wp2_with fail
  refine HB.mono ?_
  rintro e wf2 ⟨rfl, hR, hCx⟩
  clear HB
  clear b0 b1 b2 b3 b4 b5 b6 b7 b8 FB x0 x1 x2 x3 x4 x5 x6 x7 x8 FX ews1
  have hO := hCx.block HO.out (by omega)
  have hC : Chg (fun g => g = p ∨ w.heap.size ≤ g) w wf2 := HC.out.trans (hCx.mono (fun _ _ e => .inl e))
  clear HC HO hCx
  obtain ⟨x0, x1, x2, x3, x4, x5, x6, x7, x8⟩ := box9 hO
  have FX : ∀ i, wf2.frozen? ⟨w.heap.size + 1, i, none⟩ = false := fun i => Lib.frozen_of_heap hO i
  obtain ⟨ws2, ews2⟩ : ∃ W, (wf2.setCell ⟨w.heap.size + 1, 1, none⟩ (.int .i64 (m : Int))) = W := ⟨_, rfl⟩
  have hO2 : ws2.heap[w.heap.size + 1]? = some (.cells #[.int .i64 (c : Int), .int .i64 (m : Int), .int .i64 4, .int .i64 0, .string ⟨#[]⟩, .slice none 0 0, .int .i64 0, .int .i64 0, .bool false] 35) := ews2 ▸ (heap_setCell_cells hO 1 (.int .i64 (m : Int)))
  have hS : Chg (fun g => g = w.heap.size + 1) wf2 ws2 := ews2 ▸ (Chg.set (D := fun g => g = w.heap.size + 1) (q := w.heap.size + 1) 1 _ _ rfl)
  have hR2 := hR.chg hS (by omega) ham
  have hC2 : Chg (fun g => g = p ∨ w.heap.size ≤ g) w ws2 := hC.trans (hS.mono (fun _ _ e => .inr (by omega)))
  clear hO hR hC hS
  have hO := hO2
  have hR := hR2
  have hC := hC2
  clear hO2 hR2 hC2
  obtain ⟨q3, hq3⟩ : ∃ q, q2 + (encP m).length = q := ⟨_, rfl⟩
  rw [hq3] at hR
  have hA := hA.next
  rw [hq3] at hA
  obtain ⟨b0, b1, b2, b3, b4, b5, b6, b7, b8⟩ := box9 hO
  have FB : ∀ i, ws2.frozen? ⟨w.heap.size + 1, i, none⟩ = false := fun i => Lib.frozen_of_heap hO i
  have hA' := hA
  clear hA'
  rcases Nat.lt_or_ge n (q3 + ((encP x).length + (encP y).length)) with g3 | g3
  · have HB := target_cut hR (by rw [← List.append_assoc] at hA; exact hA.fst) c m hx hy (by omega)
    clear hR
    go_wp2_with fail
    refine HB.mono ?_
    rintro e wx ⟨rfl, hCx⟩
    clear HB
    unfold thrown
    try dsimp only
    go_wp2_with fail
    exact ⟨rfl, .inl ⟨by omega, rfl⟩, chg_drop (hC.trans (hCx.mono (fun _ _ e => .inl e))) (fun _ e => e)⟩
  have HB := target_yes hR (by rw [← List.append_assoc] at hA; exact hA.fst) c m hx hy hne (fun g e => by have := ha g e; have := hC.size; omega) (by omega)
  have HC : Hid (Chg (fun g => g = p ∨ w.heap.size ≤ g) w ws2) := hC
  have HO : Hid (ws2.heap[w.heap.size + 1]? = some (.cells #[.int .i64 (c : Int), .int .i64 (m : Int), .int .i64 4, .int .i64 0, .string ⟨#[]⟩, .slice none 0 0, .int .i64 0, .int .i64 0, .bool false] 35)) := hO
  clear hR hC hO
  go_wp2_with fail
  refine HB.mono ?_
  rintro e wf3 ⟨rfl, hR, hCx⟩
  clear HB
  clear b0 b1 b2 b3 b4 b5 b6 b7 b8 FB x0 x1 x2 x3 x4 x5 x6 x7 x8 FX ews2
  have hO := hCx.block HO.out (by omega)
  have hC : Chg (fun g => g = p ∨ w.heap.size ≤ g) w wf3 := HC.out.trans (hCx.mono (fun _ _ e => .inl e))
  clear HC HO hCx
  obtain ⟨x0, x1, x2, x3, x4, x5, x6, x7, x8⟩ := box9 hO
  have FX : ∀ i, wf3.frozen? ⟨w.heap.size + 1, i, none⟩ = false := fun i => Lib.frozen_of_heap hO i
  obtain ⟨ws3, ews3⟩ : ∃ W, ((wf3.setCell ⟨w.heap.size + 1, 6, none⟩ (.int .i64 (x : Int))).setCell ⟨w.heap.size + 1, 7, none⟩ (.int .i64 (y : Int))) = W := ⟨_, rfl⟩
  have hO2 : ws3.heap[w.heap.size + 1]? = some (.cells #[.int .i64 (c : Int), .int .i64 (m : Int), .int .i64 4, .int .i64 0, .string ⟨#[]⟩, .slice none 0 0, .int .i64 (x : Int), .int .i64 (y : Int), .bool false] 35) := ews3 ▸ (heap_setCell_cells (heap_setCell_cells hO 6 (.int .i64 (x : Int))) 7 (.int .i64 (y : Int)))
  have hS : Chg (fun g => g = w.heap.size + 1) wf3 ws3 := ews3 ▸ ((Chg.set (D := fun g => g = w.heap.size + 1) (q := w.heap.size + 1) 6 _ _ rfl).trans (Chg.set (D := fun g => g = w.heap.size + 1) (q := w.heap.size + 1) 7 _ _ rfl))
  have hR2 := hR.chg hS (by omega) ham
  have hC2 : Chg (fun g => g = p ∨ w.heap.size ≤ g) w ws3 := hC.trans (hS.mono (fun _ _ e => .inr (by omega)))
  clear hO hR hC hS
  have hO := hO2
  have hR := hR2
  have hC := hC2
  clear hO2 hR2 hC2
  obtain ⟨q4, hq4⟩ : ∃ q, q3 + ((encP x).length + (encP y).length) = q := ⟨_, rfl⟩
  rw [hq4] at hR
  have hA := (show Agr (bs.drop q3) ((encP x ++ encP y) ++ encP u) by rw [List.append_assoc]; exact hA).next
  rw [List.length_append, hq4] at hA
  obtain ⟨b0, b1, b2, b3, b4, b5, b6, b7, b8⟩ := box9 hO
  have FB : ∀ i, ws3.frozen? ⟨w.heap.size + 1, i, none⟩ = false := fun i => Lib.frozen_of_heap hO i
  have hA' := hA
  clear hA'
  rcases Nat.lt_or_ge n (q4 + (encP u).length) with g4 | g4
  · have HB := between_cut hR hA 0 1 104 (by omega) (by omega) (by omega) g4
    clear hR
    go_wp2_with fail
    refine HB.mono ?_
    rintro e wx ⟨rfl, hCx⟩
    clear HB
    unfold thrown
    try dsimp only
    go_wp2_with fail
    exact ⟨rfl, .inl ⟨by omega, rfl⟩, chg_drop (hC.trans (hCx.mono (fun _ _ e => .inl e))) (fun _ e => e)⟩
  have HB := between_yes hR hA 0 1 104 (by omega) (by omega) (by omega) g4
  have HC : Hid (Chg (fun g => g = p ∨ w.heap.size ≤ g) w ws3) := hC
  have HO : Hid (ws3.heap[w.heap.size + 1]? = some (.cells #[.int .i64 (c : Int), .int .i64 (m : Int), .int .i64 4, .int .i64 0, .string ⟨#[]⟩, .slice none 0 0, .int .i64 (x : Int), .int .i64 (y : Int), .bool false] 35)) := hO
  clear hR hC hO
  go_wp2_with fail
  refine HB.mono ?_
  rintro e wf4 ⟨rfl, hR, hCx⟩
  clear HB
  clear b0 b1 b2 b3 b4 b5 b6 b7 b8 FB x0 x1 x2 x3 x4 x5 x6 x7 x8 FX ews3
  have hO := hCx.block HO.out (by omega)
  have hC : Chg (fun g => g = p ∨ w.heap.size ≤ g) w wf4 := HC.out.trans (hCx.mono (fun _ _ e => .inl e))
  clear HC HO hCx
  obtain ⟨x0, x1, x2, x3, x4, x5, x6, x7, x8⟩ := box9 hO
  have FX : ∀ i, wf4.frozen? ⟨w.heap.size + 1, i, none⟩ = false := fun i => Lib.frozen_of_heap hO i
  obtain ⟨ws4, ews4⟩ : ∃ W, (wf4.setCell ⟨w.heap.size + 1, 8, none⟩ (.bool B)) = W := ⟨_, rfl⟩
  have hO2 : ws4.heap[w.heap.size + 1]? = some (.cells #[.int .i64 (c : Int), .int .i64 (m : Int), .int .i64 4, .int .i64 0, .string ⟨#[]⟩, .slice none 0 0, .int .i64 (x : Int), .int .i64 (y : Int), .bool B] 35) := ews4 ▸ (heap_setCell_cells hO 8 (.bool B))
  have hS : Chg (fun g => g = w.heap.size + 1) wf4 ws4 := ews4 ▸ (Chg.set (D := fun g => g = w.heap.size + 1) (q := w.heap.size + 1) 8 _ _ rfl)
  have hR2 := hR.chg hS (by omega) ham
  have hC2 : Chg (fun g => g = p ∨ w.heap.size ≤ g) w ws4 := hC.trans (hS.mono (fun _ _ e => .inr (by omega)))
  clear hO hR hC hS
  have hO := hO2
  have hR := hR2
  have hC := hC2
  clear hO2 hR2 hC2
  obtain ⟨q5, hq5⟩ : ∃ q, q4 + (encP u).length = q := ⟨_, rfl⟩
  rw [hq5] at hR
  obtain ⟨b0, b1, b2, b3, b4, b5, b6, b7, b8⟩ := box9 hO
  have FB : ∀ i, ws4.frozen? ⟨w.heap.size + 1, i, none⟩ = false := fun i => Lib.frozen_of_heap hO i
  have hQ2 : q5 = Q := by omega
  subst hQ2
  have hle := hR.le
  have HB := end_rest hR (by omega)
  clear hR
  go_wp2_with fail
  refine HB.mono ?_
  rintro e wx ⟨rfl, hCx⟩
  clear HB
  unfold thrown
  try dsimp only
  go_wp2_with fail
  exact ⟨rfl, .inr ⟨by omega, rfl⟩, chg_drop (hC.trans (hCx.mono (fun _ _ e => e.elim))) (fun _ e => e)⟩
end Go.Proofs.YtkdhcokefnffaaaDoor
