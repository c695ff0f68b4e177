import Derived.Test.YtkdhcokefnffaaaDoorMbE
/-! The reader's message, of bytes that are cut or go on. -/
namespace Go.Proofs.YtkdhcokefnffaaaDoor
open Go.RowKit Go.Lib Sp
set_option maxRecDepth 100000

set_option maxHeartbeats 8000000 in
theorem message_1 {w : World} {p n cap q0 : Nat} {a : Option Addr} {bs : List Nat} (h : Rdr w p a n cap bs q0) (ha : ∀ g, a = some g → g.block < w.heap.size) {k r : Nat} (hA : Agr (bs.drop q0) (encP 1 ++ (encP k ++ encP r))) (hk : 1 ≤ k ∧ k ≤ 8) (hr : r ≤ 8192) (Q : Nat) (hQ : Q = q0 + (encP 1 ++ (encP k ++ encP r)).length) (hnQ : n ≠ Q) :
    Calls Tryd.prog 19 #[.pointer (some ⟨p, 0, none⟩)] w fun e w' => Ends n Q e ∧ Chg (fun g => g = p) w w' := by
  have hpl := h.lt
  rw [← List.append_nil (encP r)] at hA
  obtain ⟨wa, ewa⟩ : ∃ W, (w.alloc (.cells #[.int .i64 0, .int .i64 0, .int .i64 0, .int .i64 0, .int .i64 0, .int .i64 0, .int .i64 0, .int .i64 0, .string ⟨#[]⟩, .slice none 0 0, .int .i64 0, .int .i64 0, .bool false] 37)).alloc (.cells #[.int .i64 0, .int .i64 0, .int .i64 0, .int .i64 0, .int .i64 0, .int .i64 0, .int .i64 0, .int .i64 0, .string ⟨#[]⟩, .slice none 0 0, .int .i64 0, .int .i64 0, .bool false] 37) = W := ⟨_, rfl⟩
  have hba : Below w.heap.size w wa := ewa ▸ ((Below.refl _ _).alloc (Nat.le_refl _) _).alloc (by simp) _
  have hM : wa.heap[w.heap.size + 1]? = some (.cells #[.int .i64 0, .int .i64 0, .int .i64 0, .int .i64 0, .int .i64 0, .int .i64 0, .int .i64 0, .int .i64 0, .string ⟨#[]⟩, .slice none 0 0, .int .i64 0, .int .i64 0, .bool false] 37) := by
    rw [← ewa]
    have := heap_alloc_new (w.alloc (.cells #[.int .i64 0, .int .i64 0, .int .i64 0, .int .i64 0, .int .i64 0, .int .i64 0, .int .i64 0, .int .i64 0, .string ⟨#[]⟩, .slice none 0 0, .int .i64 0, .int .i64 0, .bool false] 37)) (.cells #[.int .i64 0, .int .i64 0, .int .i64 0, .int .i64 0, .int .i64 0, .int .i64 0, .int .i64 0, .int .i64 0, .string ⟨#[]⟩, .slice none 0 0, .int .i64 0, .int .i64 0, .bool false] 37)
    rwa [World.size_alloc] at this
  have hR := h.chg (D := fun _ => False) (Chg.of_below hba) (fun h => h) (fun _ _ h => h)
  have hC : Chg (fun g => g = p ∨ w.heap.size ≤ g) w wa := Chg.of_below hba
  have ham : ∀ g, a = some g → ¬ g.block = w.heap.size + 1 := fun g e => by have := ha g e; omega
  simp only [List.length_append] at hQ
  clear h hba
  go_enter Tryd.func19, Tryd.ntmps19
  rcases Nat.lt_or_ge n (q0 + (encP 1).length) with g0 | g0
  · have HB := between_cut hR hA.fst 1 4 100 (by omega) (by omega) (by omega) g0
    clear hR
    go_wp2_with fail
    refine HB.mono ?_
    rintro e wx ⟨rfl, hCx⟩
    clear HB
    unfold thrown
    try dsimp only
    go_wp2_with fail
    exact ⟨rfl, .inl ⟨by omega, rfl⟩, chg_drop (hC.trans (hCx.mono (fun _ _ e => .inl e))) (fun _ e => e)⟩
  have HB := between_yes hR hA.fst 1 4 100 (by omega) (by omega) (by omega) g0
  have HC : Hid (Chg (fun g => g = p ∨ w.heap.size ≤ g) w wa) := hC
  have HM : Hid (wa.heap[w.heap.size + 1]? = some (.cells #[.int .i64 0, .int .i64 0, .int .i64 0, .int .i64 0, .int .i64 0, .int .i64 0, .int .i64 0, .int .i64 0, .string ⟨#[]⟩, .slice none 0 0, .int .i64 0, .int .i64 0, .bool false] 37)) := hM
  clear hR hC hM
  go_wp2_with fail
  refine HB.mono ?_
  rintro e wf0 ⟨rfl, hR, hCx⟩
  clear HB
  have hM := hCx.block HM.out (by omega)
  have hC : Chg (fun g => g = p ∨ w.heap.size ≤ g) w wf0 := HC.out.trans (hCx.mono (fun _ _ e => .inl e))
  clear HC HM hCx
  have x0 : wf0.cell? ⟨w.heap.size + 1, 0, none⟩ = some (.int .i64 0) := by rw [Lib.cell_of_heap hM]; rfl
  have fx := Lib.frozen_of_heap hM 0
  obtain ⟨ws0, ews0⟩ : ∃ W, wf0.setCell ⟨w.heap.size + 1, 0, none⟩ (.int .i64 1) = W := ⟨_, rfl⟩
  have hM2 : ws0.heap[w.heap.size + 1]? = some (.cells #[.int .i64 1, .int .i64 0, .int .i64 0, .int .i64 0, .int .i64 0, .int .i64 0, .int .i64 0, .int .i64 0, .string ⟨#[]⟩, .slice none 0 0, .int .i64 0, .int .i64 0, .bool false] 37) := ews0 ▸ heap_setCell_cells hM 0 _
  have hS : Chg (fun g => g = w.heap.size + 1) wf0 ws0 := ews0 ▸ Chg.set (D := fun g => g = w.heap.size + 1) (q := w.heap.size + 1) 0 _ _ rfl
  have hR2 := hR.chg hS (by omega) ham
  have hC2 : Chg (fun g => g = p ∨ w.heap.size ≤ g) w ws0 := hC.trans (hS.mono (fun _ _ e => .inr (by omega)))
  clear hM hR hC hS
  have hM := hM2
  have hR := hR2
  have hC := hC2
  clear hM2 hR2 hC2
  obtain ⟨q1, hq1⟩ : ∃ q, q0 + (encP 1).length = q := ⟨_, rfl⟩
  rw [hq1] at hR
  have hA := hA.next
  rw [hq1] at hA
  have z0 : ws0.cell? ⟨w.heap.size + 1, 0, none⟩ = some (.int .i64 1) := by rw [Lib.cell_of_heap hM]; rfl
  rcases Nat.lt_or_ge n (q1 + (encP k).length) with g1 | g1
  · have HB := between_cut hR hA.fst 1 8 104 (by omega) (by omega) (by omega) g1
    clear hR
    go_wp2_with fail
    refine HB.mono ?_
    rintro e wx ⟨rfl, hCx⟩
    clear HB
    unfold thrown
    try dsimp only
    go_wp2_with fail
    exact ⟨rfl, .inl ⟨by omega, rfl⟩, chg_drop (hC.trans (hCx.mono (fun _ _ e => .inl e))) (fun _ e => e)⟩
  have HB := between_yes hR hA.fst 1 8 104 (by omega) (by omega) (by omega) g1
  have HC : Hid (Chg (fun g => g = p ∨ w.heap.size ≤ g) w ws0) := hC
  have HM : Hid (ws0.heap[w.heap.size + 1]? = some (.cells #[.int .i64 1, .int .i64 0, .int .i64 0, .int .i64 0, .int .i64 0, .int .i64 0, .int .i64 0, .int .i64 0, .string ⟨#[]⟩, .slice none 0 0, .int .i64 0, .int .i64 0, .bool false] 37)) := hM
  clear hR hC hM
  go_wp2_with fail
  refine HB.mono ?_
  rintro e wf1 ⟨rfl, hR, hCx⟩
  clear HB x0 fx z0 ews0
  have hM := hCx.block HM.out (by omega)
  have hC : Chg (fun g => g = p ∨ w.heap.size ≤ g) w wf1 := HC.out.trans (hCx.mono (fun _ _ e => .inl e))
  clear HC HM hCx
  have x0 : wf1.cell? ⟨w.heap.size + 1, 1, none⟩ = some (.int .i64 0) := by rw [Lib.cell_of_heap hM]; rfl
  have fx := Lib.frozen_of_heap hM 1
  obtain ⟨ws1, ews1⟩ : ∃ W, wf1.setCell ⟨w.heap.size + 1, 1, none⟩ (.int .i64 (k : Int)) = W := ⟨_, rfl⟩
  have hM2 : ws1.heap[w.heap.size + 1]? = some (.cells #[.int .i64 1, .int .i64 (k : Int), .int .i64 0, .int .i64 0, .int .i64 0, .int .i64 0, .int .i64 0, .int .i64 0, .string ⟨#[]⟩, .slice none 0 0, .int .i64 0, .int .i64 0, .bool false] 37) := ews1 ▸ heap_setCell_cells hM 1 _
  have hS : Chg (fun g => g = w.heap.size + 1) wf1 ws1 := ews1 ▸ Chg.set (D := fun g => g = w.heap.size + 1) (q := w.heap.size + 1) 1 _ _ rfl
  have hR2 := hR.chg hS (by omega) ham
  have hC2 : Chg (fun g => g = p ∨ w.heap.size ≤ g) w ws1 := hC.trans (hS.mono (fun _ _ e => .inr (by omega)))
  clear hM hR hC hS
  have hM := hM2
  have hR := hR2
  have hC := hC2
  clear hM2 hR2 hC2
  obtain ⟨q2, hq2⟩ : ∃ q, q1 + (encP k).length = q := ⟨_, rfl⟩
  rw [hq2] at hR
  have hA := hA.next
  rw [hq2] at hA
  have z0 : ws1.cell? ⟨w.heap.size + 1, 0, none⟩ = some (.int .i64 1) := by rw [Lib.cell_of_heap hM]; rfl
  have HD : Hid (Chg (fun g => g = p ∨ w.heap.size ≤ g) w ws1 ∧ ws1.heap[w.heap.size + 1]? = some (.cells #[.int .i64 1, .int .i64 (k : Int), .int .i64 0, .int .i64 0, .int .i64 0, .int .i64 0, .int .i64 0, .int .i64 0, .string ⟨#[]⟩, .slice none 0 0, .int .i64 0, .int .i64 0, .bool false] 37) ∧ Rdr ws1 p a n cap bs q2) := ⟨hC, hM, hR⟩
  have hml := (Array.getElem?_eq_some_iff.1 hM).1
  clear hC hM hR
  go_wp2_with fail
  refine (fieldsOf_1 _).mono ?_
  rintro e w3 ⟨gf, rfl, hg3, hF, hb3⟩
  clear x0 fx z0 ews1
  obtain ⟨hC, hM, hR⟩ := HD.out
  have hM3 := (hb3.block _ hml).trans hM
  have hR3 := hR.chg (D := fun _ => False) (Chg.of_below hb3) (fun e => e) (fun _ _ e => e)
  have hC3 : Chg (fun g => g = p ∨ w.heap.size ≤ g) w w3 := hC.trans (Chg.of_below hb3)
  have hgf : w.heap.size + 1 < gf := by omega
  clear HD hC hM hR hb3 hg3 hml
  have HS : Hid (Chg (fun g => g = p ∨ w.heap.size ≤ g) w w3 ∧ w3.heap[w.heap.size + 1]? = some (.cells #[.int .i64 1, .int .i64 (k : Int), .int .i64 0, .int .i64 0, .int .i64 0, .int .i64 0, .int .i64 0, .int .i64 0, .string ⟨#[]⟩, .slice none 0 0, .int .i64 0, .int .i64 0, .bool false] 37) ∧ Rdr w3 p a n cap bs q2 ∧ Rw fldV 2 w3 (some ⟨gf, 0, none⟩) 1 1 (fieldsP 1)) := ⟨hC3, hM3, hR3, hF⟩
  clear hC3 hM3 hR3 hF
  go_wp2_with fail
  obtain ⟨q3, hq3⟩ : ∃ q, q2 + (encP r).length = q := ⟨_, rfl⟩
  have hA1 := hA.fst
  have hA2 := hA.next
  rw [hq3] at hA2
  go_loopw [16] (fun v16 W => (v16 = .int .i64 0 ∧ W = w3) ∨ (v16 = .int .i64 1 ∧ q3 ≤ n ∧ Chg (fun g => g = p ∨ w.heap.size ≤ g) w W ∧ W.heap[w.heap.size + 1]? = some (.cells #[.int .i64 1, .int .i64 (k : Int), .int .i64 (r : Int), .int .i64 0, .int .i64 0, .int .i64 0, .int .i64 0, .int .i64 0, .string ⟨#[]⟩, .slice none 0 0, .int .i64 0, .int .i64 0, .bool false] 37) ∧ Rdr W p a n cap bs q3 ∧ Rw fldV 2 W (some ⟨gf, 0, none⟩) 1 1 (fieldsP 1))) (fun v16 _ => 1 - (RowKit.intOf v16).toNat)
  case atStart => exact .inl ⟨rfl, rfl⟩
  case round =>
    rcases hrel with ⟨rfl, rfl⟩ | ⟨rfl, hqn, hC, hM, hR, hF⟩
    · skip
      obtain ⟨hC, hM, hR, hF⟩ := HS.out
      clear HS
      obtain ⟨g', off', e', hg', hc'⟩ := hF.cells (by omega)
      cases e'
      have y0 := hc' 0 _ rfl 0 _ rfl
      have y1 := hc' 0 _ rfl 1 _ rfl
      simp only [Nat.zero_mul, Nat.zero_add, Nat.add_zero] at y0 y1
      clear hc'
      have hb1 : Below wr.heap.size wr (wr.alloc (.cells #[.func (.func 43) #[] #[], .func (.func 44) #[] #[]] 74)) := (Below.refl _ _).alloc (Nat.le_refl _) _
      have hR1 := hR.chg (D := fun _ => False) (Chg.of_below hb1) (fun e => e) (fun _ _ e => e)
      have hM1 := (hb1.block _ (Array.getElem?_eq_some_iff.1 hM).1).trans hM
      have hC1 : Chg (fun g => g = p ∨ w.heap.size ≤ g) w (wr.alloc (.cells #[.func (.func 43) #[] #[], .func (.func 44) #[] #[]] 74)) := hC.trans (Chg.of_below hb1)
      have hF1 := hF.below hb1
      clear hF hM hC hR hb1
      rcases Nat.lt_or_ge n (q2 + (encP r).length) with g2 | g2
      · have HB := readRev_cut hR1 hA1 hM1 (by omega) ham (by simp [firstRevP]; try omega) (by omega) g2
        have HC1 : Hid (Chg (fun g => g = p ∨ w.heap.size ≤ g) w (wr.alloc (.cells #[.func (.func 43) #[] #[], .func (.func 44) #[] #[]] 74))) := hC1
        clear hR1 hM1 hC1 hF1
        go_wp2_with fail
        refine HB.mono ?_
        rintro e w4 ⟨rfl, hC4⟩
        clear HB
        unfold thrown
        try dsimp only
        go_wp2_with fail
        exact ⟨rfl, .inl ⟨by omega, rfl⟩, chg_drop (HC1.out.trans (hC4.mono (fun _ _ e => by omega))) (fun _ e => e)⟩
      · have HB := readRev_yes hR1 hA1 hM1 (by omega) ham (by simp [firstRevP]; try omega) (by omega) g2
        have HC1 : Hid (Chg (fun g => g = p ∨ w.heap.size ≤ g) w (wr.alloc (.cells #[.func (.func 43) #[] #[], .func (.func 44) #[] #[]] 74)) ∧ Rw fldV 2 (wr.alloc (.cells #[.func (.func 43) #[] #[], .func (.func 44) #[] #[]] 74)) (some ⟨gf, 0, none⟩) 1 1 (fieldsP 1)) := ⟨hC1, hF1⟩
        clear hR1 hM1 hC1 hF1
        go_wp2_with fail
        refine HB.mono ?_
        rintro e w4 ⟨rfl, hR4, hM4, hC4⟩
        clear HB y0 y1
        rw [hq3] at hR4
        have HY : Hid (Chg (fun g => g = p ∨ w.heap.size ≤ g) w w4 ∧ w4.heap[w.heap.size + 1]? = some (.cells #[.int .i64 1, .int .i64 (k : Int), .int .i64 (r : Int), .int .i64 0, .int .i64 0, .int .i64 0, .int .i64 0, .int .i64 0, .string ⟨#[]⟩, .slice none 0 0, .int .i64 0, .int .i64 0, .bool false] 37) ∧ Rdr w4 p a n cap bs q3 ∧ Rw fldV 2 w4 (some ⟨gf, 0, none⟩) 1 1 (fieldsP 1)) := ⟨HC1.out.1.trans (hC4.mono (fun _ _ e => by omega)), hM4, hR4, HC1.out.2.chg hC4 (fun g e => by cases e; simp only; omega)⟩
        clear hR4 hM4 hC4 HC1
        go_wp2_with fail
        exact ⟨.inr ⟨rfl, by omega, HY.out⟩, by simp [RowKit.intOf]⟩
    · skip
      have hqQ : q3 = Q := by omega
      subst hqQ
      clear hF hM HS
      have hle := hR.le
      have HB := end_rest hR (by omega)
      clear hR
      go_wp2_with fail
      refine HB.mono ?_
      rintro e w5 ⟨rfl, hC5⟩
      clear HB
      unfold thrown
      try dsimp only
      go_wp2_with fail
      exact ⟨rfl, .inr ⟨by omega, rfl⟩, chg_drop (hC.trans (hC5.mono (fun _ _ e => e.elim))) (fun _ e => e)⟩

set_option maxHeartbeats 8000000 in
theorem message_2 {w : World} {p n cap q0 : Nat} {a : Option Addr} {bs : List Nat} (h : Rdr w p a n cap bs q0) (ha : ∀ g, a = some g → g.block < w.heap.size) {k r : Nat} {x : Cm} (hA : Agr (bs.drop q0) (encP 2 ++ (encP k ++ (encP r ++ x.enc)))) (hk : 1 ≤ k ∧ k ≤ 8) (hr : r ≤ 8192) (hx : x.Ok) (hw : Bar w) (Q : Nat) (hQ : Q = q0 + (encP 2 ++ (encP k ++ (encP r ++ x.enc))).length) (hnQ : n ≠ Q) :
    Calls Tryd.prog 19 #[.pointer (some ⟨p, 0, none⟩)] w fun e w' => Ends n Q e ∧ Chg (fun g => g = p) w w' := by
  have hpl := h.lt
  have hbp := bar_ne hw h.box
  have hbl : 0 < w.heap.size := by
    obtain ⟨t, fr, hg⟩ := hw.lies
    exact (Array.getElem?_eq_some_iff.1 hg).1
  obtain ⟨wa, ewa⟩ : ∃ W, (w.alloc (.cells #[.int .i64 0, .int .i64 0, .int .i64 0, .int .i64 0, .int .i64 0, .int .i64 0, .int .i64 0, .int .i64 0, .string ⟨#[]⟩, .slice none 0 0, .int .i64 0, .int .i64 0, .bool false] 37)).alloc (.cells #[.int .i64 0, .int .i64 0, .int .i64 0, .int .i64 0, .int .i64 0, .int .i64 0, .int .i64 0, .int .i64 0, .string ⟨#[]⟩, .slice none 0 0, .int .i64 0, .int .i64 0, .bool false] 37) = W := ⟨_, rfl⟩
  have hba : Below w.heap.size w wa := ewa ▸ ((Below.refl _ _).alloc (Nat.le_refl _) _).alloc (by simp) _
  have hM : wa.heap[w.heap.size + 1]? = some (.cells #[.int .i64 0, .int .i64 0, .int .i64 0, .int .i64 0, .int .i64 0, .int .i64 0, .int .i64 0, .int .i64 0, .string ⟨#[]⟩, .slice none 0 0, .int .i64 0, .int .i64 0, .bool false] 37) := by
    rw [← ewa]
    have := heap_alloc_new (w.alloc (.cells #[.int .i64 0, .int .i64 0, .int .i64 0, .int .i64 0, .int .i64 0, .int .i64 0, .int .i64 0, .int .i64 0, .string ⟨#[]⟩, .slice none 0 0, .int .i64 0, .int .i64 0, .bool false] 37)) (.cells #[.int .i64 0, .int .i64 0, .int .i64 0, .int .i64 0, .int .i64 0, .int .i64 0, .int .i64 0, .int .i64 0, .string ⟨#[]⟩, .slice none 0 0, .int .i64 0, .int .i64 0, .bool false] 37)
    rwa [World.size_alloc] at this
  have hR := h.chg (D := fun _ => False) (Chg.of_below hba) (fun h => h) (fun _ _ h => h)
  have hC : Chg (fun g => g = p ∨ w.heap.size ≤ g) w wa := Chg.of_below hba
  have ham : ∀ g, a = some g → ¬ g.block = w.heap.size + 1 := fun g e => by have := ha g e; omega
  simp only [List.length_append] at hQ
  clear h hba
  go_enter Tryd.func19, Tryd.ntmps19
  rcases Nat.lt_or_ge n (q0 + (encP 2).length) with g0 | g0
  · have HB := between_cut hR hA.fst 1 4 100 (by omega) (by omega) (by omega) g0
    clear hR
    go_wp2_with fail
    refine HB.mono ?_
    rintro e wx ⟨rfl, hCx⟩
    clear HB
    unfold thrown
    try dsimp only
    go_wp2_with fail
    exact ⟨rfl, .inl ⟨by omega, rfl⟩, chg_drop (hC.trans (hCx.mono (fun _ _ e => .inl e))) (fun _ e => e)⟩
  have HB := between_yes hR hA.fst 1 4 100 (by omega) (by omega) (by omega) g0
  have HC : Hid (Chg (fun g => g = p ∨ w.heap.size ≤ g) w wa) := hC
  have HM : Hid (wa.heap[w.heap.size + 1]? = some (.cells #[.int .i64 0, .int .i64 0, .int .i64 0, .int .i64 0, .int .i64 0, .int .i64 0, .int .i64 0, .int .i64 0, .string ⟨#[]⟩, .slice none 0 0, .int .i64 0, .int .i64 0, .bool false] 37)) := hM
  clear hR hC hM
  go_wp2_with fail
  refine HB.mono ?_
  rintro e wf0 ⟨rfl, hR, hCx⟩
  clear HB
  have hM := hCx.block HM.out (by omega)
  have hC : Chg (fun g => g = p ∨ w.heap.size ≤ g) w wf0 := HC.out.trans (hCx.mono (fun _ _ e => .inl e))
  clear HC HM hCx
  have x0 : wf0.cell? ⟨w.heap.size + 1, 0, none⟩ = some (.int .i64 0) := by rw [Lib.cell_of_heap hM]; rfl
  have fx := Lib.frozen_of_heap hM 0
  obtain ⟨ws0, ews0⟩ : ∃ W, wf0.setCell ⟨w.heap.size + 1, 0, none⟩ (.int .i64 2) = W := ⟨_, rfl⟩
  have hM2 : ws0.heap[w.heap.size + 1]? = some (.cells #[.int .i64 2, .int .i64 0, .int .i64 0, .int .i64 0, .int .i64 0, .int .i64 0, .int .i64 0, .int .i64 0, .string ⟨#[]⟩, .slice none 0 0, .int .i64 0, .int .i64 0, .bool false] 37) := ews0 ▸ heap_setCell_cells hM 0 _
  have hS : Chg (fun g => g = w.heap.size + 1) wf0 ws0 := ews0 ▸ Chg.set (D := fun g => g = w.heap.size + 1) (q := w.heap.size + 1) 0 _ _ rfl
  have hR2 := hR.chg hS (by omega) ham
  have hC2 : Chg (fun g => g = p ∨ w.heap.size ≤ g) w ws0 := hC.trans (hS.mono (fun _ _ e => .inr (by omega)))
  clear hM hR hC hS
  have hM := hM2
  have hR := hR2
  have hC := hC2
  clear hM2 hR2 hC2
  obtain ⟨q1, hq1⟩ : ∃ q, q0 + (encP 2).length = q := ⟨_, rfl⟩
  rw [hq1] at hR
  have hA := hA.next
  rw [hq1] at hA
  have z0 : ws0.cell? ⟨w.heap.size + 1, 0, none⟩ = some (.int .i64 2) := by rw [Lib.cell_of_heap hM]; rfl
  rcases Nat.lt_or_ge n (q1 + (encP k).length) with g1 | g1
  · have HB := between_cut hR hA.fst 1 8 104 (by omega) (by omega) (by omega) g1
    clear hR
    go_wp2_with fail
    refine HB.mono ?_
    rintro e wx ⟨rfl, hCx⟩
    clear HB
    unfold thrown
    try dsimp only
    go_wp2_with fail
    exact ⟨rfl, .inl ⟨by omega, rfl⟩, chg_drop (hC.trans (hCx.mono (fun _ _ e => .inl e))) (fun _ e => e)⟩
  have HB := between_yes hR hA.fst 1 8 104 (by omega) (by omega) (by omega) g1
  have HC : Hid (Chg (fun g => g = p ∨ w.heap.size ≤ g) w ws0) := hC
  have HM : Hid (ws0.heap[w.heap.size + 1]? = some (.cells #[.int .i64 2, .int .i64 0, .int .i64 0, .int .i64 0, .int .i64 0, .int .i64 0, .int .i64 0, .int .i64 0, .string ⟨#[]⟩, .slice none 0 0, .int .i64 0, .int .i64 0, .bool false] 37)) := hM
  clear hR hC hM
  go_wp2_with fail
  refine HB.mono ?_
  rintro e wf1 ⟨rfl, hR, hCx⟩
  clear HB x0 fx z0 ews0
  have hM := hCx.block HM.out (by omega)
  have hC : Chg (fun g => g = p ∨ w.heap.size ≤ g) w wf1 := HC.out.trans (hCx.mono (fun _ _ e => .inl e))
  clear HC HM hCx
  have x0 : wf1.cell? ⟨w.heap.size + 1, 1, none⟩ = some (.int .i64 0) := by rw [Lib.cell_of_heap hM]; rfl
  have fx := Lib.frozen_of_heap hM 1
  obtain ⟨ws1, ews1⟩ : ∃ W, wf1.setCell ⟨w.heap.size + 1, 1, none⟩ (.int .i64 (k : Int)) = W := ⟨_, rfl⟩
  have hM2 : ws1.heap[w.heap.size + 1]? = some (.cells #[.int .i64 2, .int .i64 (k : Int), .int .i64 0, .int .i64 0, .int .i64 0, .int .i64 0, .int .i64 0, .int .i64 0, .string ⟨#[]⟩, .slice none 0 0, .int .i64 0, .int .i64 0, .bool false] 37) := ews1 ▸ heap_setCell_cells hM 1 _
  have hS : Chg (fun g => g = w.heap.size + 1) wf1 ws1 := ews1 ▸ Chg.set (D := fun g => g = w.heap.size + 1) (q := w.heap.size + 1) 1 _ _ rfl
  have hR2 := hR.chg hS (by omega) ham
  have hC2 : Chg (fun g => g = p ∨ w.heap.size ≤ g) w ws1 := hC.trans (hS.mono (fun _ _ e => .inr (by omega)))
  clear hM hR hC hS
  have hM := hM2
  have hR := hR2
  have hC := hC2
  clear hM2 hR2 hC2
  obtain ⟨q2, hq2⟩ : ∃ q, q1 + (encP k).length = q := ⟨_, rfl⟩
  rw [hq2] at hR
  have hA := hA.next
  rw [hq2] at hA
  have z0 : ws1.cell? ⟨w.heap.size + 1, 0, none⟩ = some (.int .i64 2) := by rw [Lib.cell_of_heap hM]; rfl
  have HD : Hid (Chg (fun g => g = p ∨ w.heap.size ≤ g) w ws1 ∧ ws1.heap[w.heap.size + 1]? = some (.cells #[.int .i64 2, .int .i64 (k : Int), .int .i64 0, .int .i64 0, .int .i64 0, .int .i64 0, .int .i64 0, .int .i64 0, .string ⟨#[]⟩, .slice none 0 0, .int .i64 0, .int .i64 0, .bool false] 37) ∧ Rdr ws1 p a n cap bs q2) := ⟨hC, hM, hR⟩
  have hml := (Array.getElem?_eq_some_iff.1 hM).1
  clear hC hM hR
  go_wp2_with fail
  refine (fieldsOf_2 _).mono ?_
  rintro e w3 ⟨gf, rfl, hg3, hF, hb3⟩
  clear x0 fx z0 ews1
  obtain ⟨hC, hM, hR⟩ := HD.out
  have hM3 := (hb3.block _ hml).trans hM
  have hR3 := hR.chg (D := fun _ => False) (Chg.of_below hb3) (fun e => e) (fun _ _ e => e)
  have hC3 : Chg (fun g => g = p ∨ w.heap.size ≤ g) w w3 := hC.trans (Chg.of_below hb3)
  have hgf : w.heap.size + 1 < gf := by omega
  clear HD hC hM hR hb3 hg3 hml
  have HS : Hid (Chg (fun g => g = p ∨ w.heap.size ≤ g) w w3 ∧ w3.heap[w.heap.size + 1]? = some (.cells #[.int .i64 2, .int .i64 (k : Int), .int .i64 0, .int .i64 0, .int .i64 0, .int .i64 0, .int .i64 0, .int .i64 0, .string ⟨#[]⟩, .slice none 0 0, .int .i64 0, .int .i64 0, .bool false] 37) ∧ Rdr w3 p a n cap bs q2 ∧ Rw fldV 2 w3 (some ⟨gf, 0, none⟩) 2 2 (fieldsP 2)) := ⟨hC3, hM3, hR3, hF⟩
  clear hC3 hM3 hR3 hF
  go_wp2_with fail
  obtain ⟨q3, hq3⟩ : ∃ q, q2 + (encP r).length = q := ⟨_, rfl⟩
  have hA1 := hA.fst
  have hA2 := hA.next
  rw [hq3] at hA2
  go_loopw [16] (fun v16 W => (v16 = .int .i64 0 ∧ W = w3) ∨ (v16 = .int .i64 1 ∧ q3 ≤ n ∧ Chg (fun g => g = p ∨ w.heap.size ≤ g) w W ∧ W.heap[w.heap.size + 1]? = some (.cells #[.int .i64 2, .int .i64 (k : Int), .int .i64 (r : Int), .int .i64 0, .int .i64 0, .int .i64 0, .int .i64 0, .int .i64 0, .string ⟨#[]⟩, .slice none 0 0, .int .i64 0, .int .i64 0, .bool false] 37) ∧ Rdr W p a n cap bs q3 ∧ Rw fldV 2 W (some ⟨gf, 0, none⟩) 2 2 (fieldsP 2))) (fun v16 _ => 2 - (RowKit.intOf v16).toNat)
  case atStart => exact .inl ⟨rfl, rfl⟩
  case round =>
    rcases hrel with ⟨rfl, rfl⟩ | ⟨rfl, hqn, hC, hM, hR, hF⟩
    · skip
      obtain ⟨hC, hM, hR, hF⟩ := HS.out
      clear HS
      obtain ⟨g', off', e', hg', hc'⟩ := hF.cells (by omega)
      cases e'
      have y0 := hc' 0 _ rfl 0 _ rfl
      have y1 := hc' 0 _ rfl 1 _ rfl
      simp only [Nat.zero_mul, Nat.zero_add, Nat.add_zero] at y0 y1
      clear hc'
      have hb1 : Below wr.heap.size wr (wr.alloc (.cells #[.func (.func 43) #[] #[], .func (.func 44) #[] #[]] 74)) := (Below.refl _ _).alloc (Nat.le_refl _) _
      have hR1 := hR.chg (D := fun _ => False) (Chg.of_below hb1) (fun e => e) (fun _ _ e => e)
      have hM1 := (hb1.block _ (Array.getElem?_eq_some_iff.1 hM).1).trans hM
      have hC1 : Chg (fun g => g = p ∨ w.heap.size ≤ g) w (wr.alloc (.cells #[.func (.func 43) #[] #[], .func (.func 44) #[] #[]] 74)) := hC.trans (Chg.of_below hb1)
      have hF1 := hF.below hb1
      clear hF hM hC hR hb1
      rcases Nat.lt_or_ge n (q2 + (encP r).length) with g2 | g2
      · have HB := readRev_cut hR1 hA1 hM1 (by omega) ham (by simp [firstRevP]; try omega) (by omega) g2
        have HC1 : Hid (Chg (fun g => g = p ∨ w.heap.size ≤ g) w (wr.alloc (.cells #[.func (.func 43) #[] #[], .func (.func 44) #[] #[]] 74))) := hC1
        clear hR1 hM1 hC1 hF1
        go_wp2_with fail
        refine HB.mono ?_
        rintro e w4 ⟨rfl, hC4⟩
        clear HB
        unfold thrown
        try dsimp only
        go_wp2_with fail
        exact ⟨rfl, .inl ⟨by omega, rfl⟩, chg_drop (HC1.out.trans (hC4.mono (fun _ _ e => by omega))) (fun _ e => e)⟩
      · have HB := readRev_yes hR1 hA1 hM1 (by omega) ham (by simp [firstRevP]; try omega) (by omega) g2
        have HC1 : Hid (Chg (fun g => g = p ∨ w.heap.size ≤ g) w (wr.alloc (.cells #[.func (.func 43) #[] #[], .func (.func 44) #[] #[]] 74)) ∧ Rw fldV 2 (wr.alloc (.cells #[.func (.func 43) #[] #[], .func (.func 44) #[] #[]] 74)) (some ⟨gf, 0, none⟩) 2 2 (fieldsP 2)) := ⟨hC1, hF1⟩
        clear hR1 hM1 hC1 hF1
        go_wp2_with fail
        refine HB.mono ?_
        rintro e w4 ⟨rfl, hR4, hM4, hC4⟩
        clear HB y0 y1
        rw [hq3] at hR4
        have HY : Hid (Chg (fun g => g = p ∨ w.heap.size ≤ g) w w4 ∧ w4.heap[w.heap.size + 1]? = some (.cells #[.int .i64 2, .int .i64 (k : Int), .int .i64 (r : Int), .int .i64 0, .int .i64 0, .int .i64 0, .int .i64 0, .int .i64 0, .string ⟨#[]⟩, .slice none 0 0, .int .i64 0, .int .i64 0, .bool false] 37) ∧ Rdr w4 p a n cap bs q3 ∧ Rw fldV 2 w4 (some ⟨gf, 0, none⟩) 2 2 (fieldsP 2)) := ⟨HC1.out.1.trans (hC4.mono (fun _ _ e => by omega)), hM4, hR4, HC1.out.2.chg hC4 (fun g e => by cases e; simp only; omega)⟩
        clear hR4 hM4 hC4 HC1
        go_wp2_with fail
        exact ⟨.inr ⟨rfl, by omega, HY.out⟩, by simp [RowKit.intOf]⟩
    · skip
      clear HS
      have hbw := hw.chg hC (by omega)
      obtain ⟨g', off', e', hg', hc'⟩ := hF.cells (by omega)
      cases e'
      have y0 := hc' 1 _ rfl 0 _ rfl
      have y1 := hc' 1 _ rfl 1 _ rfl
      simp only [Nat.one_mul, Nat.zero_add, Nat.add_zero, Nat.reduceAdd] at y0 y1
      clear hc'
      have hb1 : Below wr.heap.size wr (wr.alloc (.cells #[.func (.func 47) #[] #[], .func (.func 48) #[] #[]] 74)) := (Below.refl _ _).alloc (Nat.le_refl _) _
      have hR1 := hR.chg (D := fun _ => False) (Chg.of_below hb1) (fun e => e) (fun _ _ e => e)
      have hM1 := (hb1.block _ (Array.getElem?_eq_some_iff.1 hM).1).trans hM
      have hC1 : Chg (fun g => g = p ∨ w.heap.size ≤ g) w (wr.alloc (.cells #[.func (.func 47) #[] #[], .func (.func 48) #[] #[]] 74)) := hC.trans (Chg.of_below hb1)
      have hF1 := hF.below hb1
      clear hF hM hC hR hb1
      have hbw1 : Bar (wr.alloc (.cells #[.func (.func 47) #[] #[], .func (.func 48) #[] #[]] 74)) := hbw.alloc _
      have HB := readCommand_cut (mb := w.heap.size + 1) hR1 (fun g e => by have := ha g e; have := hC1.size; omega) hA2 hx hbw1 Q (by omega) hnQ
      have HC1 : Hid (Chg (fun g => g = p ∨ w.heap.size ≤ g) w (wr.alloc (.cells #[.func (.func 47) #[] #[], .func (.func 48) #[] #[]] 74))) := hC1
      clear hR1 hM1 hC1 hF1 hbw hbw1
      go_wp2_with fail
      refine HB.mono ?_
      rintro e w4 ⟨⟨h1, rfl⟩ | ⟨h1, rfl⟩, hC4⟩
      · clear HB
        unfold thrown
        try dsimp only
        go_wp2_with fail
        exact ⟨rfl, .inl ⟨h1, rfl⟩, chg_drop (HC1.out.trans (hC4.mono (fun _ _ e => by omega))) (fun _ e => e)⟩
      · clear HB
        unfold thrown
        try dsimp only
        go_wp2_with fail
        exact ⟨rfl, .inr ⟨h1, rfl⟩, chg_drop (HC1.out.trans (hC4.mono (fun _ _ e => by omega))) (fun _ e => e)⟩

set_option maxHeartbeats 8000000 in
theorem message_3 {w : World} {p n cap q0 : Nat} {a : Option Addr} {bs : List Nat} (h : Rdr w p a n cap bs q0) (ha : ∀ g, a = some g → g.block < w.heap.size) {k r s : Nat} (hA : Agr (bs.drop q0) (encP 3 ++ (encP k ++ (encP r ++ encP s)))) (hk : 1 ≤ k ∧ k ≤ 8) (hr : 1 ≤ r ∧ r ≤ 8192) (hs : 1 ≤ s ∧ s ≤ 1024) (Q : Nat) (hQ : Q = q0 + (encP 3 ++ (encP k ++ (encP r ++ encP s))).length) (hnQ : n ≠ Q) :
    Calls Tryd.prog 19 #[.pointer (some ⟨p, 0, none⟩)] w fun e w' => Ends n Q e ∧ Chg (fun g => g = p) w w' := by
  have hpl := h.lt
  obtain ⟨wa, ewa⟩ : ∃ W, (w.alloc (.cells #[.int .i64 0, .int .i64 0, .int .i64 0, .int .i64 0, .int .i64 0, .int .i64 0, .int .i64 0, .int .i64 0, .string ⟨#[]⟩, .slice none 0 0, .int .i64 0, .int .i64 0, .bool false] 37)).alloc (.cells #[.int .i64 0, .int .i64 0, .int .i64 0, .int .i64 0, .int .i64 0, .int .i64 0, .int .i64 0, .int .i64 0, .string ⟨#[]⟩, .slice none 0 0, .int .i64 0, .int .i64 0, .bool false] 37) = W := ⟨_, rfl⟩
  have hba : Below w.heap.size w wa := ewa ▸ ((Below.refl _ _).alloc (Nat.le_refl _) _).alloc (by simp) _
  have hM : wa.heap[w.heap.size + 1]? = some (.cells #[.int .i64 0, .int .i64 0, .int .i64 0, .int .i64 0, .int .i64 0, .int .i64 0, .int .i64 0, .int .i64 0, .string ⟨#[]⟩, .slice none 0 0, .int .i64 0, .int .i64 0, .bool false] 37) := by
    rw [← ewa]
    have := heap_alloc_new (w.alloc (.cells #[.int .i64 0, .int .i64 0, .int .i64 0, .int .i64 0, .int .i64 0, .int .i64 0, .int .i64 0, .int .i64 0, .string ⟨#[]⟩, .slice none 0 0, .int .i64 0, .int .i64 0, .bool false] 37)) (.cells #[.int .i64 0, .int .i64 0, .int .i64 0, .int .i64 0, .int .i64 0, .int .i64 0, .int .i64 0, .int .i64 0, .string ⟨#[]⟩, .slice none 0 0, .int .i64 0, .int .i64 0, .bool false] 37)
    rwa [World.size_alloc] at this
  have hR := h.chg (D := fun _ => False) (Chg.of_below hba) (fun h => h) (fun _ _ h => h)
  have hC : Chg (fun g => g = p ∨ w.heap.size ≤ g) w wa := Chg.of_below hba
  have ham : ∀ g, a = some g → ¬ g.block = w.heap.size + 1 := fun g e => by have := ha g e; omega
  simp only [List.length_append] at hQ
  clear h hba
  go_enter Tryd.func19, Tryd.ntmps19
  rcases Nat.lt_or_ge n (q0 + (encP 3).length) with g0 | g0
  · have HB := between_cut hR hA.fst 1 4 100 (by omega) (by omega) (by omega) g0
    clear hR
    go_wp2_with fail
    refine HB.mono ?_
    rintro e wx ⟨rfl, hCx⟩
    clear HB
    unfold thrown
    try dsimp only
    go_wp2_with fail
    exact ⟨rfl, .inl ⟨by omega, rfl⟩, chg_drop (hC.trans (hCx.mono (fun _ _ e => .inl e))) (fun _ e => e)⟩
  have HB := between_yes hR hA.fst 1 4 100 (by omega) (by omega) (by omega) g0
  have HC : Hid (Chg (fun g => g = p ∨ w.heap.size ≤ g) w wa) := hC
  have HM : Hid (wa.heap[w.heap.size + 1]? = some (.cells #[.int .i64 0, .int .i64 0, .int .i64 0, .int .i64 0, .int .i64 0, .int .i64 0, .int .i64 0, .int .i64 0, .string ⟨#[]⟩, .slice none 0 0, .int .i64 0, .int .i64 0, .bool false] 37)) := hM
  clear hR hC hM
  go_wp2_with fail
  refine HB.mono ?_
  rintro e wf0 ⟨rfl, hR, hCx⟩
  clear HB
  have hM := hCx.block HM.out (by omega)
  have hC : Chg (fun g => g = p ∨ w.heap.size ≤ g) w wf0 := HC.out.trans (hCx.mono (fun _ _ e => .inl e))
  clear HC HM hCx
  have x0 : wf0.cell? ⟨w.heap.size + 1, 0, none⟩ = some (.int .i64 0) := by rw [Lib.cell_of_heap hM]; rfl
  have fx := Lib.frozen_of_heap hM 0
  obtain ⟨ws0, ews0⟩ : ∃ W, wf0.setCell ⟨w.heap.size + 1, 0, none⟩ (.int .i64 3) = W := ⟨_, rfl⟩
  have hM2 : ws0.heap[w.heap.size + 1]? = some (.cells #[.int .i64 3, .int .i64 0, .int .i64 0, .int .i64 0, .int .i64 0, .int .i64 0, .int .i64 0, .int .i64 0, .string ⟨#[]⟩, .slice none 0 0, .int .i64 0, .int .i64 0, .bool false] 37) := ews0 ▸ heap_setCell_cells hM 0 _
  have hS : Chg (fun g => g = w.heap.size + 1) wf0 ws0 := ews0 ▸ Chg.set (D := fun g => g = w.heap.size + 1) (q := w.heap.size + 1) 0 _ _ rfl
  have hR2 := hR.chg hS (by omega) ham
  have hC2 : Chg (fun g => g = p ∨ w.heap.size ≤ g) w ws0 := hC.trans (hS.mono (fun _ _ e => .inr (by omega)))
  clear hM hR hC hS
  have hM := hM2
  have hR := hR2
  have hC := hC2
  clear hM2 hR2 hC2
  obtain ⟨q1, hq1⟩ : ∃ q, q0 + (encP 3).length = q := ⟨_, rfl⟩
  rw [hq1] at hR
  have hA := hA.next
  rw [hq1] at hA
  have z0 : ws0.cell? ⟨w.heap.size + 1, 0, none⟩ = some (.int .i64 3) := by rw [Lib.cell_of_heap hM]; rfl
  rcases Nat.lt_or_ge n (q1 + (encP k).length) with g1 | g1
  · have HB := between_cut hR hA.fst 1 8 104 (by omega) (by omega) (by omega) g1
    clear hR
    go_wp2_with fail
    refine HB.mono ?_
    rintro e wx ⟨rfl, hCx⟩
    clear HB
    unfold thrown
    try dsimp only
    go_wp2_with fail
    exact ⟨rfl, .inl ⟨by omega, rfl⟩, chg_drop (hC.trans (hCx.mono (fun _ _ e => .inl e))) (fun _ e => e)⟩
  have HB := between_yes hR hA.fst 1 8 104 (by omega) (by omega) (by omega) g1
  have HC : Hid (Chg (fun g => g = p ∨ w.heap.size ≤ g) w ws0) := hC
  have HM : Hid (ws0.heap[w.heap.size + 1]? = some (.cells #[.int .i64 3, .int .i64 0, .int .i64 0, .int .i64 0, .int .i64 0, .int .i64 0, .int .i64 0, .int .i64 0, .string ⟨#[]⟩, .slice none 0 0, .int .i64 0, .int .i64 0, .bool false] 37)) := hM
  clear hR hC hM
  go_wp2_with fail
  refine HB.mono ?_
  rintro e wf1 ⟨rfl, hR, hCx⟩
  clear HB x0 fx z0 ews0
  have hM := hCx.block HM.out (by omega)
  have hC : Chg (fun g => g = p ∨ w.heap.size ≤ g) w wf1 := HC.out.trans (hCx.mono (fun _ _ e => .inl e))
  clear HC HM hCx
  have x0 : wf1.cell? ⟨w.heap.size + 1, 1, none⟩ = some (.int .i64 0) := by rw [Lib.cell_of_heap hM]; rfl
  have fx := Lib.frozen_of_heap hM 1
  obtain ⟨ws1, ews1⟩ : ∃ W, wf1.setCell ⟨w.heap.size + 1, 1, none⟩ (.int .i64 (k : Int)) = W := ⟨_, rfl⟩
  have hM2 : ws1.heap[w.heap.size + 1]? = some (.cells #[.int .i64 3, .int .i64 (k : Int), .int .i64 0, .int .i64 0, .int .i64 0, .int .i64 0, .int .i64 0, .int .i64 0, .string ⟨#[]⟩, .slice none 0 0, .int .i64 0, .int .i64 0, .bool false] 37) := ews1 ▸ heap_setCell_cells hM 1 _
  have hS : Chg (fun g => g = w.heap.size + 1) wf1 ws1 := ews1 ▸ Chg.set (D := fun g => g = w.heap.size + 1) (q := w.heap.size + 1) 1 _ _ rfl
  have hR2 := hR.chg hS (by omega) ham
  have hC2 : Chg (fun g => g = p ∨ w.heap.size ≤ g) w ws1 := hC.trans (hS.mono (fun _ _ e => .inr (by omega)))
  clear hM hR hC hS
  have hM := hM2
  have hR := hR2
  have hC := hC2
  clear hM2 hR2 hC2
  obtain ⟨q2, hq2⟩ : ∃ q, q1 + (encP k).length = q := ⟨_, rfl⟩
  rw [hq2] at hR
  have hA := hA.next
  rw [hq2] at hA
  have z0 : ws1.cell? ⟨w.heap.size + 1, 0, none⟩ = some (.int .i64 3) := by rw [Lib.cell_of_heap hM]; rfl
  have HD : Hid (Chg (fun g => g = p ∨ w.heap.size ≤ g) w ws1 ∧ ws1.heap[w.heap.size + 1]? = some (.cells #[.int .i64 3, .int .i64 (k : Int), .int .i64 0, .int .i64 0, .int .i64 0, .int .i64 0, .int .i64 0, .int .i64 0, .string ⟨#[]⟩, .slice none 0 0, .int .i64 0, .int .i64 0, .bool false] 37) ∧ Rdr ws1 p a n cap bs q2) := ⟨hC, hM, hR⟩
  have hml := (Array.getElem?_eq_some_iff.1 hM).1
  clear hC hM hR
  go_wp2_with fail
  refine (fieldsOf_3 _).mono ?_
  rintro e w3 ⟨gf, rfl, hg3, hF, hb3⟩
  clear x0 fx z0 ews1
  obtain ⟨hC, hM, hR⟩ := HD.out
  have hM3 := (hb3.block _ hml).trans hM
  have hR3 := hR.chg (D := fun _ => False) (Chg.of_below hb3) (fun e => e) (fun _ _ e => e)
  have hC3 : Chg (fun g => g = p ∨ w.heap.size ≤ g) w w3 := hC.trans (Chg.of_below hb3)
  have hgf : w.heap.size + 1 < gf := by omega
  clear HD hC hM hR hb3 hg3 hml
  have HS : Hid (Chg (fun g => g = p ∨ w.heap.size ≤ g) w w3 ∧ w3.heap[w.heap.size + 1]? = some (.cells #[.int .i64 3, .int .i64 (k : Int), .int .i64 0, .int .i64 0, .int .i64 0, .int .i64 0, .int .i64 0, .int .i64 0, .string ⟨#[]⟩, .slice none 0 0, .int .i64 0, .int .i64 0, .bool false] 37) ∧ Rdr w3 p a n cap bs q2 ∧ Rw fldV 2 w3 (some ⟨gf, 0, none⟩) 2 2 (fieldsP 3)) := ⟨hC3, hM3, hR3, hF⟩
  clear hC3 hM3 hR3 hF
  go_wp2_with fail
  obtain ⟨q3, hq3⟩ : ∃ q, q2 + (encP r).length = q := ⟨_, rfl⟩
  have hA1 := hA.fst
  have hA2 := hA.next
  rw [hq3] at hA2
  go_loopw [16] (fun v16 W => (v16 = .int .i64 0 ∧ W = w3) ∨ (v16 = .int .i64 1 ∧ q3 ≤ n ∧ Chg (fun g => g = p ∨ w.heap.size ≤ g) w W ∧ W.heap[w.heap.size + 1]? = some (.cells #[.int .i64 3, .int .i64 (k : Int), .int .i64 (r : Int), .int .i64 0, .int .i64 0, .int .i64 0, .int .i64 0, .int .i64 0, .string ⟨#[]⟩, .slice none 0 0, .int .i64 0, .int .i64 0, .bool false] 37) ∧ Rdr W p a n cap bs q3 ∧ Rw fldV 2 W (some ⟨gf, 0, none⟩) 2 2 (fieldsP 3)) ∨ (v16 = .int .i64 2 ∧ Chg (fun g => g = p ∨ w.heap.size ≤ g) w W ∧ Rdr W p a n cap bs Q)) (fun v16 _ => 2 - (RowKit.intOf v16).toNat)
  case atStart => exact .inl ⟨rfl, rfl⟩
  case round =>
    rcases hrel with ⟨rfl, rfl⟩ | ⟨rfl, hqn, hC, hM, hR, hF⟩ | ⟨rfl, hC, hR⟩
    · skip
      obtain ⟨hC, hM, hR, hF⟩ := HS.out
      clear HS
      obtain ⟨g', off', e', hg', hc'⟩ := hF.cells (by omega)
      cases e'
      have y0 := hc' 0 _ rfl 0 _ rfl
      have y1 := hc' 0 _ rfl 1 _ rfl
      simp only [Nat.zero_mul, Nat.zero_add, Nat.add_zero] at y0 y1
      clear hc'
      have hb1 : Below wr.heap.size wr (wr.alloc (.cells #[.func (.func 43) #[] #[], .func (.func 44) #[] #[]] 74)) := (Below.refl _ _).alloc (Nat.le_refl _) _
      have hR1 := hR.chg (D := fun _ => False) (Chg.of_below hb1) (fun e => e) (fun _ _ e => e)
      have hM1 := (hb1.block _ (Array.getElem?_eq_some_iff.1 hM).1).trans hM
      have hC1 : Chg (fun g => g = p ∨ w.heap.size ≤ g) w (wr.alloc (.cells #[.func (.func 43) #[] #[], .func (.func 44) #[] #[]] 74)) := hC.trans (Chg.of_below hb1)
      have hF1 := hF.below hb1
      clear hF hM hC hR hb1
      rcases Nat.lt_or_ge n (q2 + (encP r).length) with g2 | g2
      · have HB := readRev_cut hR1 hA1 hM1 (by omega) ham (by simp [firstRevP]; try omega) (by omega) g2
        have HC1 : Hid (Chg (fun g => g = p ∨ w.heap.size ≤ g) w (wr.alloc (.cells #[.func (.func 43) #[] #[], .func (.func 44) #[] #[]] 74))) := hC1
        clear hR1 hM1 hC1 hF1
        go_wp2_with fail
        refine HB.mono ?_
        rintro e w4 ⟨rfl, hC4⟩
        clear HB
        unfold thrown
        try dsimp only
        go_wp2_with fail
        exact ⟨rfl, .inl ⟨by omega, rfl⟩, chg_drop (HC1.out.trans (hC4.mono (fun _ _ e => by omega))) (fun _ e => e)⟩
      · have HB := readRev_yes hR1 hA1 hM1 (by omega) ham (by simp [firstRevP]; try omega) (by omega) g2
        have HC1 : Hid (Chg (fun g => g = p ∨ w.heap.size ≤ g) w (wr.alloc (.cells #[.func (.func 43) #[] #[], .func (.func 44) #[] #[]] 74)) ∧ Rw fldV 2 (wr.alloc (.cells #[.func (.func 43) #[] #[], .func (.func 44) #[] #[]] 74)) (some ⟨gf, 0, none⟩) 2 2 (fieldsP 3)) := ⟨hC1, hF1⟩
        clear hR1 hM1 hC1 hF1
        go_wp2_with fail
        refine HB.mono ?_
        rintro e w4 ⟨rfl, hR4, hM4, hC4⟩
        clear HB y0 y1
        rw [hq3] at hR4
        have HY : Hid (Chg (fun g => g = p ∨ w.heap.size ≤ g) w w4 ∧ w4.heap[w.heap.size + 1]? = some (.cells #[.int .i64 3, .int .i64 (k : Int), .int .i64 (r : Int), .int .i64 0, .int .i64 0, .int .i64 0, .int .i64 0, .int .i64 0, .string ⟨#[]⟩, .slice none 0 0, .int .i64 0, .int .i64 0, .bool false] 37) ∧ Rdr w4 p a n cap bs q3 ∧ Rw fldV 2 w4 (some ⟨gf, 0, none⟩) 2 2 (fieldsP 3)) := ⟨HC1.out.1.trans (hC4.mono (fun _ _ e => by omega)), hM4, hR4, HC1.out.2.chg hC4 (fun g e => by cases e; simp only; omega)⟩
        clear hR4 hM4 hC4 HC1
        go_wp2_with fail
        exact ⟨.inr (.inl ⟨rfl, by omega, HY.out⟩), by simp [RowKit.intOf]⟩
    · skip
      clear HS
      obtain ⟨g', off', e', hg', hc'⟩ := hF.cells (by omega)
      cases e'
      have y0 := hc' 1 _ rfl 0 _ rfl
      have y1 := hc' 1 _ rfl 1 _ rfl
      simp only [Nat.one_mul, Nat.zero_add, Nat.add_zero, Nat.reduceAdd] at y0 y1
      clear hc'
      have hb1 : Below wr.heap.size wr (wr.alloc (.cells #[.func (.func 45) #[] #[], .func (.func 46) #[] #[]] 74)) := (Below.refl _ _).alloc (Nat.le_refl _) _
      have hR1 := hR.chg (D := fun _ => False) (Chg.of_below hb1) (fun e => e) (fun _ _ e => e)
      have hM1 := (hb1.block _ (Array.getElem?_eq_some_iff.1 hM).1).trans hM
      have hC1 : Chg (fun g => g = p ∨ w.heap.size ≤ g) w (wr.alloc (.cells #[.func (.func 45) #[] #[], .func (.func 46) #[] #[]] 74)) := hC.trans (Chg.of_below hb1)
      have hF1 := hF.below hb1
      clear hF hM hC hR hb1
      rcases Nat.lt_or_ge n (q3 + (encP s).length) with g2 | g2
      · have HB := readSeq_cut (mb := w.heap.size + 1) hR1 hA2 (by omega) (by omega) g2
        have HC1 : Hid (Chg (fun g => g = p ∨ w.heap.size ≤ g) w (wr.alloc (.cells #[.func (.func 45) #[] #[], .func (.func 46) #[] #[]] 74))) := hC1
        clear hR1 hM1 hC1 hF1
        go_wp2_with fail
        refine HB.mono ?_
        rintro e w4 ⟨rfl, hC4⟩
        clear HB
        unfold thrown
        try dsimp only
        go_wp2_with fail
        exact ⟨rfl, .inl ⟨by omega, rfl⟩, chg_drop (HC1.out.trans (hC4.mono (fun _ _ e => by omega))) (fun _ e => e)⟩
      · have HB := readSeq_yes hR1 hA2 hM1 (by omega) ham (by omega) (by omega) g2
        have HC1 : Hid (Chg (fun g => g = p ∨ w.heap.size ≤ g) w (wr.alloc (.cells #[.func (.func 45) #[] #[], .func (.func 46) #[] #[]] 74))) := hC1
        clear hR1 hM1 hC1 hF1
        go_wp2_with fail
        refine HB.mono ?_
        rintro e w4 ⟨rfl, hR4, hM4, hC4⟩
        clear HB y0 y1
        have hqQ : q3 + (encP s).length = Q := by omega
        rw [hqQ] at hR4
        have HY : Hid (Chg (fun g => g = p ∨ w.heap.size ≤ g) w w4 ∧ Rdr w4 p a n cap bs Q) := ⟨HC1.out.trans (hC4.mono (fun _ _ e => by omega)), hR4⟩
        clear hR4 hM4 hC4 HC1
        go_wp2_with fail
        exact ⟨.inr (.inr ⟨rfl, HY.out⟩), by simp [RowKit.intOf]⟩
    · skip
      clear HS
      have hle := hR.le
      have HB := end_rest hR (by omega)
      clear hR
      go_wp2_with fail
      refine HB.mono ?_
      rintro e w5 ⟨rfl, hC5⟩
      clear HB
      unfold thrown
      try dsimp only
      go_wp2_with fail
      exact ⟨rfl, .inr ⟨by omega, rfl⟩, chg_drop (hC.trans (hC5.mono (fun _ _ e => e.elim))) (fun _ e => e)⟩

set_option maxHeartbeats 8000000 in
theorem message_4 {w : World} {p n cap q0 : Nat} {a : Option Addr} {bs : List Nat} (h : Rdr w p a n cap bs q0) (ha : ∀ g, a = some g → g.block < w.heap.size) {k r : Nat} {x : Cm} (hA : Agr (bs.drop q0) (encP 4 ++ (encP k ++ (encP r ++ x.enc)))) (hk : 1 ≤ k ∧ k ≤ 8) (hr : 1 ≤ r ∧ r ≤ 8192) (hx : x.Ok) (hw : Bar w) (Q : Nat) (hQ : Q = q0 + (encP 4 ++ (encP k ++ (encP r ++ x.enc))).length) (hnQ : n ≠ Q) :
    Calls Tryd.prog 19 #[.pointer (some ⟨p, 0, none⟩)] w fun e w' => Ends n Q e ∧ Chg (fun g => g = p) w w' := by
  have hpl := h.lt
  have hbp := bar_ne hw h.box
  have hbl : 0 < w.heap.size := by
    obtain ⟨t, fr, hg⟩ := hw.lies
    exact (Array.getElem?_eq_some_iff.1 hg).1
  obtain ⟨wa, ewa⟩ : ∃ W, (w.alloc (.cells #[.int .i64 0, .int .i64 0, .int .i64 0, .int .i64 0, .int .i64 0, .int .i64 0, .int .i64 0, .int .i64 0, .string ⟨#[]⟩, .slice none 0 0, .int .i64 0, .int .i64 0, .bool false] 37)).alloc (.cells #[.int .i64 0, .int .i64 0, .int .i64 0, .int .i64 0, .int .i64 0, .int .i64 0, .int .i64 0, .int .i64 0, .string ⟨#[]⟩, .slice none 0 0, .int .i64 0, .int .i64 0, .bool false] 37) = W := ⟨_, rfl⟩
  have hba : Below w.heap.size w wa := ewa ▸ ((Below.refl _ _).alloc (Nat.le_refl _) _).alloc (by simp) _
  have hM : wa.heap[w.heap.size + 1]? = some (.cells #[.int .i64 0, .int .i64 0, .int .i64 0, .int .i64 0, .int .i64 0, .int .i64 0, .int .i64 0, .int .i64 0, .string ⟨#[]⟩, .slice none 0 0, .int .i64 0, .int .i64 0, .bool false] 37) := by
    rw [← ewa]
    have := heap_alloc_new (w.alloc (.cells #[.int .i64 0, .int .i64 0, .int .i64 0, .int .i64 0, .int .i64 0, .int .i64 0, .int .i64 0, .int .i64 0, .string ⟨#[]⟩, .slice none 0 0, .int .i64 0, .int .i64 0, .bool false] 37)) (.cells #[.int .i64 0, .int .i64 0, .int .i64 0, .int .i64 0, .int .i64 0, .int .i64 0, .int .i64 0, .int .i64 0, .string ⟨#[]⟩, .slice none 0 0, .int .i64 0, .int .i64 0, .bool false] 37)
    rwa [World.size_alloc] at this
  have hR := h.chg (D := fun _ => False) (Chg.of_below hba) (fun h => h) (fun _ _ h => h)
  have hC : Chg (fun g => g = p ∨ w.heap.size ≤ g) w wa := Chg.of_below hba
  have ham : ∀ g, a = some g → ¬ g.block = w.heap.size + 1 := fun g e => by have := ha g e; omega
  simp only [List.length_append] at hQ
  clear h hba
  go_enter Tryd.func19, Tryd.ntmps19
  rcases Nat.lt_or_ge n (q0 + (encP 4).length) with g0 | g0
  · have HB := between_cut hR hA.fst 1 4 100 (by omega) (by omega) (by omega) g0
    clear hR
    go_wp2_with fail
    refine HB.mono ?_
    rintro e wx ⟨rfl, hCx⟩
    clear HB
    unfold thrown
    try dsimp only
    go_wp2_with fail
    exact ⟨rfl, .inl ⟨by omega, rfl⟩, chg_drop (hC.trans (hCx.mono (fun _ _ e => .inl e))) (fun _ e => e)⟩
  have HB := between_yes hR hA.fst 1 4 100 (by omega) (by omega) (by omega) g0
  have HC : Hid (Chg (fun g => g = p ∨ w.heap.size ≤ g) w wa) := hC
  have HM : Hid (wa.heap[w.heap.size + 1]? = some (.cells #[.int .i64 0, .int .i64 0, .int .i64 0, .int .i64 0, .int .i64 0, .int .i64 0, .int .i64 0, .int .i64 0, .string ⟨#[]⟩, .slice none 0 0, .int .i64 0, .int .i64 0, .bool false] 37)) := hM
  clear hR hC hM
  go_wp2_with fail
  refine HB.mono ?_
  rintro e wf0 ⟨rfl, hR, hCx⟩
  clear HB
  have hM := hCx.block HM.out (by omega)
  have hC : Chg (fun g => g = p ∨ w.heap.size ≤ g) w wf0 := HC.out.trans (hCx.mono (fun _ _ e => .inl e))
  clear HC HM hCx
  have x0 : wf0.cell? ⟨w.heap.size + 1, 0, none⟩ = some (.int .i64 0) := by rw [Lib.cell_of_heap hM]; rfl
  have fx := Lib.frozen_of_heap hM 0
  obtain ⟨ws0, ews0⟩ : ∃ W, wf0.setCell ⟨w.heap.size + 1, 0, none⟩ (.int .i64 4) = W := ⟨_, rfl⟩
  have hM2 : ws0.heap[w.heap.size + 1]? = some (.cells #[.int .i64 4, .int .i64 0, .int .i64 0, .int .i64 0, .int .i64 0, .int .i64 0, .int .i64 0, .int .i64 0, .string ⟨#[]⟩, .slice none 0 0, .int .i64 0, .int .i64 0, .bool false] 37) := ews0 ▸ heap_setCell_cells hM 0 _
  have hS : Chg (fun g => g = w.heap.size + 1) wf0 ws0 := ews0 ▸ Chg.set (D := fun g => g = w.heap.size + 1) (q := w.heap.size + 1) 0 _ _ rfl
  have hR2 := hR.chg hS (by omega) ham
  have hC2 : Chg (fun g => g = p ∨ w.heap.size ≤ g) w ws0 := hC.trans (hS.mono (fun _ _ e => .inr (by omega)))
  clear hM hR hC hS
  have hM := hM2
  have hR := hR2
  have hC := hC2
  clear hM2 hR2 hC2
  obtain ⟨q1, hq1⟩ : ∃ q, q0 + (encP 4).length = q := ⟨_, rfl⟩
  rw [hq1] at hR
  have hA := hA.next
  rw [hq1] at hA
  have z0 : ws0.cell? ⟨w.heap.size + 1, 0, none⟩ = some (.int .i64 4) := by rw [Lib.cell_of_heap hM]; rfl
  rcases Nat.lt_or_ge n (q1 + (encP k).length) with g1 | g1
  · have HB := between_cut hR hA.fst 1 8 104 (by omega) (by omega) (by omega) g1
    clear hR
    go_wp2_with fail
    refine HB.mono ?_
    rintro e wx ⟨rfl, hCx⟩
    clear HB
    unfold thrown
    try dsimp only
    go_wp2_with fail
    exact ⟨rfl, .inl ⟨by omega, rfl⟩, chg_drop (hC.trans (hCx.mono (fun _ _ e => .inl e))) (fun _ e => e)⟩
  have HB := between_yes hR hA.fst 1 8 104 (by omega) (by omega) (by omega) g1
  have HC : Hid (Chg (fun g => g = p ∨ w.heap.size ≤ g) w ws0) := hC
  have HM : Hid (ws0.heap[w.heap.size + 1]? = some (.cells #[.int .i64 4, .int .i64 0, .int .i64 0, .int .i64 0, .int .i64 0, .int .i64 0, .int .i64 0, .int .i64 0, .string ⟨#[]⟩, .slice none 0 0, .int .i64 0, .int .i64 0, .bool false] 37)) := hM
  clear hR hC hM
  go_wp2_with fail
  refine HB.mono ?_
  rintro e wf1 ⟨rfl, hR, hCx⟩
  clear HB x0 fx z0 ews0
  have hM := hCx.block HM.out (by omega)
  have hC : Chg (fun g => g = p ∨ w.heap.size ≤ g) w wf1 := HC.out.trans (hCx.mono (fun _ _ e => .inl e))
  clear HC HM hCx
  have x0 : wf1.cell? ⟨w.heap.size + 1, 1, none⟩ = some (.int .i64 0) := by rw [Lib.cell_of_heap hM]; rfl
  have fx := Lib.frozen_of_heap hM 1
  obtain ⟨ws1, ews1⟩ : ∃ W, wf1.setCell ⟨w.heap.size + 1, 1, none⟩ (.int .i64 (k : Int)) = W := ⟨_, rfl⟩
  have hM2 : ws1.heap[w.heap.size + 1]? = some (.cells #[.int .i64 4, .int .i64 (k : Int), .int .i64 0, .int .i64 0, .int .i64 0, .int .i64 0, .int .i64 0, .int .i64 0, .string ⟨#[]⟩, .slice none 0 0, .int .i64 0, .int .i64 0, .bool false] 37) := ews1 ▸ heap_setCell_cells hM 1 _
  have hS : Chg (fun g => g = w.heap.size + 1) wf1 ws1 := ews1 ▸ Chg.set (D := fun g => g = w.heap.size + 1) (q := w.heap.size + 1) 1 _ _ rfl
  have hR2 := hR.chg hS (by omega) ham
  have hC2 : Chg (fun g => g = p ∨ w.heap.size ≤ g) w ws1 := hC.trans (hS.mono (fun _ _ e => .inr (by omega)))
  clear hM hR hC hS
  have hM := hM2
  have hR := hR2
  have hC := hC2
  clear hM2 hR2 hC2
  obtain ⟨q2, hq2⟩ : ∃ q, q1 + (encP k).length = q := ⟨_, rfl⟩
  rw [hq2] at hR
  have hA := hA.next
  rw [hq2] at hA
  have z0 : ws1.cell? ⟨w.heap.size + 1, 0, none⟩ = some (.int .i64 4) := by rw [Lib.cell_of_heap hM]; rfl
  have HD : Hid (Chg (fun g => g = p ∨ w.heap.size ≤ g) w ws1 ∧ ws1.heap[w.heap.size + 1]? = some (.cells #[.int .i64 4, .int .i64 (k : Int), .int .i64 0, .int .i64 0, .int .i64 0, .int .i64 0, .int .i64 0, .int .i64 0, .string ⟨#[]⟩, .slice none 0 0, .int .i64 0, .int .i64 0, .bool false] 37) ∧ Rdr ws1 p a n cap bs q2) := ⟨hC, hM, hR⟩
  have hml := (Array.getElem?_eq_some_iff.1 hM).1
  clear hC hM hR
  go_wp2_with fail
  refine (fieldsOf_4 _).mono ?_
  rintro e w3 ⟨gf, rfl, hg3, hF, hb3⟩
  clear x0 fx z0 ews1
  obtain ⟨hC, hM, hR⟩ := HD.out
  have hM3 := (hb3.block _ hml).trans hM
  have hR3 := hR.chg (D := fun _ => False) (Chg.of_below hb3) (fun e => e) (fun _ _ e => e)
  have hC3 : Chg (fun g => g = p ∨ w.heap.size ≤ g) w w3 := hC.trans (Chg.of_below hb3)
  have hgf : w.heap.size + 1 < gf := by omega
  clear HD hC hM hR hb3 hg3 hml
  have HS : Hid (Chg (fun g => g = p ∨ w.heap.size ≤ g) w w3 ∧ w3.heap[w.heap.size + 1]? = some (.cells #[.int .i64 4, .int .i64 (k : Int), .int .i64 0, .int .i64 0, .int .i64 0, .int .i64 0, .int .i64 0, .int .i64 0, .string ⟨#[]⟩, .slice none 0 0, .int .i64 0, .int .i64 0, .bool false] 37) ∧ Rdr w3 p a n cap bs q2 ∧ Rw fldV 2 w3 (some ⟨gf, 0, none⟩) 2 2 (fieldsP 4)) := ⟨hC3, hM3, hR3, hF⟩
  clear hC3 hM3 hR3 hF
  go_wp2_with fail
  obtain ⟨q3, hq3⟩ : ∃ q, q2 + (encP r).length = q := ⟨_, rfl⟩
  have hA1 := hA.fst
  have hA2 := hA.next
  rw [hq3] at hA2
  go_loopw [16] (fun v16 W => (v16 = .int .i64 0 ∧ W = w3) ∨ (v16 = .int .i64 1 ∧ q3 ≤ n ∧ Chg (fun g => g = p ∨ w.heap.size ≤ g) w W ∧ W.heap[w.heap.size + 1]? = some (.cells #[.int .i64 4, .int .i64 (k : Int), .int .i64 (r : Int), .int .i64 0, .int .i64 0, .int .i64 0, .int .i64 0, .int .i64 0, .string ⟨#[]⟩, .slice none 0 0, .int .i64 0, .int .i64 0, .bool false] 37) ∧ Rdr W p a n cap bs q3 ∧ Rw fldV 2 W (some ⟨gf, 0, none⟩) 2 2 (fieldsP 4))) (fun v16 _ => 2 - (RowKit.intOf v16).toNat)
  case atStart => exact .inl ⟨rfl, rfl⟩
  case round =>
    rcases hrel with ⟨rfl, rfl⟩ | ⟨rfl, hqn, hC, hM, hR, hF⟩
    · skip
      obtain ⟨hC, hM, hR, hF⟩ := HS.out
      clear HS
      obtain ⟨g', off', e', hg', hc'⟩ := hF.cells (by omega)
      cases e'
      have y0 := hc' 0 _ rfl 0 _ rfl
      have y1 := hc' 0 _ rfl 1 _ rfl
      simp only [Nat.zero_mul, Nat.zero_add, Nat.add_zero] at y0 y1
      clear hc'
      have hb1 : Below wr.heap.size wr (wr.alloc (.cells #[.func (.func 43) #[] #[], .func (.func 44) #[] #[]] 74)) := (Below.refl _ _).alloc (Nat.le_refl _) _
      have hR1 := hR.chg (D := fun _ => False) (Chg.of_below hb1) (fun e => e) (fun _ _ e => e)
      have hM1 := (hb1.block _ (Array.getElem?_eq_some_iff.1 hM).1).trans hM
      have hC1 : Chg (fun g => g = p ∨ w.heap.size ≤ g) w (wr.alloc (.cells #[.func (.func 43) #[] #[], .func (.func 44) #[] #[]] 74)) := hC.trans (Chg.of_below hb1)
      have hF1 := hF.below hb1
      clear hF hM hC hR hb1
      rcases Nat.lt_or_ge n (q2 + (encP r).length) with g2 | g2
      · have HB := readRev_cut hR1 hA1 hM1 (by omega) ham (by simp [firstRevP]; try omega) (by omega) g2
        have HC1 : Hid (Chg (fun g => g = p ∨ w.heap.size ≤ g) w (wr.alloc (.cells #[.func (.func 43) #[] #[], .func (.func 44) #[] #[]] 74))) := hC1
        clear hR1 hM1 hC1 hF1
        go_wp2_with fail
        refine HB.mono ?_
        rintro e w4 ⟨rfl, hC4⟩
        clear HB
        unfold thrown
        try dsimp only
        go_wp2_with fail
        exact ⟨rfl, .inl ⟨by omega, rfl⟩, chg_drop (HC1.out.trans (hC4.mono (fun _ _ e => by omega))) (fun _ e => e)⟩
      · have HB := readRev_yes hR1 hA1 hM1 (by omega) ham (by simp [firstRevP]; try omega) (by omega) g2
        have HC1 : Hid (Chg (fun g => g = p ∨ w.heap.size ≤ g) w (wr.alloc (.cells #[.func (.func 43) #[] #[], .func (.func 44) #[] #[]] 74)) ∧ Rw fldV 2 (wr.alloc (.cells #[.func (.func 43) #[] #[], .func (.func 44) #[] #[]] 74)) (some ⟨gf, 0, none⟩) 2 2 (fieldsP 4)) := ⟨hC1, hF1⟩
        clear hR1 hM1 hC1 hF1
        go_wp2_with fail
        refine HB.mono ?_
        rintro e w4 ⟨rfl, hR4, hM4, hC4⟩
        clear HB y0 y1
        rw [hq3] at hR4
        have HY : Hid (Chg (fun g => g = p ∨ w.heap.size ≤ g) w w4 ∧ w4.heap[w.heap.size + 1]? = some (.cells #[.int .i64 4, .int .i64 (k : Int), .int .i64 (r : Int), .int .i64 0, .int .i64 0, .int .i64 0, .int .i64 0, .int .i64 0, .string ⟨#[]⟩, .slice none 0 0, .int .i64 0, .int .i64 0, .bool false] 37) ∧ Rdr w4 p a n cap bs q3 ∧ Rw fldV 2 w4 (some ⟨gf, 0, none⟩) 2 2 (fieldsP 4)) := ⟨HC1.out.1.trans (hC4.mono (fun _ _ e => by omega)), hM4, hR4, HC1.out.2.chg hC4 (fun g e => by cases e; simp only; omega)⟩
        clear hR4 hM4 hC4 HC1
        go_wp2_with fail
        exact ⟨.inr ⟨rfl, by omega, HY.out⟩, by simp [RowKit.intOf]⟩
    · skip
      clear HS
      have hbw := hw.chg hC (by omega)
      obtain ⟨g', off', e', hg', hc'⟩ := hF.cells (by omega)
      cases e'
      have y0 := hc' 1 _ rfl 0 _ rfl
      have y1 := hc' 1 _ rfl 1 _ rfl
      simp only [Nat.one_mul, Nat.zero_add, Nat.add_zero, Nat.reduceAdd] at y0 y1
      clear hc'
      have hb1 : Below wr.heap.size wr (wr.alloc (.cells #[.func (.func 47) #[] #[], .func (.func 48) #[] #[]] 74)) := (Below.refl _ _).alloc (Nat.le_refl _) _
      have hR1 := hR.chg (D := fun _ => False) (Chg.of_below hb1) (fun e => e) (fun _ _ e => e)
      have hM1 := (hb1.block _ (Array.getElem?_eq_some_iff.1 hM).1).trans hM
      have hC1 : Chg (fun g => g = p ∨ w.heap.size ≤ g) w (wr.alloc (.cells #[.func (.func 47) #[] #[], .func (.func 48) #[] #[]] 74)) := hC.trans (Chg.of_below hb1)
      have hF1 := hF.below hb1
      clear hF hM hC hR hb1
      have hbw1 : Bar (wr.alloc (.cells #[.func (.func 47) #[] #[], .func (.func 48) #[] #[]] 74)) := hbw.alloc _
      have HB := readCommand_cut (mb := w.heap.size + 1) hR1 (fun g e => by have := ha g e; have := hC1.size; omega) hA2 hx hbw1 Q (by omega) hnQ
      have HC1 : Hid (Chg (fun g => g = p ∨ w.heap.size ≤ g) w (wr.alloc (.cells #[.func (.func 47) #[] #[], .func (.func 48) #[] #[]] 74))) := hC1
      clear hR1 hM1 hC1 hF1 hbw hbw1
      go_wp2_with fail
      refine HB.mono ?_
      rintro e w4 ⟨⟨h1, rfl⟩ | ⟨h1, rfl⟩, hC4⟩
      · clear HB
        unfold thrown
        try dsimp only
        go_wp2_with fail
        exact ⟨rfl, .inl ⟨h1, rfl⟩, chg_drop (HC1.out.trans (hC4.mono (fun _ _ e => by omega))) (fun _ e => e)⟩
      · clear HB
        unfold thrown
        try dsimp only
        go_wp2_with fail
        exact ⟨rfl, .inr ⟨h1, rfl⟩, chg_drop (HC1.out.trans (hC4.mono (fun _ _ e => by omega))) (fun _ e => e)⟩
end Go.Proofs.YtkdhcokefnffaaaDoor
