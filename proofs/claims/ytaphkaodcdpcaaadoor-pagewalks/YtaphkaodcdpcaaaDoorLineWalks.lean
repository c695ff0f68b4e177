import Derived.Test.YtaphkaodcdpcaaaDoorLines
import Derived.Test.YtaphkaodcdpcaaaDoorPosX
namespace Go.Proofs.YtaphkaodcdpcaaaDoor
open Go.RowKit Go.Lib

theorem getD_at (rs : List Int) (j : Nat) (hj : j < rs.length) : rs.getD j 0 = rs[j] := by
  rw [List.getD_eq_getElem?_getD, List.getElem?_eq_getElem hj]; rfl

set_option maxHeartbeats 1000000 in
theorem where_in {s : ByteArray} {rs : List Int} (h : IsText s rs) (hs : s.size ≤ 9223372036854775807) (k : Nat) (hk : k ≤ rs.length) (w : World) (hw : Bar w) :
    Calls Tryd.prog 47 #[.string s, .int .i64 k] w fun e w' => e = .returned (.tuple #[.int .i64 (lineOf rs k), .int .i64 ((k : Int) - homeOf rs k), .int .i64 0]) ∧ Below w.heap.size w w' := by
  have HSZ : Hid (s.size = posOf rs rs.length) := h.size
  have hrl := posOf_ge rs rs.length (Nat.le_refl _)
  rw [← h.size] at hrl
  go_enter Tryd.func47, Tryd.ntmps47
  go_wp2_with fail
  refine (place_in h hs k (by omega) (by omega) _ hw).mono ?_
  rintro e w1 ⟨rfl, hb1⟩
  go_wp2_with fail
  go_loopw [1, 4, 5] (fun a l c w' => ∃ j : Nat, w'.heap[w1.heap.size]? = some (.stringIter s (posOf rs j)) ∧ Below w1.heap.size w1 w' ∧ j ≤ k ∧ a = .int .i64 ((k : Int) - j) ∧ l = .int .i64 (lineOf rs j) ∧ c = .int .i64 ((j : Int) - homeOf rs j)) (fun _ _ _ w' => s.size - w'.iterPos w1.heap.size)
  case atStart =>
    refine ⟨0, ?_, (Below.refl _ _).alloc (Nat.le_refl _) _, by omega, by go_num, by simp [lineOf], by simp [homeOf]⟩
    rw [posOf_zero]; exact World.iter_heap _ _ _
  case round =>
    obtain ⟨j, hit, hb, hjk, rfl, rfl, rfl⟩ := hrel
    have hh := homeOf_le rs j
    have hl := lineOf_le rs j
    by_cases hj : j < rs.length
    · have hnx : ∀ ty, (Instr.next (.pointer (some ⟨w1.heap.size, 0, none⟩)) true ty).run Tryd.prog wr = _ := fun ty => run_next_text h wr w1.heap.size j ty hit hj
      have hb2 : Below w1.heap.size w1 (wr.iterAt w1.heap.size s (posOf rs (j + 1))) := below_iterAt hb (Nat.le_refl _) _ _
      have hit2 := iterAt_heap wr w1.heap.size s (posOf rs j) (posOf rs (j + 1)) hit
      have HP : Hid (wr.iterPos w1.heap.size = posOf rs j) := iterPos_of' hit
      have HLT : Hid (posOf rs j < posOf rs (j + 1)) := posOf_lt rs (Nat.lt_succ_self j) (by omega)
      have HLE : Hid (posOf rs (j + 1) ≤ s.size) := by rw [HSZ.out]; exact posOf_mono rs (by omega)
      have HG : Hid (rs.getD j 0 = rs[j]) := getD_at rs j hj
      by_cases hz : j = k
      · subst hz
        have t1 : (((j : Int) - j) == 0) = true := by simp
        go_wp2_with fail
        go_ret3
        exact ⟨rfl, hb1.trans (hb2.mono hb1.size)⟩
      · have t1 : (((k : Int) - j) == 0) = false := beq_eq_false_iff_ne.2 (by omega)
        by_cases hnl : rs[j] = 10
        · have t2 : (rs[j] == 10) = true := by simp [hnl]
          have HA : Hid (lineOf rs (j + 1) = lineOf rs j + 1) := by rw [lineOf, if_pos (HG.out.trans hnl)]; rfl
          have HB : Hid (homeOf rs (j + 1) = j + 1) := by rw [homeOf, if_pos (HG.out.trans hnl)]; rfl
          clear hnl
          go_wp2_with fail
          refine ⟨⟨j + 1, hit2, hb2, by omega, by go_num, by rw [HA.out]; go_num, by rw [HB.out]; go_num⟩, ?_⟩
          rw [HP.out, iterPos_of' hit2]
          have := HLE.out
          have := HLT.out
          omega
        · have t2 : (rs[j] == 10) = false := by simp [hnl]
          have HA : Hid (lineOf rs (j + 1) = lineOf rs j) := by rw [lineOf, if_neg (fun e => hnl (HG.out.symm.trans e))]; rfl
          have HB : Hid (homeOf rs (j + 1) = homeOf rs j) := by rw [homeOf, if_neg (fun e => hnl (HG.out.symm.trans e))]; rfl
          clear hnl
          go_wp2_with fail
          refine ⟨⟨j + 1, hit2, hb2, by omega, by go_num, by rw [HA.out], by rw [HB.out]; go_num⟩, ?_⟩
          rw [HP.out, iterPos_of' hit2]
          have := HLE.out
          have := HLT.out
          omega
    · have hjl : j = rs.length := by omega
      subst hjl
      have hkl : k = rs.length := by omega
      subst hkl
      have hnx : ∀ ty, (Instr.next (.pointer (some ⟨w1.heap.size, 0, none⟩)) true ty).run Tryd.prog wr = _ := fun ty => run_next_done h wr w1.heap.size ty hit
      go_wp2_with fail
      go_ret3
      exact ⟨rfl, hb1.trans (hb.mono hb1.size)⟩

set_option maxHeartbeats 2000000 in
theorem find_in_text {s : ByteArray} {rs : List Int} (h : IsText s rs) (hs : s.size ≤ 9223372036854775806) (line col : Int) (hl0 : 0 ≤ line) (hc0 : 0 ≤ col) (hl9 : line ≤ 9223372036854775807) (hc9 : col ≤ 9223372036854775807) (w : World) (hw : Bar w) :
    Calls Tryd.prog 48 #[.string s, .int .i64 line, .int .i64 col] w fun e w' => e = .returned (.tuple #[.int .i64 (findF rs rs.length 0 line col).1, .int .i64 (findF rs rs.length 0 line col).2]) ∧ Below w.heap.size w w' := by
  have HSZ : Hid (s.size = posOf rs rs.length) := h.size
  have hrl := posOf_ge rs rs.length (Nat.le_refl _)
  rw [← h.size] at hrl
  go_enter Tryd.func48, Tryd.ntmps48
  go_wp2_with fail
  refine (check_bar (by omega) h.check _ hw).mono ?_
  rintro e w1 ⟨rfl, hb1⟩
  go_wp2_with fail
  go_loopw [1, 2, 11] (fun l c a w' => ∃ (j : Nat) (L C : Int), w'.heap[w1.heap.size]? = some (.stringIter s (posOf rs j)) ∧ Below w1.heap.size w1 w' ∧ j ≤ rs.length ∧ l = .int .i64 L ∧ c = .int .i64 C ∧ a = .int .i64 j ∧ (0 ≤ L ∧ L ≤ 9223372036854775807) ∧ (0 ≤ C ∧ C ≤ 9223372036854775807) ∧ Hid (findF rs (rs.length - j) j L C = findF rs rs.length 0 line col)) (fun _ _ _ w' => s.size - w'.iterPos w1.heap.size)
  case atStart =>
    refine ⟨0, line, col, ?_, (Below.refl _ _).alloc (Nat.le_refl _) _, by omega, rfl, rfl, by go_num, ⟨hl0, hl9⟩, ⟨hc0, hc9⟩, rfl⟩
    rw [posOf_zero]; exact World.iter_heap _ _ _
  case round =>
    obtain ⟨j, L, C, hit, hb, hjl, rfl, rfl, rfl, ⟨hL0, hL9⟩, ⟨hC0, hC9⟩, hF⟩ := hrel
    by_cases hj : j < rs.length
    · have hnx : ∀ ty, (Instr.next (.pointer (some ⟨w1.heap.size, 0, none⟩)) true ty).run Tryd.prog wr = _ := fun ty => run_next_text h wr w1.heap.size j ty hit hj
      have hb2 : Below w1.heap.size w1 (wr.iterAt w1.heap.size s (posOf rs (j + 1))) := below_iterAt hb (Nat.le_refl _) _ _
      have hit2 := iterAt_heap wr w1.heap.size s (posOf rs j) (posOf rs (j + 1)) hit
      have HP : Hid (wr.iterPos w1.heap.size = posOf rs j) := iterPos_of' hit
      have HLT : Hid (posOf rs j < posOf rs (j + 1)) := posOf_lt rs (Nat.lt_succ_self j) (by omega)
      have HLE : Hid (posOf rs (j + 1) ≤ s.size) := by rw [HSZ.out]; exact posOf_mono rs (by omega)
      have HG : Hid (rs.getD j 0 = rs[j]) := getD_at rs j hj
      have hF1 : findF rs (rs.length - (j + 1) + 1) j L C = findF rs rs.length 0 line col := by
        rw [show rs.length - (j + 1) + 1 = rs.length - j by omega]; exact hF.out
      rw [findF, HG.out] at hF1
      clear hF
      generalize rs[j] = r at *
      by_cases hL : L = 0
      · subst hL
        have t1 : ((0 : Int) == 0) = true := rfl
        by_cases hst : C = 0 ∨ r = 10
        · rw [if_pos ⟨rfl, hst⟩] at hF1
          have HF : Hid (((j : Int), (0 : Int)) = findF rs rs.length 0 line col) := hF1
          clear hF1
          rcases hst with hst | hst
          · have t2 : (C == 0) = true := by simp [hst]
            clear hst
            go_wp2_with fail
            go_ret2
            rw [← HF.out]
            exact ⟨rfl, hb1.trans (hb2.mono hb1.size)⟩
          · have t3 : (r == 10) = true := by simp [hst]
            clear hst
            by_cases hC : C = 0
            · have t2 : (C == 0) = true := by simp [hC]
              clear hC
              go_wp2_with fail
              go_ret2
              rw [← HF.out]
              exact ⟨rfl, hb1.trans (hb2.mono hb1.size)⟩
            · have t2 : (C == 0) = false := by simp [hC]
              clear hC
              go_wp2_with fail
              go_ret2
              rw [← HF.out]
              exact ⟨rfl, hb1.trans (hb2.mono hb1.size)⟩
        · rw [if_neg (fun e => hst e.2), if_pos rfl] at hF1
          have HF : Hid (findF rs (rs.length - (j + 1)) (j + 1) 0 (C - 1) = findF rs rs.length 0 line col) := hF1
          have hC1 : 1 ≤ C := by
            have : ¬ C = 0 := fun e => hst (.inl e)
            omega
          have t2 : (C == 0) = false := beq_eq_false_iff_ne.2 (by omega)
          have t3 : (r == 10) = false := beq_eq_false_iff_ne.2 (fun e => hst (.inr e))
          clear hF1 hst
          go_wp2_with fail
          refine ⟨⟨j + 1, 0, C - 1, hit2, hb2, by omega, by go_num, by go_num, by go_num, by omega, by omega, HF⟩, ?_⟩
          rw [HP.out, iterPos_of' hit2]
          have := HLE.out
          have := HLT.out
          omega
      · have t1 : (L == 0) = false := by simp [hL]
        rw [if_neg (fun e => hL e.1), if_neg hL] at hF1
        have hL1 : 1 ≤ L := by omega
        clear hL
        by_cases hnl : r = 10
        · have t3 : (r == 10) = true := by simp [hnl]
          rw [if_pos hnl] at hF1
          have HF : Hid (findF rs (rs.length - (j + 1)) (j + 1) (L - 1) C = findF rs rs.length 0 line col) := hF1
          clear hF1 hnl
          go_wp2_with fail
          refine ⟨⟨j + 1, L - 1, C, hit2, hb2, by omega, by go_num, by go_num, by go_num, by omega, by omega, HF⟩, ?_⟩
          rw [HP.out, iterPos_of' hit2]
          have := HLE.out
          have := HLT.out
          omega
        · have t3 : (r == 10) = false := by simp [hnl]
          rw [if_neg hnl] at hF1
          have HF : Hid (findF rs (rs.length - (j + 1)) (j + 1) L C = findF rs rs.length 0 line col) := hF1
          clear hF1 hnl
          go_wp2_with fail
          refine ⟨⟨j + 1, L, C, hit2, hb2, by omega, by go_num, by go_num, by go_num, by omega, by omega, HF⟩, ?_⟩
          rw [HP.out, iterPos_of' hit2]
          have := HLE.out
          have := HLT.out
          omega
    · have hjl2 : j = rs.length := by omega
      subst hjl2
      have hnx : ∀ ty, (Instr.next (.pointer (some ⟨w1.heap.size, 0, none⟩)) true ty).run Tryd.prog wr = _ := fun ty => run_next_done h wr w1.heap.size ty hit
      have hF1 := hF.out
      rw [Nat.sub_self, findF] at hF1
      clear hF
      by_cases hL : 0 < L
      · rw [if_pos hL] at hF1
        have HF : Hid (((0 : Int), (12 : Int)) = findF rs rs.length 0 line col) := hF1
        clear hF1
        go_wp2_with fail
        go_ret2
        rw [← HF.out]
        exact ⟨rfl, hb1.trans (hb.mono hb1.size)⟩
      · rw [if_neg hL] at hF1
        have HF : Hid (((rs.length : Int), (0 : Int)) = findF rs rs.length 0 line col) := hF1
        clear hF1
        go_wp2_with fail
        go_ret2
        rw [← HF.out]
        exact ⟨rfl, hb1.trans (hb.mono hb1.size)⟩
set_option maxHeartbeats 400000 in
theorem find_neg {s : ByteArray} {rs : List Int} (h : IsText s rs) (hs : s.size ≤ 9223372036854775807) (line col : Int) (hl0 : line < 0) (w : World) (hw : Bar w) :
    Calls Tryd.prog 48 #[.string s, .int .i64 line, .int .i64 col] w fun e w' => e = .returned (.tuple #[.int .i64 0, .int .i64 12]) ∧ Below w.heap.size w w' := by
  go_enter Tryd.func48, Tryd.ntmps48
  go_wp2_with fail
  refine (check_bar (by omega) h.check _ hw).mono ?_
  rintro e w1 ⟨rfl, hb1⟩
  go_wp2_with fail
  go_ret2
  exact ⟨rfl, hb1⟩
end Go.Proofs.YtaphkaodcdpcaaaDoor
