import Derived.Test.YtaphkaodcdpcaaaDoorPosT
namespace Go.Proofs.YtaphkaodcdpcaaaDoor
open Go.RowKit Go.Lib

set_option maxHeartbeats 400000 in
theorem byteOf_any {s : ByteArray} {rs : List Int} (h : IsText s rs) (hs : s.size ≤ 9223372036854775807) (k : Nat) (hk : k ≤ rs.length) (w : World) :
    Calls Tryd.prog 46 #[.string s, .int .i64 k] w fun e w' => e = .returned (.int .i64 (posOf rs k)) ∧ Below w.heap.size w w' := by
  have hsz := h.size
  have HSZ : Hid (s.size = posOf rs rs.length) := hsz
  have hrl := posOf_ge rs rs.length (Nat.le_refl _)
  rw [← hsz] at hrl
  clear hsz
  go_enter Tryd.func46, Tryd.ntmps46
  go_wp2_with fail
  go_loopw [1] (fun v w' => ∃ j : Nat, w'.heap[w.heap.size]? = some (.stringIter s (posOf rs j)) ∧ Below w.heap.size w w' ∧ j ≤ k ∧ v = .int .i64 ((k : Int) - j)) (fun _ w' => s.size - w'.iterPos w.heap.size)
  case atStart =>
    refine ⟨0, ?_, (Below.refl _ _).alloc (Nat.le_refl _) _, by omega, by go_num⟩
    rw [posOf_zero]; exact World.iter_heap _ _ _
  case round =>
    obtain ⟨j, hit, hb, hjk, rfl⟩ := hrel
    by_cases hj : j < rs.length
    · have hnx : ∀ ty, (Instr.next (.pointer (some ⟨w.heap.size, 0, none⟩)) true ty).run Tryd.prog wr = _ := fun ty => run_next_text h wr w.heap.size j ty hit hj
      have hb2 : Below w.heap.size w (wr.iterAt w.heap.size s (posOf rs (j + 1))) := below_iterAt hb (Nat.le_refl _) _ _
      have hit2 := iterAt_heap wr w.heap.size s (posOf rs j) (posOf rs (j + 1)) hit
      have HP : Hid (wr.iterPos w.heap.size = posOf rs j) := iterPos_of' hit
      have hlt : posOf rs j < posOf rs (j + 1) := posOf_lt rs (Nat.lt_succ_self j) (by omega)
      have hle := posOf_mono rs (show j + 1 ≤ rs.length by omega)
      have HLE : Hid (posOf rs (j + 1) ≤ s.size) := by rw [HSZ.out]; exact hle
      clear hle
      by_cases hz : j = k
      · subst hz
        have t1 : (((j : Int) - j) == 0) = true := by simp
        go_wp2_with fail
        go_ret
        exact ⟨rfl, hb2⟩
      · have t1 : (((k : Int) - j) == 0) = false := beq_eq_false_iff_ne.2 (by omega)
        go_wp2_with fail
        refine ⟨⟨j + 1, hit2, hb2, by omega, by go_num⟩, ?_⟩
        rw [HP.out, iterPos_of' hit2]
        have := HLE.out
        omega
    · have hjl : j = rs.length := by omega
      subst hjl
      have hkl : k = rs.length := by omega
      subst hkl
      have hnx : ∀ ty, (Instr.next (.pointer (some ⟨w.heap.size, 0, none⟩)) true ty).run Tryd.prog wr = _ := fun ty => run_next_done h wr w.heap.size ty hit
      go_wp2_with fail
      go_ret
      rw [← HSZ.out]
      exact ⟨rfl, hb⟩

set_option maxHeartbeats 400000 in
theorem place_in {s : ByteArray} {rs : List Int} (h : IsText s rs) (hs : s.size ≤ 9223372036854775807) (k : Int) (h0 : 0 ≤ k) (hk : k ≤ rs.length) (w : World) (hw : Bar w) :
    Calls Tryd.prog 31 #[.string s, .int .i64 k] w fun e w' => e = .returned (.tuple #[.int .i64 (posOf rs k.toNat), .int .i64 0]) ∧ Below w.heap.size w w' := by
  obtain ⟨k, rfl⟩ := Int.eq_ofNat_of_zero_le h0
  rw [Int.toNat_natCast]
  have hk' : k ≤ rs.length := by omega
  go_enter Tryd.func31, Tryd.ntmps31
  go_wp2_with fail
  refine (check_bar hs h.check _ hw).mono ?_
  rintro e w1 ⟨rfl, hb1⟩
  go_wp2_with fail
  refine (byteOf_any h hs k hk' _).mono ?_
  rintro e w2 ⟨rfl, hb2⟩
  have hb3 := hb1.trans (hb2.mono hb1.size)
  clear hb1 hb2
  go_wp2_with fail
  go_ret2
  exact ⟨rfl, hb3⟩
set_option maxHeartbeats 400000 in
theorem place_out {s : ByteArray} {rs : List Int} (h : IsText s rs) (hs : s.size ≤ 9223372036854775807) (k : Int) (hk : k < 0 ∨ (rs.length : Int) < k) (w : World) (hw : Bar w) :
    Calls Tryd.prog 31 #[.string s, .int .i64 k] w fun e w' => e = .returned (.tuple #[.int .i64 0, .int .i64 12]) ∧ Below w.heap.size w w' := by
  rcases hk with hk | hk
  · go_enter Tryd.func31, Tryd.ntmps31
    go_wp2_with fail
    refine (check_bar hs h.check _ hw).mono ?_
    rintro e w1 ⟨rfl, hb1⟩
    go_wp2_with fail
    go_ret2
    exact ⟨rfl, hb1⟩
  · have h0 : ¬ k < 0 := by omega
    go_enter Tryd.func31, Tryd.ntmps31
    go_wp2_with fail
    refine (check_bar hs h.check _ hw).mono ?_
    rintro e w1 ⟨rfl, hb1⟩
    go_wp2_with fail
    go_ret2
    exact ⟨rfl, hb1⟩
end Go.Proofs.YtaphkaodcdpcaaaDoor
