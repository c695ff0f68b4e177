import Derived.Test.YtfakfmmngflbfacGreatDoorPosX
namespace Go.Proofs.YtfakfmmngflbfacGreatDoor
open Go.RowKit Go.Lib

set_option maxHeartbeats 1000000 in
theorem index_loop {s : ByteArray} {rs : List Int} (h : IsText s rs) (hs : s.size ≤ 9223372036854775807) (k : Int) (w : World) (hw : Bar w) :
    Calls Tryz.prog 16 #[.string s, .int .i64 k] w fun e w' => ∃ a c : Int, e = .returned (.tuple #[.int .i64 a, .int .i64 c]) ∧ Below w.heap.size w w' ∧
      ((c = 0 ∧ ∃ j : Nat, j ≤ rs.length ∧ a = j ∧ k = posOf rs j) ∨ (c = 12 ∧ a = 0 ∧ ∀ j : Nat, j ≤ rs.length → k ≠ posOf rs j)) := by
  have HSZ : Hid (s.size = posOf rs rs.length) := h.size
  have hrl := posOf_ge rs rs.length (Nat.le_refl _)
  rw [← h.size] at hrl
  by_cases hend : k = s.size
  · have t0 : (k == (s.size : Int)) = true := by simp [hend]
    have HK : Hid (k = s.size) := hend
    clear hend
    go_enter Tryz.func16, Tryz.ntmps16
    go_wp2_with fail
    refine (check_bar hs h.check _ hw).mono ?_
    rintro e w1 ⟨rfl, hb1⟩
    go_wp2_with fail
    go_ret2
    exact ⟨_, _, rfl, hb1, .inl ⟨rfl, rs.length, Nat.le_refl _, rfl, by rw [HK.out, HSZ.out]⟩⟩
  · have t0 : (k == (s.size : Int)) = false := by simp [hend]
    have HK : Hid (¬ k = s.size) := hend
    clear hend
    go_enter Tryz.func16, Tryz.ntmps16
    go_wp2_with fail
    refine (check_bar hs h.check _ hw).mono ?_
    rintro e w1 ⟨rfl, hb1⟩
    go_wp2_with fail
    go_loopw [9] (fun v w' => ∃ j : Nat, w'.heap[w1.heap.size]? = some (.stringIter s (posOf rs j)) ∧ Below w1.heap.size w1 w' ∧ j ≤ rs.length ∧ v = .int .i64 j ∧ Hid (∀ i : Nat, i < j → k ≠ posOf rs i)) (fun _ w' => s.size - w'.iterPos w1.heap.size)
    case atStart =>
      refine ⟨0, ?_, (Below.refl _ _).alloc (Nat.le_refl _) _, by omega, by go_num, fun i hi => by omega⟩
      rw [posOf_zero]; exact World.iter_heap _ _ _
    case round =>
      obtain ⟨j, hit, hb, hjl, rfl, hne⟩ := hrel
      by_cases hj : j < rs.length
      · have hnx : ∀ ty, (Instr.next (.pointer (some ⟨w1.heap.size, 0, none⟩)) true ty).run Tryz.prog wr = _ := fun ty => run_next_text h wr w1.heap.size j ty hit hj
        have hb2 : Below w1.heap.size w1 (wr.iterAt w1.heap.size s (posOf rs (j + 1))) := below_iterAt hb (Nat.le_refl _) _ _
        have hit2 := iterAt_heap wr w1.heap.size s (posOf rs j) (posOf rs (j + 1)) hit
        have HP : Hid (wr.iterPos w1.heap.size = posOf rs j) := iterPos_of' hit
        have hlt : posOf rs j < posOf rs (j + 1) := posOf_lt rs (Nat.lt_succ_self j) (by omega)
        have hle := posOf_mono rs (show j + 1 ≤ rs.length by omega)
        have HLE : Hid (posOf rs (j + 1) ≤ s.size) := by rw [HSZ.out]; exact hle
        clear hle
        by_cases hz : k = posOf rs j
        · have t1 : ((posOf rs j : Int) == k) = true := by simp [hz]
          have HZ : Hid (k = posOf rs j) := hz
          clear hz
          go_wp2_with fail
          go_ret2
          exact ⟨_, _, rfl, hb1.trans (hb2.mono hb1.size), .inl ⟨rfl, j, hjl, rfl, HZ.out⟩⟩
        · have t1 : ((posOf rs j : Int) == k) = false := beq_eq_false_iff_ne.2 (fun e => hz e.symm)
          have HN : Hid (∀ i : Nat, i < j + 1 → k ≠ posOf rs i) := fun i hi => by
            by_cases e : i = j
            · subst e; exact hz
            · exact hne.out i (by omega)
          clear hz hne
          go_wp2_with fail
          refine ⟨⟨j + 1, hit2, hb2, by omega, by go_num, HN⟩, ?_⟩
          rw [HP.out, iterPos_of' hit2]
          have := HLE.out
          omega
      · have hjl : j = rs.length := by omega
        subst hjl
        have hnx : ∀ ty, (Instr.next (.pointer (some ⟨w1.heap.size, 0, none⟩)) true ty).run Tryz.prog wr = _ := fun ty => run_next_done h wr w1.heap.size ty hit
        go_wp2_with fail
        go_ret2
        refine ⟨_, _, rfl, hb1.trans (hb.mono hb1.size), .inr ⟨rfl, rfl, fun i hi => ?_⟩⟩
        by_cases e : i = rs.length
        · subst e; rw [← HSZ.out]; exact HK.out
        · exact hne.out i (by omega)

theorem posOf_inj (rs : List Int) {i j : Nat} (hi : i ≤ rs.length) (hj : j ≤ rs.length) (h : posOf rs i = posOf rs j) : i = j := by
  rcases Nat.lt_trichotomy i j with e | e | e
  · have := posOf_lt rs e hj; omega
  · exact e
  · have := posOf_lt rs e hi; omega

theorem index_at {s : ByteArray} {rs : List Int} (h : IsText s rs) (hs : s.size ≤ 9223372036854775807) (k : Int) (j : Nat) (hj : j ≤ rs.length) (hk : k = posOf rs j) (w : World) (hw : Bar w) :
    Calls Tryz.prog 16 #[.string s, .int .i64 k] w fun e w' => e = .returned (.tuple #[.int .i64 j, .int .i64 0]) ∧ Below w.heap.size w w' := by
  refine (index_loop h hs k w hw).mono ?_
  rintro e w' ⟨a, c, rfl, hb, ⟨rfl, j', hj', rfl, hk'⟩ | ⟨rfl, rfl, hn⟩⟩
  · have : j' = j := posOf_inj rs hj' hj (by omega)
    subst this
    exact ⟨rfl, hb⟩
  · exact (hn j hj hk).elim
theorem index_no {s : ByteArray} {rs : List Int} (h : IsText s rs) (hs : s.size ≤ 9223372036854775807) (k : Int) (hk : ∀ j : Nat, j ≤ rs.length → k ≠ posOf rs j) (w : World) (hw : Bar w) :
    Calls Tryz.prog 16 #[.string s, .int .i64 k] w fun e w' => e = .returned (.tuple #[.int .i64 0, .int .i64 12]) ∧ Below w.heap.size w w' := by
  refine (index_loop h hs k w hw).mono ?_
  rintro e w' ⟨a, c, rfl, hb, ⟨rfl, j', hj', rfl, hk'⟩ | ⟨rfl, rfl, hn⟩⟩
  · exact (hk j' hj' hk').elim
  · exact ⟨rfl, hb⟩
end Go.Proofs.YtfakfmmngflbfacGreatDoor
