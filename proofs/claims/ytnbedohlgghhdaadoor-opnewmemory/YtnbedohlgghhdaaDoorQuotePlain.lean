import Derived.Test.YtnbedohlgghhdaaDoorBld
import Derived.Test.YtnbedohlgghhdaaDoorPosT
namespace Go.Proofs.YtnbedohlgghhdaaDoor
open Go.RowKit Go.Lib

/-- a rune that stands in a quoted form as it is -/
def plainR (r : Int) : Prop := 32 ≤ r ∧ r ≤ 126 ∧ ¬ r = 34 ∧ ¬ r = 92

set_option maxHeartbeats 400000 in
theorem quotedRune_plain (r : Int) (h : plainR r) (w : World) : Calls Tryd.prog 43 #[.int .i32 r] w fun e w' => e = .returned (.string (Utf8.encode r)) ∧ w' = w := by
  obtain ⟨h1, h2, h3, h4⟩ := h
  have t1 : (r == 34) = false := beq_eq_false_iff_ne.2 h3
  have t2 : (r == 92) = false := beq_eq_false_iff_ne.2 h4
  have t3 : (r == 10) = false := beq_eq_false_iff_ne.2 (by omega)
  have t4 : (r == 9) = false := beq_eq_false_iff_ne.2 (by omega)
  clear h3 h4
  go_enter Tryd.func43, Tryd.ntmps43
  go_wp2_with fail
  go_ret
  exact ⟨rfl, rfl⟩

theorem plain_ok {r : Int} (h : plainR r) : okR r := by
  obtain ⟨h1, h2, h3, h4⟩ := h
  refine ⟨valid_of (by omega) (by omega) (by omega), ?_⟩
  unfold okRune; rw [decide_eq_true_iff]; omega

theorem encB_plain {r : Int} (h : plainR r) : encB r = [UInt8.ofNat r.toNat] := by
  obtain ⟨h1, h2, _, _⟩ := h
  obtain ⟨c, rfl⟩ := Int.eq_ofNat_of_zero_le (show 0 ≤ r by omega)
  exact encB1 c (by omega)
theorem encode_list (r : Int) : Utf8.encode r = ⟨(encB r).toArray⟩ := by
  unfold encB
  cases Utf8.encode r
  simp
theorem strCells_enc (r : Int) : Lib.strCells (Utf8.encode r) = Lib.byteCells (encB r) := by
  rw [encode_list]
  simp [Lib.strCells, Lib.byteCells]

/-- The quoted form of runes that stand in it as they are. -/
def quoteP (rs : List Int) : List UInt8 := [34] ++ encs rs ++ [34]

theorem enc_snoc (rs : List Int) (j : Nat) (hj : j < rs.length) : [34] ++ encs (rs.take j) ++ encB rs[j] = [34] ++ encs (rs.take (j + 1)) := by
  rw [List.take_succ_eq_append_getElem hj, encs_append, ← List.append_assoc]
  simp [encs]

set_option maxHeartbeats 1000000 in
theorem quote_plain {s : ByteArray} {rs : List Int} (h : IsText s rs) (hp : ∀ r ∈ rs, plainR r) (hs : s.size ≤ 35184372088832) (w : World) :
    Calls Tryd.prog 24 #[.string s] w fun e w' => e = .returned (.string ⟨(quoteP rs).toArray⟩) ∧ Below w.heap.size w w' := by
  have HSZ : Hid (s.size = posOf rs rs.length) := h.size
  go_enter Tryd.func24, Tryd.ntmps24
  go_wp2_with fail
  refine (writeByte_any w.heap.size w.heap.size [] 34 _ (Lib.IsBuilderF.of (Lib.fresh_isBuilder 79 5 w)) (by simp) (by simp)).mono ?_
  rintro e w1 ⟨rfl, h1, b1, k1⟩
  have hB1 : Below w.heap.size w w1 := ((Below.refl _ _).alloc (Nat.le_refl _) _).trans b1
  have hlt1 : w.heap.size < w1.heap.size := by have := b1.size; simp at this; omega
  clear b1 k1
  go_wp2_with fail
  go_loopw [] (fun wr => ∃ j : Nat, Lib.IsBuilderF 79 5 w.heap.size w.heap.size (Lib.byteCells ([34] ++ encs (rs.take j))) wr ∧ wr.heap[w1.heap.size]? = some (.stringIter s (posOf rs j)) ∧ Below w.heap.size w wr ∧ j ≤ rs.length) (fun wr => s.size - wr.iterPos w1.heap.size)
  case atStart =>
    have hI1 : Lib.IsBuilderF 79 5 w.heap.size w.heap.size (Lib.byteCells ([34] ++ encs (rs.take 0))) w1 := .inr h1
    refine ⟨0, hI1.alloc _, ?_, hB1.alloc (by omega) _, by omega⟩
    rw [posOf_zero]; exact World.iter_heap _ _ _
  case round =>
    obtain ⟨j, hI, hit, hbw, hjl⟩ := hrel
    have hszr : w1.heap.size < wr.heap.size := (Array.getElem?_eq_some_iff.1 hit).1
    have hel : (encs (rs.take j)).length ≤ s.size := by rw [HSZ.out]; exact posOf_mono rs hjl
    by_cases hj : j < rs.length
    · have hnx : ∀ ty, (Instr.next (.pointer (some ⟨w1.heap.size, 0, none⟩)) true ty).run Tryd.prog wr = _ := fun ty => run_next_text h wr w1.heap.size j ty hit hj
      have hpl := hp _ (List.getElem_mem hj)
      have hbk : Hid (brk s (posOf rs j) rs[j] = false) := by
        have e := brk_brkL s (posOf rs j)
        rw [h.decode j hj] at e
        have hv := (h.okAt j hj).1
        rw [show ((rs[j].toNat : Nat) : Int) = rs[j] by have := (h.bound j hj).1; omega] at e
        rw [h.bytes, posOf_drop, List.drop_eq_getElem_cons hj, encs_cons, brkL_enc _ hv] at e
        exact e
      have hI2 := hI.iterAt hit (posOf rs (j + 1))
      have hit2 := iterAt_heap wr w1.heap.size s (posOf rs j) (posOf rs (j + 1)) hit
      have hbw2 := below_iterAt hbw (k := w1.heap.size) (by omega) s (posOf rs (j + 1))
      have hsz2 : w.heap.size ≤ (wr.iterAt w1.heap.size s (posOf rs (j + 1))).heap.size := by rw [iterAt_size]; omega
      have HP : Hid (wr.iterPos w1.heap.size = posOf rs j) := iterPos_of' hit
      have hps : posOf rs j ≤ s.size := by rw [HSZ.out]; exact posOf_mono rs hjl
      have HLE : Hid (posOf rs (j + 1) ≤ s.size) := by rw [HSZ.out]; exact posOf_mono rs (by omega)
      have HLT : Hid (posOf rs j < posOf rs (j + 1)) := posOf_lt rs (Nat.lt_succ_self j) (by omega)
      have HENC : Hid ([34] ++ encs (rs.take j) ++ encB rs[j] = [34] ++ encs (rs.take (j + 1))) := enc_snoc rs j hj
      have hes : (Utf8.encode rs[j]).size ≤ 4 := encode_size_le _
      generalize rs[j] = r at *
      generalize hW : wr.iterAt w1.heap.size s (posOf rs (j + 1)) = W2 at *
      clear hW hI hit
      go_wp2_with fail
      refine (broken_any s (posOf rs j) r _ hps).mono ?_
      rintro e w' ⟨rfl, rfl⟩
      rw [hbk.out]
      go_wp2_with fail
      refine (quotedRune_plain r hpl _).mono ?_
      rintro e w' ⟨rfl, rfl⟩
      go_wp2_with fail
      refine (writeString_any w.heap.size w.heap.size _ (Utf8.encode r) _ hI2 (by rw [Lib.byteCells_length]; simp; omega) hsz2).mono ?_
      rintro e w3 ⟨rfl, h3, b3, k3⟩
      have hit3 := k3.iter hit2 (by omega)
      rw [strCells_enc, ← Lib.byteCells_append, HENC.out] at h3
      have hb3 := hbw2.trans b3
      clear hI2 hit2 hbw2 b3 k3 hbk hpl
      go_wp2_with fail
      refine ⟨⟨j + 1, .inr h3, hit3, hb3, by omega⟩, ?_⟩
      rw [HP.out, iterPos_of' hit3]
      have := HLE.out
      have := HLT.out
      omega
    · have hjl2 : j = rs.length := by omega
      subst hjl2
      rw [List.take_length] at hI hel
      have hnx : ∀ ty, (Instr.next (.pointer (some ⟨w1.heap.size, 0, none⟩)) true ty).run Tryd.prog wr = _ := fun ty => run_next_done h wr w1.heap.size ty hit
      go_wp2_with fail
      refine (writeByte_any w.heap.size w.heap.size _ 34 _ hI (by rw [Lib.byteCells_length]; simp; omega) (by omega)).mono ?_
      rintro e w2 ⟨rfl, h2, b2, _⟩
      have hb2 := hbw.trans b2
      have h2' : Lib.IsBuilderF 79 5 w.heap.size w.heap.size (Lib.byteCells (quoteP rs)) w2 := .inr (by
        have e : Lib.byteCells (quoteP rs) = Lib.byteCells ([34] ++ encs rs) ++ [.int .u8 34] := by
          unfold quoteP; rw [Lib.byteCells_append]; rfl
        rw [e]; exact h2)
      have hsz2 := hb2.size
      clear h2 b2 hI hit hbw hnx
      go_wp2_with fail
      refine (Tryd.Builder_String_any_k w.heap.size w.heap.size (quoteP rs) _ h2' (by omega)).mono ?_
      rintro e w3 ⟨rfl, _, b3, _⟩
      have hb3 := hb2.trans b3
      clear b3 h2' hb2
      go_wp2_with fail
      go_ret
      exact ⟨rfl, hb3⟩
end Go.Proofs.YtnbedohlgghhdaaDoor
