import Derived.Test.YtfakfmmngflbfabDoorDiffAll
import Derived.Test.YtfakfmmngflbfabDoorClone
import Derived.Test.YtfakfmmngflbfabDoorQuo
namespace Go.Proofs.YtfakfmmngflbfabDoor
open Go.RowKit Go.Lib

theorem text_most {s : ByteArray} {rs : List Int} (h : IsText s rs) : rs.length ≤ s.size := by
  rw [h.size]
  exact posOf_ge rs rs.length (Nat.le_refl _)
theorem strClone_p (s : ByteArray) (w : World) (hlim : s.size ≤ 281474976710656) :
    Calls Tryd.prog 30 #[.string s] w fun e w' => e = .returned (.string s) ∧ Below w.heap.size w w' := by
  go_enter Tryd.func30, Tryd.ntmps30
  go_wp2_with fail
  refine (Tryd.clone_any s _ hlim).mono ?_
  rintro e w1 ⟨rfl, hb1⟩
  go_wp2_with fail
  go_ret
  exact ⟨rfl, hb1⟩

set_option maxHeartbeats 1000000 in
theorem slice_p {s : ByteArray} {rs : List Int} (h : IsText s rs) (hs : s.size ≤ 281474976710656) (lo hi : Nat) (h1 : lo ≤ hi) (h2 : hi ≤ rs.length) (w : World) (hw : Bar w) :
    Calls Tryd.prog 18 #[.string s, .int .i64 lo, .int .i64 hi] w fun e w' => e = .returned (.tuple #[.string (s.extract (posOf rs lo) (posOf rs hi)), .int .i64 0]) ∧ Below w.heap.size w w' := by
  have hlen := text_most h
  have hp1 : posOf rs lo ≤ posOf rs hi := posOf_mono rs h1
  have hp2 : posOf rs hi ≤ s.size := by rw [h.size]; exact posOf_mono rs h2
  go_enter Tryd.func18, Tryd.ntmps18
  go_wp2_with fail
  refine (check_bar (by omega) h.check _ hw).mono ?_
  rintro e w1 ⟨rfl, hb1⟩
  go_wp2_with fail
  refine (byteOf_any h (by omega) lo (by omega) _).mono ?_
  rintro e w2 ⟨rfl, hb2⟩
  have hB2 := hb1.trans (hb2.mono hb1.size)
  clear hb1 hb2
  go_wp2_with fail
  refine (byteOf_any h (by omega) hi (by omega) _).mono ?_
  rintro e w3 ⟨rfl, hb3⟩
  have hB3 := hB2.trans (hb3.mono hB2.size)
  clear hB2 hb3
  go_wp2_with fail
  refine (strClone_p _ _ (by rw [ByteArray.size_extract]; omega)).mono ?_
  rintro e w4 ⟨rfl, hb4⟩
  have hB4 := hB3.trans (hb4.mono hB3.size)
  clear hB3 hb4
  go_wp2_with fail
  go_ret2
  exact ⟨rfl, hB4⟩

theorem strCells_p (s : ByteArray) : Lib.strCells s = Lib.byteCells s.data.toList := by
  simp [Lib.strCells, Lib.byteCells]
/-- What a splice makes. -/
def spliced (rs ts : List Int) (a d : Nat) : List UInt8 := encs (rs.take a) ++ encs ts ++ encs (rs.drop (a + d))
theorem part1 {s : ByteArray} {rs : List Int} (h : IsText s rs) (a : Nat) : (s.extract 0 (posOf rs a)).data.toList = encs (rs.take a) := by
  have := (h.extract 0 a (Nat.zero_le _)).bytes
  rw [posOf_zero] at this
  simpa using this
theorem part3 {s : ByteArray} {rs : List Int} (h : IsText s rs) (a : Nat) (ha : a ≤ rs.length) : (s.extract (posOf rs a) s.size).data.toList = encs (rs.drop a) := by
  have := (h.extract a rs.length ha).bytes
  rw [← h.size] at this
  simpa using this

set_option maxHeartbeats 1000000 in
theorem splice_p {s t : ByteArray} {rs ts : List Int} (h : IsText s rs) (h2 : IsText t ts) (hs : s.size ≤ 8388608) (ht : t.size ≤ 8388608) (a d : Nat) (hk : a + d ≤ rs.length) (w : World) (hw : Bar w) :
    Calls Tryd.prog 20 #[.string s, .int .i64 a, .int .i64 d, .string t] w fun e w' => e = .returned (.tuple #[.string ⟨(spliced rs ts a d).toArray⟩, .int .i64 0]) ∧ Below w.heap.size w w' := by
  have hlen := text_most h
  have hp1 : posOf rs a ≤ s.size := by rw [h.size]; exact posOf_mono rs (by omega)
  have hp2 : posOf rs (a + d) ≤ s.size := by rw [h.size]; exact posOf_mono rs hk
  have HP1 := (strCells_p _).trans (congrArg Lib.byteCells (part1 h a))
  have HP3 := (strCells_p _).trans (congrArg Lib.byteCells (part3 h (a + d) hk))
  have HP2 := (strCells_p t).trans (congrArg Lib.byteCells h2.bytes)
  have z1 : (s.extract 0 (posOf rs a)).size ≤ 8388608 := by rw [ByteArray.size_extract]; omega
  have z3 : (s.extract (posOf rs (a + d)) s.size).size ≤ 8388608 := by rw [ByteArray.size_extract]; omega
  have L1 : (Lib.byteCells (encs (rs.take a))).length ≤ 8388608 := by rw [Lib.byteCells_length]; have := posOf_mono rs (show a ≤ rs.length by omega); rw [← h.size] at this; exact Nat.le_trans this hs
  have L2 : (Lib.byteCells (encs ts)).length ≤ 8388608 := by rw [Lib.byteCells_length, ← h2.bytes, ← size_data]; exact ht
  have H1 : Hid (Lib.strCells (s.extract 0 (posOf rs a)) = Lib.byteCells (encs (rs.take a))) := HP1
  have H2 : Hid (Lib.strCells t = Lib.byteCells (encs ts)) := HP2
  have H3 : Hid (Lib.strCells (s.extract (posOf rs (a + d)) s.size) = Lib.byteCells (encs (rs.drop (a + d)))) := HP3
  have HA : Hid ((a : Int) + d = ((a + d : Nat) : Int)) := show (a : Int) + d = ((a + d : Nat) : Int) by omega
  clear HP1 HP2 HP3
  go_enter Tryd.func20, Tryd.ntmps20
  go_wp2_with fail
  refine (check_bar (by omega) h.check _ hw).mono ?_
  rintro e w1 ⟨rfl, hb1⟩
  have hw1 := hw.below hb1
  go_wp2_with fail
  refine (check_bar (by omega) h2.check _ hw1).mono ?_
  rintro e w2 ⟨rfl, hb2⟩
  have hB2 := hb1.trans (hb2.mono hb1.size)
  clear hb1 hb2 hw1 hw
  go_wp2_with fail
  have hI0 : Lib.IsBuilderF 49 5 w2.heap.size w2.heap.size [] _ := Lib.IsBuilderF.of (Lib.fresh_isBuilder 49 5 w2)
  refine (byteOf_any h (by omega) a (by omega) _).mono ?_
  rintro e w3 ⟨rfl, hb3⟩
  have hI3 := builder_keep hI0 hb3
  have hs2 := hB2.size
  have hs3 : w2.heap.size < w3.heap.size := by have := hb3.size; simp at this; omega
  have hB3 : Below w2.heap.size w2 w3 := ((Below.refl _ _).alloc (Nat.le_refl _) _).trans (hb3.mono (by simp))
  clear hI0 hb3
  go_wp2_with fail
  refine (writeString_any w2.heap.size w2.heap.size [] _ _ hI3 (by simp; omega) (by omega)).mono ?_
  rintro e w4 ⟨rfl, h4, b4, _⟩
  rw [H1.out, List.nil_append] at h4
  have hB4 := hB3.trans b4
  have hs4 := b4.size
  clear hI3 b4 hB3
  go_wp2_with fail
  refine (writeString_any w2.heap.size w2.heap.size _ _ _ (.inr h4) (by omega) (by omega)).mono ?_
  rintro e w5 ⟨rfl, h5, b5, _⟩
  rw [H2.out] at h5
  have hB5 := hB4.trans b5
  have hs5 := b5.size
  clear h4 b5 hB4
  go_wp2_with fail
  rw [HA.out]
  refine (byteOf_any h (by omega) (a + d) hk _).mono ?_
  rintro e w6 ⟨rfl, hb6⟩
  have hI6 := builder_keep (.inr h5) hb6
  have hB6 := hB5.trans (hb6.mono (by omega))
  have hs6 := hb6.size
  clear h5 hb6 hB5
  go_wp2_with fail
  refine (writeString_any w2.heap.size w2.heap.size _ _ _ hI6 (by rw [List.length_append]; omega) (by omega)).mono ?_
  rintro e w7 ⟨rfl, h7, b7, _⟩
  rw [H3.out, ← Lib.byteCells_append, ← Lib.byteCells_append] at h7
  have h7' : Lib.IsBuilderF 49 5 w2.heap.size w2.heap.size (Lib.byteCells (spliced rs ts a d)) w7 := .inr h7
  have hB7 := hB6.trans b7
  have hs7 := b7.size
  clear h7 b7 hI6 hB6
  go_wp2_with fail
  refine (Tryd.Builder_String_any_k w2.heap.size w2.heap.size (spliced rs ts a d) _ h7' (by omega)).mono ?_
  rintro e w8 ⟨rfl, _, b8, _⟩
  have hB8 := hB2.trans ((hB7.trans b8).mono hs2)
  clear b8 h7' hB7
  go_wp2_with fail
  go_ret2
  exact ⟨rfl, hB8⟩
theorem headF_alike (xs ys : List Int) : ∀ f k, (∀ j, j < k → xs.getD j 0 = ys.getD j 0) → ∀ j, j < headF xs ys f k → xs.getD j 0 = ys.getD j 0
  | 0, k, h, j, hj => h j hj
  | f + 1, k, h, j, hj => by
    rw [headF] at hj
    split at hj
    · rename_i hc
      refine headF_alike xs ys f (k + 1) (fun i hi => ?_) j hj
      by_cases e : i = k
      · rw [e]; exact hc.2.2
      · exact h i (by omega)
    · exact h j hj
theorem head_alike (xs ys : List Int) (j : Nat) (hj : j < headOf xs ys) : xs.getD j 0 = ys.getD j 0 := headF_alike xs ys _ 0 (fun _ h => absurd h (Nat.not_lt_zero _)) j hj
theorem ins_text {t : ByteArray} {ys : List Int} (h : IsText t ys) (a b : Nat) : IsText ⟨(encs ((ys.take b).drop a)).toArray⟩ ((ys.take b).drop a) :=
  ⟨by simp, fun r hr => h.ok r (List.mem_of_mem_take (List.mem_of_mem_drop hr))⟩
theorem tailF_alike (xs ys : List Int) (a : Nat) : ∀ f t, (∀ j, j < t → xs.getD (xs.length - 1 - j) 0 = ys.getD (ys.length - 1 - j) 0) → ∀ j, j < tailF xs ys a f t → xs.getD (xs.length - 1 - j) 0 = ys.getD (ys.length - 1 - j) 0
  | 0, t, h, j, hj => h j hj
  | f + 1, t, h, j, hj => by
    rw [tailF] at hj
    split at hj
    · rename_i hc
      refine tailF_alike xs ys a f (t + 1) (fun i hi => ?_) j hj
      by_cases e : i = t
      · rw [e]; exact hc.2.2
      · exact h i (by omega)
    · exact h j hj
theorem take_alike (xs ys : List Int) (k : Nat) (h1 : k ≤ xs.length) (h2 : k ≤ ys.length) (h : ∀ j, j < k → xs.getD j 0 = ys.getD j 0) : xs.take k = ys.take k := by
  apply List.ext_getElem
  · simp; omega
  · intro i hi1 hi2
    have hi : i < k := by simp at hi1; omega
    have := h i hi
    simp only [List.getD_eq_getElem?_getD, List.getElem?_eq_getElem (show i < xs.length by omega), List.getElem?_eq_getElem (show i < ys.length by omega), Option.getD_some] at this
    simpa using this
theorem drop_alike (xs ys : List Int) (k : Nat) (h1 : k ≤ xs.length) (h2 : k ≤ ys.length) (h : ∀ j, j < k → xs.getD (xs.length - 1 - j) 0 = ys.getD (ys.length - 1 - j) 0) : xs.drop (xs.length - k) = ys.drop (ys.length - k) := by
  apply List.ext_getElem
  · simp; omega
  · intro i hi1 hi2
    have hi : i < k := by simp at hi1; omega
    have := h (k - 1 - i) (by omega)
    rw [show xs.length - 1 - (k - 1 - i) = xs.length - k + i by omega, show ys.length - 1 - (k - 1 - i) = ys.length - k + i by omega] at this
    simp only [List.getD_eq_getElem?_getD, List.getElem?_eq_getElem (show xs.length - k + i < xs.length by omega), List.getElem?_eq_getElem (show ys.length - k + i < ys.length by omega), Option.getD_some] at this
    simpa using this
/-- The splice that Diff tells makes the new text of the old one. -/
theorem splice_diff (xs ys : List Int) : spliced xs ((ys.take (ys.length - tailOf xs ys)).drop (headOf xs ys)) (headOf xs ys) (xs.length - headOf xs ys - tailOf xs ys) = encs ys := by
  have hh := headOf_le xs ys
  have ht := tailOf_le xs ys
  have e1 : xs.take (headOf xs ys) = ys.take (headOf xs ys) := take_alike xs ys _ hh.1 hh.2 (head_alike xs ys)
  have e2 : xs.drop (xs.length - tailOf xs ys) = ys.drop (ys.length - tailOf xs ys) := drop_alike xs ys _ (by omega) (by omega) (tailF_alike xs ys _ _ 0 (fun _ h => absurd h (Nat.not_lt_zero _)))
  unfold spliced
  rw [show headOf xs ys + (xs.length - headOf xs ys - tailOf xs ys) = xs.length - tailOf xs ys by omega, e1, e2, ← encs_append, ← encs_append]
  have e3 : ys.take (headOf xs ys) = (ys.take (ys.length - tailOf xs ys)).take (headOf xs ys) := by rw [List.take_take, Nat.min_eq_left (by omega)]
  rw [e3, List.take_append_drop, List.take_append_drop]
end Go.Proofs.YtfakfmmngflbfabDoor
