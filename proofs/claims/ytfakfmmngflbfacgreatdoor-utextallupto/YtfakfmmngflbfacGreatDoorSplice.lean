import Derived.Test.YtfakfmmngflbfacGreatDoorSlices
namespace Go.Proofs.YtfakfmmngflbfacGreatDoor
open Go.RowKit Go.Lib

theorem strCells_list (s : ByteArray) : Lib.strCells s = Lib.byteCells s.data.toList := by
  simp [Lib.strCells, Lib.byteCells]

set_option maxHeartbeats 400000 in
theorem splice_bad {s : ByteArray} {p c : Int} (h : check s = (0, p, c)) (hc : c = 10 ∨ c = 11) (hs : s.size ≤ 9223372036854775807) (at_ del : Int) (t : ByteArray) (w : World) (hw : Bar w) :
    Calls Tryz.prog 37 #[.string s, .int .i64 at_, .int .i64 del, .string t] w fun e w' => e = .returned (.tuple #[.string ⟨#[]⟩, .int .i64 c]) ∧ Below w.heap.size w w' := by
  have t1 : (c != 0) = true := by rcases hc with rfl | rfl <;> rfl
  have HC : Hid (check s = (0, p, c)) := h
  clear h hc
  go_enter Tryz.func37, Tryz.ntmps37
  go_wp2_with fail
  refine (check_bar hs HC.out _ hw).mono ?_
  rintro e w1 ⟨rfl, hb1⟩
  go_wp2_with fail
  go_ret2
  exact ⟨rfl, hb1⟩
set_option maxHeartbeats 400000 in
theorem splice_bad2 {s t : ByteArray} {rs : List Int} {p c : Int} (h : IsText s rs) (h2 : check t = (0, p, c)) (hc : c = 10 ∨ c = 11) (hs : s.size ≤ 9223372036854775807) (ht : t.size ≤ 9223372036854775807) (at_ del : Int) (w : World) (hw : Bar w) :
    Calls Tryz.prog 37 #[.string s, .int .i64 at_, .int .i64 del, .string t] w fun e w' => e = .returned (.tuple #[.string ⟨#[]⟩, .int .i64 c]) ∧ Below w.heap.size w w' := by
  have t1 : (c != 0) = true := by rcases hc with rfl | rfl <;> rfl
  have HC : Hid (check t = (0, p, c)) := h2
  clear h2 hc
  go_enter Tryz.func37, Tryz.ntmps37
  go_wp2_with fail
  refine (check_bar hs h.check _ hw).mono ?_
  rintro e w1 ⟨rfl, hb1⟩
  have hw1 := hw.below hb1
  go_wp2_with fail
  refine (check_bar ht HC.out _ hw1).mono ?_
  rintro e w2 ⟨rfl, hb2⟩
  have hB2 := hb1.trans (hb2.mono hb1.size)
  clear hb1 hb2
  go_wp2_with fail
  go_ret2
  exact ⟨rfl, hB2⟩
set_option maxHeartbeats 1000000 in
theorem splice_out {s t : ByteArray} {rs ts : List Int} (h : IsText s rs) (h2 : IsText t ts) (hs : s.size ≤ 2097152) (ht : t.size ≤ 2097152) (at_ del : Int) (hk : ¬ (0 ≤ at_ ∧ at_ ≤ rs.length ∧ 0 ≤ del ∧ del ≤ rs.length - at_)) (w : World) (hw : Bar w) :
    Calls Tryz.prog 37 #[.string s, .int .i64 at_, .int .i64 del, .string t] w fun e w' => e = .returned (.tuple #[.string ⟨#[]⟩, .int .i64 12]) ∧ Below w.heap.size w w' := by
  have hlen := text_len h
  have hcs : at_ < 0 ∨ (0 ≤ at_ ∧ (rs.length : Int) < at_) ∨ (0 ≤ at_ ∧ at_ ≤ rs.length ∧ del < 0) ∨ (0 ≤ at_ ∧ at_ ≤ rs.length ∧ 0 ≤ del ∧ (rs.length : Int) - at_ < del) := by omega
  clear hk
  rcases hcs with k1 | ⟨k1, k2⟩ | ⟨k1, k2, k3⟩ | ⟨k1, k2, k3, k4⟩
  all_goals
    go_enter Tryz.func37, Tryz.ntmps37
    go_wp2_with fail
    refine (check_bar (by omega) h.check _ hw).mono ?_
    rintro e w1 ⟨rfl, hb1⟩
    have hw1 := hw.below hb1
    go_wp2_with fail
    refine (check_bar (by omega) h2.check _ hw1).mono ?_
    rintro e w2 ⟨rfl, hb2⟩
    have hB2 := hb1.trans (hb2.mono hb1.size)
    clear hb1 hb2
    go_wp2_with fail
    go_ret2
    exact ⟨rfl, hB2⟩

theorem builder_below {T e : TypeId} {B b : Nat} {bs : List Value} {w w' : World} (h : Lib.IsBuilderF T e B b bs w) (hb : Below w.heap.size w w') : Lib.IsBuilderF T e B b bs w' := by
  have key : ∀ p, Lib.BuilderAtF T e B b p bs w → Lib.BuilderAtF T e B b p bs w' := by
    rintro p ⟨hB, v, hbk, ⟨hl, hr⟩, hne⟩
    refine ⟨hB, v, (hb.block b (Array.getElem?_eq_some_iff.1 hbk).1).trans hbk, ⟨hl, ?_⟩, hne⟩
    rcases hr with h0 | ⟨g, cap, cur, fz, hv, hg, hh, rest⟩
    · exact .inl h0
    · exact .inr ⟨g, cap, cur, fz, hv, hg, (hb.block g (Array.getElem?_eq_some_iff.1 hh).1).trans hh, rest⟩
  rcases h with h | h
  · exact .inl (key _ h)
  · exact .inr (key _ h)

/-- What a splice makes. -/
def spliced (rs ts : List Int) (a d : Nat) : List UInt8 := encs (rs.take a) ++ encs ts ++ encs (rs.drop (a + d))
theorem piece1 {s : ByteArray} {rs : List Int} (h : IsText s rs) (a : Nat) : (s.extract 0 (posOf rs a)).data.toList = encs (rs.take a) := by
  have := (h.extract 0 a (Nat.zero_le _)).bytes
  rw [posOf_zero] at this
  simpa using this
theorem piece3 {s : ByteArray} {rs : List Int} (h : IsText s rs) (a : Nat) (ha : a ≤ rs.length) : (s.extract (posOf rs a) s.size).data.toList = encs (rs.drop a) := by
  have := (h.extract a rs.length ha).bytes
  rw [← h.size] at this
  simpa using this

set_option maxHeartbeats 1000000 in
theorem splice_in {s t : ByteArray} {rs ts : List Int} (h : IsText s rs) (h2 : IsText t ts) (hs : s.size ≤ 2097152) (ht : t.size ≤ 2097152) (a d : Nat) (hk : a + d ≤ rs.length) (w : World) (hw : Bar w) :
    Calls Tryz.prog 37 #[.string s, .int .i64 a, .int .i64 d, .string t] w fun e w' => e = .returned (.tuple #[.string ⟨(spliced rs ts a d).toArray⟩, .int .i64 0]) ∧ Below w.heap.size w w' := by
  have hlen := text_len h
  have hp1 : posOf rs a ≤ s.size := by rw [h.size]; exact posOf_mono rs (by omega)
  have hp2 : posOf rs (a + d) ≤ s.size := by rw [h.size]; exact posOf_mono rs hk
  have HP1 := (strCells_list _).trans (congrArg Lib.byteCells (piece1 h a))
  have HP3 := (strCells_list _).trans (congrArg Lib.byteCells (piece3 h (a + d) hk))
  have HP2 := (strCells_list t).trans (congrArg Lib.byteCells h2.bytes)
  have z1 : (s.extract 0 (posOf rs a)).size ≤ 2097152 := by rw [ByteArray.size_extract]; omega
  have z3 : (s.extract (posOf rs (a + d)) s.size).size ≤ 2097152 := by rw [ByteArray.size_extract]; omega
  have L1 : (Lib.byteCells (encs (rs.take a))).length ≤ 2097152 := by rw [Lib.byteCells_length]; have := posOf_mono rs (show a ≤ rs.length by omega); rw [← h.size] at this; exact Nat.le_trans this hs
  have L2 : (Lib.byteCells (encs ts)).length ≤ 2097152 := by rw [Lib.byteCells_length, ← h2.bytes, ← size_data]; exact ht
  have H1 : Hid (Lib.strCells (s.extract 0 (posOf rs a)) = Lib.byteCells (encs (rs.take a))) := HP1
  have H2 : Hid (Lib.strCells t = Lib.byteCells (encs ts)) := HP2
  have H3 : Hid (Lib.strCells (s.extract (posOf rs (a + d)) s.size) = Lib.byteCells (encs (rs.drop (a + d)))) := HP3
  have HA : Hid ((a : Int) + d = ((a + d : Nat) : Int)) := show (a : Int) + d = ((a + d : Nat) : Int) by omega
  clear HP1 HP2 HP3
  go_enter Tryz.func37, Tryz.ntmps37
  go_wp2_with fail
  refine (check_bar (by omega) h.check _ hw).mono ?_
  rintro e w1 ⟨rfl, hb1⟩
  have hw1 := hw.below hb1
  go_wp2_with fail
  refine (check_bar (by omega) h2.check _ hw1).mono ?_
  rintro e w2 ⟨rfl, hb2⟩
  have hB2 := hb1.trans (hb2.mono hb1.size)
  clear hb1 hb2 hw1 hw
  go_wp2_with fail
  have hI0 : Lib.IsBuilderF 52 5 w2.heap.size w2.heap.size [] _ := Lib.IsBuilderF.of (Lib.fresh_isBuilder 52 5 w2)
  refine (byteOf_any h (by omega) a (by omega) _).mono ?_
  rintro e w3 ⟨rfl, hb3⟩
  have hI3 := builder_below hI0 hb3
  have hs2 := hB2.size
  have hs3 : w2.heap.size < w3.heap.size := by have := hb3.size; simp at this; omega
  have hB3 : Below w2.heap.size w2 w3 := ((Below.refl _ _).alloc (Nat.le_refl _) _).trans (hb3.mono (by simp))
  clear hI0 hb3
  go_wp2_with fail
  refine (writeString_any w2.heap.size w2.heap.size [] _ _ hI3 (by simp; omega) (by omega)).mono ?_
  rintro e w4 ⟨rfl, h4, b4, _⟩
  rw [H1.out, List.nil_append] at h4
  have hB4 := hB3.trans b4
  have hs4 := b4.size
  clear hI3 b4 hB3
  go_wp2_with fail
  refine (writeString_any w2.heap.size w2.heap.size _ _ _ (.inr h4) (by omega) (by omega)).mono ?_
  rintro e w5 ⟨rfl, h5, b5, _⟩
  rw [H2.out] at h5
  have hB5 := hB4.trans b5
  have hs5 := b5.size
  clear h4 b5 hB4
  go_wp2_with fail
  rw [HA.out]
  refine (byteOf_any h (by omega) (a + d) hk _).mono ?_
  rintro e w6 ⟨rfl, hb6⟩
  have hI6 := builder_below (.inr h5) hb6
  have hB6 := hB5.trans (hb6.mono (by omega))
  have hs6 := hb6.size
  clear h5 hb6 hB5
  go_wp2_with fail
  refine (writeString_any w2.heap.size w2.heap.size _ _ _ hI6 (by rw [List.length_append]; omega) (by omega)).mono ?_
  rintro e w7 ⟨rfl, h7, b7, _⟩
  rw [H3.out, ← Lib.byteCells_append, ← Lib.byteCells_append] at h7
  have h7' : Lib.IsBuilderF 52 5 w2.heap.size w2.heap.size (Lib.byteCells (spliced rs ts a d)) w7 := .inr h7
  have hB7 := hB6.trans b7
  have hs7 := b7.size
  clear h7 b7 hI6 hB6
  go_wp2_with fail
  refine (Tryz.Builder_String_any_k w2.heap.size w2.heap.size (spliced rs ts a d) _ h7' (by omega)).mono ?_
  rintro e w8 ⟨rfl, _, b8, _⟩
  have hB8 := hB2.trans ((hB7.trans b8).mono hs2)
  clear b8 h7' hB7
  go_wp2_with fail
  go_ret2
  exact ⟨rfl, hB8⟩
end Go.Proofs.YtfakfmmngflbfacGreatDoor
