import Derived.Test.YtnbedohlgghhdaaDoorHex
import Derived.Test.YtnbedohlgghhdaaDoorQuotePlain
namespace Go.Proofs.YtnbedohlgghhdaaDoor
open Go.RowKit Go.Lib

theorem catL (a b : List UInt8) : (⟨a.toArray⟩ : ByteArray) ++ ⟨b.toArray⟩ = ⟨(a ++ b).toArray⟩ := by
  apply ByteArray.ext
  simp
theorem ndig_le (u : Nat) : ndig u ≤ 6 := by unfold ndig; (repeat' split) <;> omega
theorem hexL_len (u : Nat) : (hexL u).length ≤ 6 := by unfold hexL; rw [hexN_length]; exact ndig_le u
theorem sizeL (l : List UInt8) : (⟨l.toArray⟩ : ByteArray).size = l.length := by rw [size_data]

set_option maxHeartbeats 400000 in
theorem formatIn_16 (u : Nat) (hu : u ≤ 1114111) (w : World) (hd : Deb w) :
    Calls Tryd.prog 51 #[.int .i64 u, .int .i64 16] w fun e w' => e = .returned (.string ⟨(hexL u).toArray⟩) ∧ Below w.heap.size w w' := by
  have d1 : decide ((u : Int) < 0) = false := decide_eq_false (by omega)
  go_enter Tryd.func51, Tryd.ntmps51
  go_wp2_with fail
  refine (formatBits_16 u hu _ hd).mono ?_
  rintro e w1 ⟨rfl, hb1⟩
  go_wp2_with fail
  go_ret
  exact ⟨rfl, hb1⟩
set_option maxHeartbeats 400000 in
theorem format_16 (u : Nat) (hu : u ≤ 1114111) (w : World) (hd : Deb w) :
    Calls Tryd.prog 54 #[.int .i64 u, .int .i64 16] w fun e w' => e = .returned (.string ⟨(hexL u).toArray⟩) ∧ Below w.heap.size w w' := by
  go_enter Tryd.func54, Tryd.ntmps54
  go_wp2_with fail
  refine (formatIn_16 u hu _ hd).mono ?_
  rintro e w1 ⟨rfl, hb1⟩
  go_wp2_with fail
  go_ret
  exact ⟨rfl, hb1⟩
set_option maxHeartbeats 400000 in
theorem quotedByte_any (c : Nat) (hc : c ≤ 255) (w : World) (hd : Deb w) :
    Calls Tryd.prog 42 #[.int .u8 c] w fun e w' => e = .returned (.string ⟨(92 :: 120 :: hexL c).toArray⟩) ∧ Below w.heap.size w w' := by
  have hl := hexL_len c
  rw [← sizeL (hexL c)] at hl
  have hC := catL [92, 120] (hexL c)
  obtain ⟨tx, htx⟩ : ∃ tx, (⟨(hexL c).toArray⟩ : ByteArray) = tx := ⟨_, rfl⟩
  rw [htx] at hl hC
  have HT : Hid ((⟨(hexL c).toArray⟩ : ByteArray) = tx) := htx
  have HC : Hid ((⟨#[92, 120]⟩ : ByteArray) ++ tx = ⟨(92 :: 120 :: hexL c).toArray⟩) := hC
  clear htx hC
  go_enter Tryd.func42, Tryd.ntmps42
  go_wp2_with fail
  refine (format_16 c (by omega) _ hd).mono ?_
  rintro e w1 ⟨rfl, hb1⟩
  rw [HT.out]
  go_wp2_with fail
  go_ret
  rw [← HC.out]
  exact ⟨rfl, hb1⟩

/-- A rune in a quoted form. -/
def qR (r : Nat) : List UInt8 :=
  if r = 34 then [92, 34] else if r = 92 then [92, 92] else if r = 10 then [92, 110] else if r = 9 then [92, 116] else if 32 ≤ r ∧ r ≤ 126 then [UInt8.ofNat r]
  else [92, 117, 123] ++ hexL r ++ [125]
theorem qR_len (r : Nat) : 1 ≤ (qR r).length ∧ (qR r).length ≤ 10 := by
  have := hexL_len r
  unfold qR
  (repeat' split) <;> simp <;> omega

set_option maxHeartbeats 1000000 in
theorem quotedRune_any (r : Nat) (hr : r ≤ 1114111) (w : World) (hd : Deb w) :
    Calls Tryd.prog 43 #[.int .i32 r] w fun e w' => e = .returned (.string ⟨(qR r).toArray⟩) ∧ Below w.heap.size w w' := by
  by_cases h1 : r = 34
  · subst h1
    go_enter Tryd.func43, Tryd.ntmps43
    go_wp2_with fail
    go_ret
    exact ⟨rfl, Below.refl _ _⟩
  by_cases h2 : r = 92
  · subst h2
    go_enter Tryd.func43, Tryd.ntmps43
    go_wp2_with fail
    go_ret
    exact ⟨rfl, Below.refl _ _⟩
  by_cases h3 : r = 10
  · subst h3
    go_enter Tryd.func43, Tryd.ntmps43
    go_wp2_with fail
    go_ret
    exact ⟨rfl, Below.refl _ _⟩
  by_cases h4 : r = 9
  · subst h4
    go_enter Tryd.func43, Tryd.ntmps43
    go_wp2_with fail
    go_ret
    exact ⟨rfl, Below.refl _ _⟩
  by_cases h5 : 32 ≤ r ∧ r ≤ 126
  · refine (quotedRune_plain r ⟨by omega, by omega, by omega, by omega⟩ w).mono ?_
    rintro e w' ⟨rfl, rfl⟩
    refine ⟨?_, Below.refl _ _⟩
    rw [encode_list, encB_plain ⟨by omega, by omega, by omega, by omega⟩]
    unfold qR
    rw [if_neg h1, if_neg h2, if_neg h3, if_neg h4, if_pos h5]
    simp
  · have hq : qR r = [92, 117, 123] ++ hexL r ++ [125] := by
      unfold qR
      rw [if_neg h1, if_neg h2, if_neg h3, if_neg h4, if_neg h5]
    have hl := hexL_len r
    rw [← sizeL (hexL r)] at hl
    have hC : (⟨#[92, 117, 123]⟩ : ByteArray) ++ ⟨(hexL r).toArray⟩ ++ ⟨#[125]⟩ = ⟨(qR r).toArray⟩ := by
      rw [hq, ← catL, ← catL]
    obtain ⟨tx, htx⟩ : ∃ tx, (⟨(hexL r).toArray⟩ : ByteArray) = tx := ⟨_, rfl⟩
    rw [htx] at hl hC
    have HT : Hid ((⟨(hexL r).toArray⟩ : ByteArray) = tx) := htx
    have HC : Hid ((⟨#[92, 117, 123]⟩ : ByteArray) ++ tx ++ ⟨#[125]⟩ = ⟨(qR r).toArray⟩) := hC
    clear htx hC hq
    have t1 : ((r : Int) == 34) = false := beq_eq_false_iff_ne.2 (by omega)
    have t2 : ((r : Int) == 92) = false := beq_eq_false_iff_ne.2 (by omega)
    have t3 : ((r : Int) == 10) = false := beq_eq_false_iff_ne.2 (by omega)
    have t4 : ((r : Int) == 9) = false := beq_eq_false_iff_ne.2 (by omega)
    have h6 : r < 32 ∨ 126 < r := by omega
    rcases h6 with h6 | h6
    · go_enter Tryd.func43, Tryd.ntmps43
      go_wp2_with fail
      refine (format_16 r hr _ hd).mono ?_
      rintro e w1 ⟨rfl, hb1⟩
      rw [HT.out]
      go_wp2_with fail
      go_ret
      rw [← HC.out]
      exact ⟨rfl, hb1⟩
    · go_enter Tryd.func43, Tryd.ntmps43
      go_wp2_with fail
      refine (format_16 r hr _ hd).mono ?_
      rintro e w1 ⟨rfl, hb1⟩
      rw [HT.out]
      go_wp2_with fail
      go_ret
      rw [← HC.out]
      exact ⟨rfl, hb1⟩

theorem builder_keep {T e : TypeId} {B b : Nat} {bs : List Value} {w w' : World} (h : Lib.IsBuilderF T e B b bs w) (hb : Below w.heap.size w w') : Lib.IsBuilderF T e B b bs w' := by
  have key : ∀ p, Lib.BuilderAtF T e B b p bs w → Lib.BuilderAtF T e B b p bs w' := by
    rintro p ⟨hB, v, hbk, ⟨hl, hr⟩, hne⟩
    refine ⟨hB, v, (hb.block b (Array.getElem?_eq_some_iff.1 hbk).1).trans hbk, ⟨hl, ?_⟩, hne⟩
    rcases hr with h0 | ⟨g, cap, cur, fz, hv, hg, hh, rest⟩
    · exact .inl h0
    · exact .inr ⟨g, cap, cur, fz, hv, hg, (hb.block g (Array.getElem?_eq_some_iff.1 hh).1).trans hh, rest⟩
  rcases h with h | h
  · exact .inl (key _ h)
  · exact .inr (key _ h)

/-- The pieces of a quoted form. -/
def pieceL (l : List UInt8) : List UInt8 := if brkL l = true then [92, 120] ++ hexL (at0 l 0) else qR (dec l).1
def quoL : Nat → List UInt8 → List UInt8
  | 0, _ => []
  | f + 1, l => if l = [] then [] else pieceL l ++ quoL f (l.drop (dec l).2)
def quoted (s : ByteArray) : List UInt8 := [34] ++ quoL s.size s.data.toList ++ [34]
theorem pieceL_len (l : List UInt8) : 1 ≤ (pieceL l).length ∧ (pieceL l).length ≤ 10 := by
  unfold pieceL
  split
  · have := hexL_len (at0 l 0)
    simp
    omega
  · exact qR_len _
theorem quoL_end (f : Nat) : quoL f [] = [] := by
  cases f
  · rfl
  · rw [quoL, if_pos rfl]
theorem byteAt0 (s : ByteArray) (pos : Nat) (h : pos < s.size) : (s[pos]'h).toNat = at0 (s.data.toList.drop pos) 0 := by
  have h2 : pos < s.data.size := h
  have e : s[pos]'h = s.data[pos]'h2 := rfl
  rw [e]
  unfold at0
  rw [List.getD_eq_getElem?_getD, List.getElem?_drop, Nat.add_zero, Array.getElem?_toList, Array.getElem?_eq_getElem h2]
  rfl
theorem strL (l : List UInt8) : Lib.strCells (⟨l.toArray⟩ : ByteArray) = Lib.byteCells l := by
  simp [Lib.strCells, Lib.byteCells]
theorem quoL_step (f : Nat) (l : List UInt8) (h : l ≠ []) : quoL (f + 1) l = pieceL l ++ quoL f (l.drop (dec l).2) := by rw [quoL, if_neg h]

set_option maxHeartbeats 2000000 in
set_option maxRecDepth 100000 in
theorem quote_any (s : ByteArray) (hs : s.size ≤ 1099511627776) (w : World) (hd : Deb w) :
    Calls Tryd.prog 24 #[.string s] w fun e w' => e = .returned (.string ⟨(quoted s).toArray⟩) ∧ Below w.heap.size w w' := by
  go_enter Tryd.func24, Tryd.ntmps24
  go_wp2_with fail
  refine (writeByte_any w.heap.size w.heap.size [] 34 _ (Lib.IsBuilderF.of (Lib.fresh_isBuilder 79 5 w)) (by simp) (by simp)).mono ?_
  rintro e w1 ⟨rfl, h1, b1, k1⟩
  have hB1 : Below w.heap.size w w1 := ((Below.refl _ _).alloc (Nat.le_refl _) _).trans b1
  have hlt1 : w.heap.size < w1.heap.size := by have := b1.size; simp at this; omega
  clear b1 k1
  go_wp2_with fail
  go_loopw [] (fun wr => ∃ (pos f : Nat) (acc : List UInt8), Lib.IsBuilderF 79 5 w.heap.size w.heap.size (Lib.byteCells ([34] ++ acc)) wr ∧ wr.heap[w1.heap.size]? = some (.stringIter s pos) ∧ Below w.heap.size w wr ∧ pos ≤ s.size ∧ s.size ≤ pos + f ∧ acc.length ≤ 10 * pos ∧ Hid (acc ++ quoL f (s.data.toList.drop pos) = quoL s.size s.data.toList)) (fun wr => s.size - wr.iterPos w1.heap.size)
  case atStart =>
    have hI1 : Lib.IsBuilderF 79 5 w.heap.size w.heap.size (Lib.byteCells ([34] ++ [])) w1 := .inr h1
    exact ⟨0, s.size, [], hI1.alloc _, World.iter_heap _ _ _, hB1.alloc (by omega) _, by omega, by omega, by simp, rfl⟩
  case round =>
    obtain ⟨pos, f, acc, hI, hit, hbw, hps, hpf, hal, HA⟩ := hrel
    have hszr : w1.heap.size < wr.heap.size := (Array.getElem?_eq_some_iff.1 hit).1
    by_cases hp : pos < s.size
    · obtain ⟨f, rfl⟩ : ∃ f', f = f' + 1 := ⟨f - 1, by omega⟩
      have hnx : ∀ ty, (Instr.next (.pointer (some ⟨w1.heap.size, 0, none⟩)) true ty).run Tryd.prog wr = _ := fun ty => run_next_any_at wr w1.heap.size s pos ty hit hp
      have hr0 := decode_le' s pos
      have hw1 := width_pos s pos
      have hw2 := width_fits s pos hp
      have hbw2 := below_iterAt hbw (k := w1.heap.size) (by omega) s (pos + (Utf8.decode s pos).2)
      have hI2 := hI.iterAt hit (pos + (Utf8.decode s pos).2)
      have hit2 := iterAt_heap wr w1.heap.size s pos (pos + (Utf8.decode s pos).2) hit
      have hsz2 : w1.heap.size < (wr.iterAt w1.heap.size s (pos + (Utf8.decode s pos).2)).heap.size := by rw [iterAt_size]; omega
      have HP : Hid (wr.iterPos w1.heap.size = pos) := iterPos_of' hit
      have hne : s.data.toList.drop pos ≠ [] := by
        intro e
        have := congrArg List.length e
        rw [List.length_drop, ← size_data] at this
        simp at this
        omega
      have hA2 := HA.out
      rw [quoL_step f _ hne, ← List.append_assoc] at hA2
      have hpl := pieceL_len (s.data.toList.drop pos)
      have hdd : (dec (s.data.toList.drop pos)).2 = (Utf8.decode s pos).2 := by rw [decode_dec]
      rw [hdd, List.drop_drop] at hA2
      obtain ⟨pc, hpc⟩ : ∃ pc, pieceL (s.data.toList.drop pos) = pc := ⟨_, rfl⟩
      rw [hpc] at hA2 hpl
      have HPC : Hid (pieceL (s.data.toList.drop pos) = pc) := hpc
      have HBR : Hid (brk s pos ((Utf8.decode s pos).1 : Int) = brkL (s.data.toList.drop pos)) := brk_brkL s pos
      have HDR : Hid ((Utf8.decode s pos).1 = (dec (s.data.toList.drop pos)).1) := by show _ = _; rw [decode_dec]
      have HBY : Hid (∀ h, (s[pos]'h).toNat = at0 (s.data.toList.drop pos) 0) := byteAt0 s pos
      have hb0 : at0 (s.data.toList.drop pos) 0 < 256 := at0_lt _ _
      clear hpc hdd hne HA
      have HA3 : Hid (acc ++ pc ++ quoL f (List.drop (pos + (Utf8.decode s pos).2) s.data.toList) = quoL s.size s.data.toList) := hA2
      clear hA2
      generalize hW : wr.iterAt w1.heap.size s (pos + (Utf8.decode s pos).2) = W2 at *
      clear hW hI hit hbw
      generalize (Utf8.decode s pos).1 = r at *
      generalize (Utf8.decode s pos).2 = wd at *
      have hd2 : Deb W2 := hd.below hbw2
      go_wp2_with fail
      refine (broken_any s pos r _ (by omega)).mono ?_
      rintro e w' ⟨rfl, rfl⟩
      rw [HBR.out]
      cases hbk : brkL (s.data.toList.drop pos) with
      | true =>
        have HQ : Hid (pc = [92, 120] ++ hexL (at0 (s.data.toList.drop pos) 0)) := by
          show _ = _
          rw [← HPC.out, pieceL, if_pos hbk]
        clear hbk
        go_wp2_with fail
        rw [HBY.out]
        refine (quotedByte_any _ (by omega) _ hd2).mono ?_
        rintro e w3 ⟨rfl, hb3⟩
        rw [show (⟨(92 :: 120 :: hexL (at0 (s.data.toList.drop pos) 0)).toArray⟩ : ByteArray) = ⟨pc.toArray⟩ by rw [HQ.out]; rfl]
        have hI3 := builder_keep hI2 hb3
        have hit3 : w3.heap[w1.heap.size]? = some (.stringIter s (pos + wd)) := (hb3.block _ hsz2).trans hit2
        have hbw3 := hbw2.trans (hb3.mono hbw2.size)
        have hsz3 : w1.heap.size < w3.heap.size := by have := hb3.size; omega
        clear hI2 hit2 hbw2 hb3 hsz2
        have hcz : (Lib.byteCells ([34] ++ acc)).length ≤ 10 * pos + 1 := by rw [Lib.byteCells_length]; simp; omega
        go_wp2_with fail
        refine (writeString_any w.heap.size w.heap.size _ _ _ hI3 (by rw [sizeL]; omega) (by omega)).mono ?_
        rintro e w4 ⟨rfl, h4, b4, k4⟩
        have hit4 := k4.iter hit3 (by omega)
        rw [strL, ← Lib.byteCells_append, List.append_assoc] at h4
        have hb4 := hbw3.trans b4
        clear hI3 hit3 hbw3 b4 k4
        go_wp2_with fail
        refine ⟨⟨pos + wd, f, acc ++ pc, .inr h4, hit4, hb4, by omega, by omega, by rw [List.length_append]; omega, HA3⟩, ?_⟩
        rw [HP.out, iterPos_of' hit4]
        omega
      | false =>
        have HQ : Hid (pc = qR r) := by
          show _ = _
          rw [← HPC.out, pieceL, if_neg (by rw [hbk]; decide), HDR.out]
        clear hbk
        go_wp2_with fail
        refine (quotedRune_any r hr0 _ hd2).mono ?_
        rintro e w3 ⟨rfl, hb3⟩
        rw [← HQ.out]
        have hI3 := builder_keep hI2 hb3
        have hit3 : w3.heap[w1.heap.size]? = some (.stringIter s (pos + wd)) := (hb3.block _ hsz2).trans hit2
        have hbw3 := hbw2.trans (hb3.mono hbw2.size)
        have hsz3 : w1.heap.size < w3.heap.size := by have := hb3.size; omega
        clear hI2 hit2 hbw2 hb3 hsz2
        have hcz : (Lib.byteCells ([34] ++ acc)).length ≤ 10 * pos + 1 := by rw [Lib.byteCells_length]; simp; omega
        go_wp2_with fail
        refine (writeString_any w.heap.size w.heap.size _ _ _ hI3 (by rw [sizeL]; omega) (by omega)).mono ?_
        rintro e w4 ⟨rfl, h4, b4, k4⟩
        have hit4 := k4.iter hit3 (by omega)
        rw [strL, ← Lib.byteCells_append, List.append_assoc] at h4
        have hb4 := hbw3.trans b4
        clear hI3 hit3 hbw3 b4 k4
        go_wp2_with fail
        refine ⟨⟨pos + wd, f, acc ++ pc, .inr h4, hit4, hb4, by omega, by omega, by rw [List.length_append]; omega, HA3⟩, ?_⟩
        rw [HP.out, iterPos_of' hit4]
        omega
    · have hps2 : pos = s.size := by omega
      subst hps2
      have hA2 := HA.out
      rw [List.drop_eq_nil_of_le (by rw [← size_data]; omega), quoL_end, List.append_nil] at hA2
      have HA2 : Hid (acc = quoL s.size s.data.toList) := hA2
      clear hA2 HA
      have hnx : ∀ ty, (Instr.next (.pointer (some ⟨w1.heap.size, 0, none⟩)) true ty).run Tryd.prog wr = _ := fun ty => run_next_end_at wr w1.heap.size s s.size ty hit hp
      go_wp2_with fail
      refine (writeByte_any w.heap.size w.heap.size _ 34 _ hI (by rw [Lib.byteCells_length]; simp; omega) (by omega)).mono ?_
      rintro e w2 ⟨rfl, h2, b2, _⟩
      have hb2 := hbw.trans b2
      have h2' : Lib.IsBuilderF 79 5 w.heap.size w.heap.size (Lib.byteCells (quoted s)) w2 := .inr (by
        have e : Lib.byteCells (quoted s) = Lib.byteCells ([34] ++ acc) ++ [.int .u8 34] := by
          unfold quoted; rw [Lib.byteCells_append, ← HA2.out]; rfl
        rw [e]; exact h2)
      have hsz2 := hb2.size
      clear h2 b2 hI hit hbw hnx
      go_wp2_with fail
      refine (Tryd.Builder_String_any_k w.heap.size w.heap.size (quoted s) _ h2' (by omega)).mono ?_
      rintro e w3 ⟨rfl, _, b3, _⟩
      have hb3 := hb2.trans b3
      clear b3 h2' hb2
      go_wp2_with fail
      go_ret
      exact ⟨rfl, hb3⟩
end Go.Proofs.YtnbedohlgghhdaaDoor
