import Derived.Test.YtfnpmncmceocdaaDoorUtf
namespace Go.Proofs.YtfnpmncmceocdaaDoor

theorem extract_list (s : ByteArray) (i j : Nat) : (s.extract i j).data.toList = (s.data.toList.take j).drop i := by
  rw [ByteArray.data_extract, Array.toList_extract, List.extract_eq_take_drop, List.drop_take]
theorem extract_rest (s : ByteArray) (i : Nat) : (s.extract i s.size).data.toList = s.data.toList.drop i := by
  rw [extract_list, size_data, List.take_length]

theorem pre_take (s : ByteArray) (pos : Nat) : pre (s.extract pos s.size) ef = ((s.data.toList.drop pos).take 3 == [239, 191, 189]) := by
  have e3 : ef.size = 3 := rfl
  have e6 : ef.toList = [239, 191, 189] := by rw [Go.ByteArray.toList_eq]; rfl
  have e7 : ((s.extract pos s.size).extract 0 3).toList = (s.data.toList.drop pos).take 3 := by
    rw [Go.ByteArray.toList_eq, extract_list, extract_rest]; rfl
  have e8 : (s.extract pos s.size).size = (s.data.toList.drop pos).length := by rw [size_data, extract_rest]
  unfold pre
  rw [e3, e6, e7, e8]
  split
  · rfl
  · rw [eq_comm, beq_eq_false_iff_ne]
    intro e
    have := congrArg List.length e
    simp at this
    simp at *
    omega

theorem brk_brkL (s : ByteArray) (pos : Nat) : brk s pos ((Utf8.decode s pos).1 : Int) = brkL (s.data.toList.drop pos) := by
  unfold brk brkL
  rw [decode_dec, pre_take]
  by_cases h : (dec (s.data.toList.drop pos)).1 = 65533
  · rw [if_pos h, if_pos (by rw [h]; rfl)]
  · rw [if_neg h, if_neg (fun e => h (by omega))]

theorem bad_no {l : List UInt8} (h : bad l) : brkL l = true ∨ (brkL l = false ∧ okRune (dec l).1 = false) := by
  obtain ⟨_, h | h⟩ := h
  · exact .inl h
  · cases e : brkL l with
    | true => exact .inl rfl
    | false => exact .inr ⟨rfl, h⟩

theorem brkL_enc (r : Int) (hv : Utf8.valid r = true) (t : List UInt8) : brkL (encB r ++ t) = false := by
  unfold brkL
  rw [dec_enc r hv t]
  obtain ⟨h0, _, _⟩ := valid_le hv
  by_cases h : r.toNat = 65533
  · have : r = 65533 := by omega
    subst this
    rw [show encB 65533 = [239, 191, 189] by decide]
    rfl
  · rw [if_neg h]

theorem chk_run (s : ByteArray) (rest : List UInt8) (hr : rest = [] ∨ bad rest) : ∀ (rs : List Int) (b pos n : Nat), s.data.toList.drop pos = encs rs ++ rest → (∀ r ∈ rs, okR r) → pos ≤ s.size → s.size ≤ pos + b →
    chk s b pos n = if rest = [] then (((n + rs.length : Nat) : Int), 0, 0) else (0, ((pos + (encs rs).length : Nat) : Int), faultOf rest)
  | [], b, pos, n, hd, _, hp, hb => by
    have hd' : s.data.toList.drop pos = rest := hd
    by_cases h0 : rest = []
    · have hl : ¬ pos < s.size := by
        have := congrArg List.length hd'
        rw [h0, List.length_drop, ← size_data] at this
        simp at this
        omega
      rw [chk_end s b pos n hl, if_pos h0]
      rfl
    · have hb0 := hr.resolve_left h0
      have hl : pos < s.size := by
        have := congrArg List.length hd'
        rw [List.length_drop, ← size_data] at this
        have := List.length_pos_iff.2 h0
        omega
      obtain ⟨b, rfl⟩ : ∃ b', b = b' + 1 := ⟨b - 1, by omega⟩
      rw [if_neg h0]
      simp only [chk, if_pos hl, brk_brkL]
      simp only [decode_dec, hd']
      rcases bad_no hb0 with h | ⟨h, h'⟩
      · rw [if_pos h]
        simp [faultOf, h, encs]
      · rw [h, if_neg (by simp), h', if_neg (by simp)]
        simp [faultOf, h, encs]
  | r :: rs, b, pos, n, hd, ha, hp, hb => by
    obtain ⟨hv, hok⟩ := ha r (List.mem_cons_self ..)
    have hv0 := valid_le hv
    rw [encs_cons, List.append_assoc] at hd
    have hlen := encB_pos r
    have hl : pos + (encB r).length ≤ s.size := by
      have := congrArg List.length hd
      rw [List.length_drop, ← size_data, List.length_append] at this
      omega
    obtain ⟨b, rfl⟩ : ∃ b', b = b' + 1 := ⟨b - 1, by omega⟩
    simp only [chk, if_pos (show pos < s.size by omega), brk_brkL]
    simp only [decode_dec, hd, brkL_enc r hv, dec_enc r hv]
    have e : ((r.toNat : Nat) : Int) = r := by omega
    rw [if_neg (by simp), e, hok, if_pos rfl]
    have hd2 : s.data.toList.drop (pos + (encB r).length) = encs rs ++ rest := by
      rw [← List.drop_drop, hd, List.drop_left]
    rw [chk_run s rest hr rs b (pos + (encB r).length) (n + 1) hd2 (fun x hx => ha x (List.mem_cons_of_mem _ hx)) hl (by omega)]
    simp only [encs_cons, List.length_cons, List.length_append]
    split
    · congr 2; omega
    · congr 3; omega

/-- WHAT CHECK ANSWERS, BY WHAT THE STRING IS. -/
theorem check_text (s : ByteArray) (rs : List Int) (h : s.data.toList = encs rs) (ha : ∀ r ∈ rs, okR r) : check s = ((rs.length : Int), 0, 0) := by
  have := chk_run s [] (.inl rfl) rs s.size 0 0 (by rw [List.drop_zero, h, List.append_nil]) ha (by omega) (by omega)
  unfold check
  rw [this, if_pos rfl, Nat.zero_add]
theorem check_fault (s : ByteArray) (rs : List Int) (rest : List UInt8) (h : s.data.toList = encs rs ++ rest) (ha : ∀ r ∈ rs, okR r) (hr : bad rest) : check s = (0, ((encs rs).length : Int), faultOf rest) := by
  have := chk_run s rest (.inr hr) rs s.size 0 0 (by rw [List.drop_zero, h]) ha (by omega) (by omega)
  unfold check
  rw [this, if_neg hr.1, Nat.zero_add]
theorem faultOf_pos (l : List UInt8) : faultOf l = 10 ∨ faultOf l = 11 := by
  unfold faultOf; split
  · exact .inl rfl
  · exact .inr rfl
/-- the two ways -/
theorem check_split (s : ByteArray) : (∃ rs, s.data.toList = encs rs ∧ (∀ r ∈ rs, okR r) ∧ check s = ((rs.length : Int), 0, 0)) ∨
    (∃ rs rest, s.data.toList = encs rs ++ rest ∧ (∀ r ∈ rs, okR r) ∧ bad rest ∧ check s = (0, ((encs rs).length : Int), faultOf rest)) := by
  obtain ⟨rs, rest, e, ha, hr⟩ := split_text _ s.data.toList (Nat.le_refl _)
  rcases hr with rfl | hr
  · rw [List.append_nil] at e
    exact .inl ⟨rs, e, ha, check_text s rs e ha⟩
  · exact .inr ⟨rs, rest, e, ha, hr, check_fault s rs rest e ha hr⟩
end Go.Proofs.YtfnpmncmceocdaaDoor
