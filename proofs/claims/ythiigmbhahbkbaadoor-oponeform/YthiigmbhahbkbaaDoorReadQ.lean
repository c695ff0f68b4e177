import Derived.Test.YthiigmbhahbkbaaDoorEsc2
namespace Go.Proofs.YthiigmbhahbkbaaDoor
open Go.RowKit Go.Lib

theorem byteAt1 (s : ByteArray) (h : 1 < s.size) : ∀ h', (s[1]'h').toNat = at0 s.data.toList 1 := by
  intro h'
  have h2 : 1 < s.data.size := h
  have e : s[1]'h' = s.data[1]'h2 := rfl
  rw [e]
  unfold at0
  rw [List.getD_eq_getElem?_getD, Array.getElem?_toList, Array.getElem?_eq_getElem h2]
  rfl
theorem ext12 (s : ByteArray) (h : 1 < s.size) : s.extract 1 2 = ⟨[UInt8.ofNat (at0 s.data.toList 1)].toArray⟩ := by
  have h2 : (s.extract 1 2).data.toList = [UInt8.ofNat (at0 s.data.toList 1)] := by
    rw [ext_list]
    have h3 : 1 < s.data.toList.length := by rw [← size_data]; exact h
    match hl : s.data.toList, h3 with
    | a :: b :: t, _ =>
      show [b] = [UInt8.ofNat b.toNat]
      simp
  apply ByteArray.ext
  apply Array.toList_inj.1
  rw [h2]
theorem encB_most (r : Int) : (encB r).length ≤ 4 := by
  rw [encB_is, ← size_data]
  exact encode_size_le _
/-- What an escape means, and its width. -/
def escL (l : List UInt8) : List UInt8 × Nat :=
  if l.length < 2 then ([], 0) else if at0 l 1 = 34 then ([34], 2) else if at0 l 1 = 92 then ([92], 2) else if at0 l 1 = 110 then ([10], 2) else if at0 l 1 = 116 then ([9], 2)
  else if at0 l 1 = 120 then byteL2 l else if at0 l 1 = 117 then runeL2 l else ([], 0)
theorem byteL2_len (l : List UInt8) : (byteL2 l).1.length ≤ 4 ∧ (byteL2 l).2 ≤ l.length := by
  unfold byteL2
  split
  · simp
  · split <;> simp <;> omega
theorem runeL2_len (l : List UInt8) : (runeL2 l).1.length ≤ 4 ∧ (runeL2 l).2 ≤ l.length := by
  unfold runeL2
  split
  · simp
  · rename_i h0
    split
    · simp
    · split
      · simp
      · split
        · simp
        · split
          · rename_i v _ _
            have h1 := index_lt l 125
            have hb := encB_most (v : Int)
            generalize encB (v : Int) = bs at *
            exact ⟨hb, by simp; omega⟩
          · simp
theorem escL_len (l : List UInt8) : (escL l).1.length ≤ 4 ∧ (escL l).2 ≤ l.length := by
  unfold escL
  split
  · simp
  · split
    · simp; omega
    · split
      · simp; omega
      · split
        · simp; omega
        · split
          · simp; omega
          · split
            · exact byteL2_len l
            · split
              · exact runeL2_len l
              · simp

set_option maxHeartbeats 2000000 in
set_option maxRecDepth 100000 in
theorem readEscape_any (s : ByteArray) (hs : s.size ≤ 1099511627776) (w : World) (he : Errs w) :
    Calls Tryd.prog 122 #[.string s] w fun e w' => e = .returned (.tuple #[.string ⟨(escL s.data.toList).1.toArray⟩, .int .i64 (escL s.data.toList).2]) ∧ Below w.heap.size w w' := by
  have HSZ : Hid (s.size = s.data.toList.length) := size_data s
  by_cases h2 : s.size < 2
  · have HB : Hid (escL s.data.toList = ([], 0)) := by
      show _ = _
      unfold escL
      rw [if_pos (by rw [← HSZ.out]; exact h2)]
    go_enter Tryd.func122, Tryd.ntmps122
    go_wp2_with fail
    go_ret2
    rw [HB.out]
    exact ⟨rfl, Below.refl _ _⟩
  have hby := byteAt1 s (by omega)
  have hx12 := ext12 s (by omega)
  have hu : escL s.data.toList = if at0 s.data.toList 1 = 34 then ([34], 2) else if at0 s.data.toList 1 = 92 then ([92], 2) else if at0 s.data.toList 1 = 110 then ([10], 2) else if at0 s.data.toList 1 = 116 then ([9], 2)
      else if at0 s.data.toList 1 = 120 then byteL2 s.data.toList else if at0 s.data.toList 1 = 117 then runeL2 s.data.toList else ([], 0) := by
    show escL _ = _
    unfold escL
    rw [if_neg (by rw [← HSZ.out]; exact h2)]
  have hb0 := at0_lt s.data.toList 1
  obtain ⟨c, hc⟩ : ∃ c, at0 s.data.toList 1 = c := ⟨_, rfl⟩
  rw [hc] at hby hx12 hu hb0
  clear hc
  by_cases k1 : c = 34
  · subst k1
    have HB : Hid (escL s.data.toList = ([34], 2)) := hu
    clear hu
    go_enter Tryd.func122, Tryd.ntmps122
    go_wp2_with fail
    go_ret2
    rw [HB.out]
    exact ⟨rfl, Below.refl _ _⟩
  have t1 : ((c : Int) == 34) = false := beq_eq_false_iff_ne.2 (by omega)
  rw [if_neg k1] at hu
  by_cases k2 : c = 92
  · subst k2
    have HB : Hid (escL s.data.toList = ([92], 2)) := hu
    clear hu
    go_enter Tryd.func122, Tryd.ntmps122
    go_wp2_with fail
    go_ret2
    rw [HB.out]
    exact ⟨rfl, Below.refl _ _⟩
  have t2 : ((c : Int) == 92) = false := beq_eq_false_iff_ne.2 (by omega)
  rw [if_neg k2] at hu
  by_cases k3 : c = 110
  · subst k3
    have HB : Hid (escL s.data.toList = ([10], 2)) := hu
    clear hu
    go_enter Tryd.func122, Tryd.ntmps122
    go_wp2_with fail
    go_ret2
    rw [HB.out]
    exact ⟨rfl, Below.refl _ _⟩
  have t3 : ((c : Int) == 110) = false := beq_eq_false_iff_ne.2 (by omega)
  rw [if_neg k3] at hu
  by_cases k4 : c = 116
  · subst k4
    have HB : Hid (escL s.data.toList = ([9], 2)) := hu
    clear hu
    go_enter Tryd.func122, Tryd.ntmps122
    go_wp2_with fail
    go_ret2
    rw [HB.out]
    exact ⟨rfl, Below.refl _ _⟩
  have t4 : ((c : Int) == 116) = false := beq_eq_false_iff_ne.2 (by omega)
  rw [if_neg k4] at hu
  by_cases k5 : c = 120
  · subst k5
    have HB : Hid (escL s.data.toList = byteL2 s.data.toList) := hu
    clear hu
    go_enter Tryd.func122, Tryd.ntmps122
    go_wp2_with fail
    refine (readByte_any s hs _ he).mono ?_
    rintro e w1 ⟨rfl, hb1⟩
    go_wp2_with fail
    go_ret2
    rw [HB.out]
    exact ⟨rfl, hb1⟩
  have t5 : ((c : Int) == 120) = false := beq_eq_false_iff_ne.2 (by omega)
  rw [if_neg k5] at hu
  by_cases k6 : c = 117
  · subst k6
    have HB : Hid (escL s.data.toList = runeL2 s.data.toList) := hu
    clear hu
    go_enter Tryd.func122, Tryd.ntmps122
    go_wp2_with fail
    refine (readRune_any s hs _ he).mono ?_
    rintro e w1 ⟨rfl, hb1⟩
    go_wp2_with fail
    go_ret2
    rw [HB.out]
    exact ⟨rfl, hb1⟩
  have t6 : ((c : Int) == 117) = false := beq_eq_false_iff_ne.2 (by omega)
  rw [if_neg k6] at hu
  have HB : Hid (escL s.data.toList = ([], 0)) := hu
  clear hu
  go_enter Tryd.func122, Tryd.ntmps122
  go_wp2_with fail
  go_ret2
  rw [HB.out]
  exact ⟨rfl, Below.refl _ _⟩
/-- What a quoted form that opens a row of bytes would mean, and how many bytes it is. -/
def rdL : Nat → List UInt8 → List UInt8 → Nat → Option (List UInt8 × Nat)
  | 0, _, _, _ => none
  | f + 1, acc, l, n => if l = [] then none else if at0 l 0 = 34 then some (acc, n + 1)
    else if at0 l 0 = 92 then (if (escL l).2 = 0 then none else rdL f (acc ++ (escL l).1) (l.drop (escL l).2) (n + (escL l).2))
    else rdL f (acc ++ [UInt8.ofNat (at0 l 0)]) (l.drop 1) (n + 1)
def readL (l : List UInt8) : Option (List UInt8 × Nat) := if l.take 1 = [34] then rdL l.length [] (l.drop 1) 1 else none
theorem rdL_end (f : Nat) (acc : List UInt8) (n : Nat) : rdL f acc [] n = none := by
  cases f
  · rfl
  · rw [rdL, if_pos rfl]
theorem pre_q (s : ByteArray) : pre s ⟨#[34]⟩ = decide (s.data.toList.take 1 = [34]) := by
  have e3 : (⟨#[34]⟩ : ByteArray).size = 1 := rfl
  have e6 : (⟨#[34]⟩ : ByteArray).toList = [34] := by rw [Go.ByteArray.toList_eq]
  have e7 : (s.extract 0 1).toList = s.data.toList.take 1 := by
    rw [Go.ByteArray.toList_eq, extract_list]; rfl
  have e8 : s.size = s.data.toList.length := size_data s
  unfold pre
  rw [e3, e6, e7, e8]
  split
  · exact Bool.eq_iff_iff.2 (by simp)
  · rename_i h
    rw [eq_comm, decide_eq_false_iff_not]
    intro e
    have := congrArg List.length e
    rw [List.length_take, List.length_singleton] at this
    omega

set_option maxHeartbeats 4000000 in
set_option maxRecDepth 100000 in
theorem readQuoted_any (s : ByteArray) (hs : s.size ≤ 1099511627776) (w : World) (he : Errs w) :
    Calls Tryd.prog 107 #[.string s] w fun e w' => Below w.heap.size w w' ∧
      ((∃ x n, readL s.data.toList = some (x, n) ∧ n ≤ s.size ∧ x.length ≤ 4 * s.size ∧ e = .returned (.tuple #[.string ⟨x.toArray⟩, .int .i64 (n : Nat), .bool true])) ∨
       (readL s.data.toList = none ∧ e = .returned (.tuple #[.string ⟨#[]⟩, .int .i64 0, .bool false]))) := by
  have HSZ : Hid (s.size = s.data.toList.length) := size_data s
  have HP : Hid (pre s ⟨#[34]⟩ = decide (s.data.toList.take 1 = [34])) := pre_q s
  by_cases hq : s.data.toList.take 1 = [34]
  · rw [decide_eq_true hq] at HP
    have HR : Hid (readL s.data.toList = rdL s.data.toList.length [] (s.data.toList.drop 1) 1) := by
      show _ = _
      unfold readL
      rw [if_pos hq]
    have h1s : 1 ≤ s.size := by
      rw [HSZ.out]
      have := congrArg List.length hq
      rw [List.length_take, List.length_singleton] at this
      omega
    clear hq
    go_enter Tryd.func107, Tryd.ntmps107
    go_wp2_with fail
    refine (hasPrefix_any _ _ _).mono ?_
    rintro e w1 ⟨rfl, rfl⟩
    rw [HP.out]
    go_wp2_with fail
    have hI0 : Lib.IsBuilderF 124 5 w1.heap.size w1.heap.size (Lib.byteCells []) _ := Lib.IsBuilderF.of (Lib.fresh_isBuilder 124 5 w1)
    go_loopw [6, 7, 8] (fun i _ _ wr => ∃ (pos f : Nat) (acc : List UInt8), i = .int .i64 pos ∧ Lib.IsBuilderF 124 5 w1.heap.size w1.heap.size (Lib.byteCells acc) wr ∧ Below w1.heap.size w1 wr ∧ w1.heap.size < wr.heap.size ∧ pos ≤ s.size ∧ s.size ≤ pos + f ∧ acc.length ≤ 4 * pos ∧ Hid (rdL f acc (s.data.toList.drop pos) pos = readL s.data.toList)) (fun i _ _ _ => s.size - (RowKit.intOf i).toNat)
    case atStart => exact ⟨1, s.size, [], rfl, hI0, (Below.refl _ _).alloc (Nat.le_refl _) _, by simp, h1s, by omega, by simp, by rw [HR.out, ← HSZ.out]; rfl⟩
    case round =>
      clear hI0
      obtain ⟨pos, f, acc, rfl, hI, hb, hlt, hps, hpf, hal, HA⟩ := hrel
      have her := he.below hb
      have hbs := hb.size
      by_cases hp : pos < s.size
      · obtain ⟨f, rfl⟩ : ∃ f', f = f' + 1 := ⟨f - 1, by omega⟩
        have hne : s.data.toList.drop pos ≠ [] := by
          intro e
          have := congrArg List.length e
          rw [List.length_drop, ← size_data] at this
          simp at this
          omega
        have hA2 := HA.out
        rw [rdL, if_neg hne] at hA2
        have hby : ∀ h, (s[pos]'h).toNat = at0 (s.data.toList.drop pos) 0 := byteAt0 s pos
        have hb0 := at0_lt (s.data.toList.drop pos) 0
        have HX : Hid ((s.extract pos s.size).data.toList = s.data.toList.drop pos) := extract_rest s pos
        have hxs : (s.extract pos s.size).size ≤ 1099511627776 := by rw [ByteArray.size_extract]; omega
        have hel := escL_len (s.data.toList.drop pos)
        rw [List.length_drop, ← HSZ.out, List.drop_drop, List.drop_drop] at *
        obtain ⟨c, hc⟩ : ∃ c, at0 (s.data.toList.drop pos) 0 = c := ⟨_, rfl⟩
        rw [hc] at hA2 hby hb0
        clear hc hne HA
        have hac : (Lib.byteCells acc).length ≤ 4 * pos := by rw [Lib.byteCells_length]; exact hal
        by_cases k1 : c = 34
        · subst k1
          rw [if_pos rfl] at hA2
          have HA : Hid (readL s.data.toList = some (acc, pos + 1)) := hA2.symm
          clear hA2
          go_wp2_with fail
          refine (Tryd.Builder_String_any_k w1.heap.size w1.heap.size acc _ hI (by omega)).mono ?_
          rintro e w3 ⟨rfl, _, b3, _⟩
          have hb3 := hb.trans b3
          clear b3 hI
          go_wp2_with fail
          go_ret3
          exact ⟨hb3, .inl ⟨acc, pos + 1, HA.out, by omega, by omega, rfl⟩⟩
        · rw [if_neg k1] at hA2
          have t1 : ((c : Int) == 34) = false := beq_eq_false_iff_ne.2 (by omega)
          by_cases k2 : c = 92
          · subst k2
            rw [if_pos rfl] at hA2
            clear t1
            have HEX : Hid (escL (s.extract pos s.size).data.toList = escL (s.data.toList.drop pos)) := by show _ = _; rw [HX.out]
            obtain ⟨⟨ep, ew⟩, hee⟩ : ∃ d, escL (s.data.toList.drop pos) = d := ⟨_, rfl⟩
            rw [hee] at hA2 hel HEX
            simp only at hA2 hel
            clear hee
            by_cases hw0 : ew = 0
            · subst hw0
              rw [if_pos rfl] at hA2
              have HA : Hid (readL s.data.toList = none) := hA2.symm
              clear hA2
              go_wp2_with fail
              refine (readEscape_any _ hxs _ her).mono ?_
              rintro e w3 ⟨rfl, hb3⟩
              rw [HEX.out]
              have hB3 := hb.trans (hb3.mono hb.size)
              go_wp2_with fail
              go_ret3
              exact ⟨hB3, .inr ⟨HA.out, rfl⟩⟩
            · rw [if_neg hw0] at hA2
              have HA : Hid (rdL f (acc ++ ep) (List.drop (pos + ew) s.data.toList) (pos + ew) = readL s.data.toList) := hA2
              clear hA2
              have t0 : ((ew : Int) == 0) = false := beq_eq_false_iff_ne.2 (by omega)
              go_wp2_with fail
              refine (readEscape_any _ hxs _ her).mono ?_
              rintro e w3 ⟨rfl, hb3⟩
              rw [HEX.out]
              have hI3 := builder_keep hI hb3
              have hB3 := hb.trans (hb3.mono hb.size)
              have hs3 := hb3.size
              clear hb3 hI hb
              go_wp2_with fail
              refine (writeString_any w1.heap.size w1.heap.size _ _ _ hI3 (by rw [sizeL]; omega) (by omega)).mono ?_
              rintro e w4 ⟨rfl, h4, b4, _⟩
              rw [strL, ← Lib.byteCells_append] at h4
              have hB4 := hB3.trans b4
              have hs4 := b4.size
              clear hI3 b4 hB3
              go_wp2_with fail
              go_roundw
              case rel => exact ⟨pos + ew, f, acc ++ ep, by go_num, .inr h4, hB4, by omega, by omega, by omega, by rw [List.length_append]; omega, HA⟩
              case measure => simp [RowKit.intOf]; omega
          · rw [if_neg k2] at hA2
            have t2 : ((c : Int) == 92) = false := beq_eq_false_iff_ne.2 (by omega)
            have HA : Hid (rdL f (acc ++ [UInt8.ofNat c]) (List.drop (pos + 1) s.data.toList) (pos + 1) = readL s.data.toList) := hA2
            have HC : Hid (Lib.byteCells acc ++ [Value.int .u8 (c : Int)] = Lib.byteCells (acc ++ [UInt8.ofNat c])) := by
              show _ = _
              rw [Lib.byteCells_append]
              simp [Lib.byteCells, ofNat_toNat c (by omega)]
            clear hA2
            go_wp2_with fail
            refine (writeByte_any w1.heap.size w1.heap.size _ c _ hI (by omega) (by omega)).mono ?_
            rintro e w4 ⟨rfl, h4, b4, _⟩
            rw [HC.out] at h4
            have hB4 := hb.trans b4
            have hs4 := b4.size
            clear hI b4 hb
            go_wp2_with fail
            go_roundw
            case rel => exact ⟨pos + 1, f, acc ++ [UInt8.ofNat c], by go_num, .inr h4, hB4, by omega, by omega, by omega, by rw [List.length_append]; simp; omega, HA⟩
            case measure => simp [RowKit.intOf]; omega
      · have hA2 := HA.out
        rw [List.drop_eq_nil_of_le (by rw [← HSZ.out]; omega), rdL_end] at hA2
        have HN : Hid (readL s.data.toList = none) := hA2.symm
        clear hA2 HA
        go_wp2_with fail
        go_ret3
        exact ⟨hb, .inr ⟨HN.out, rfl⟩⟩
  · rw [decide_eq_false hq] at HP
    have HR : Hid (readL s.data.toList = none) := by
      show _ = _
      unfold readL
      rw [if_neg hq]
    clear hq
    go_enter Tryd.func107, Tryd.ntmps107
    go_wp2_with fail
    refine (hasPrefix_any _ _ _).mono ?_
    rintro e w1 ⟨rfl, rfl⟩
    rw [HP.out]
    go_wp2_with fail
    go_ret3
    exact ⟨Below.refl _ _, .inr ⟨HR.out, rfl⟩⟩
end Go.Proofs.YthiigmbhahbkbaaDoor
