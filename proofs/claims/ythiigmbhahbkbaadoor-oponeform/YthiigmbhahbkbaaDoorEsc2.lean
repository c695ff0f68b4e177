import Derived.Test.YthiigmbhahbkbaaDoorEsc
namespace Go.Proofs.YthiigmbhahbkbaaDoor
open Go.RowKit Go.Lib

theorem ext_list (s : ByteArray) (i j : Nat) : (s.extract i j).data.toList = (s.data.toList.take j).drop i := by
  rw [ByteArray.data_extract, Array.toList_extract]
  simp [List.extract, List.drop_take]

theorem pu_le {mx : Nat} : ∀ {l : List UInt8} {n v : Nat}, pu mx n l = some v → n ≤ mx → v ≤ mx
  | [], n, v, h, hn => by
    simp [pu] at h
    omega
  | c :: t, n, v, h, hn => by
    rw [pu] at h
    split at h
    · simp at h
    · split at h
      · rename_i h2
        exact pu_le h h2
      · simp at h
/-- What an escape that opens a row of bytes means, and its width; a width of 0: it is none. -/
def byteL2 (l : List UInt8) : List UInt8 × Nat :=
  if l.length < 4 then ([], 0) else match pu 255 0 ((l.take 4).drop 2) with
    | some v => ([UInt8.ofNat v], 4)
    | none => ([], 0)
set_option maxHeartbeats 1000000 in
set_option maxRecDepth 100000 in
theorem readByte_any (s : ByteArray) (hs : s.size ≤ 1099511627776) (w : World) (he : Errs w) :
    Calls Tryd.prog 138 #[.string s] w fun e w' => e = .returned (.tuple #[.string ⟨(byteL2 s.data.toList).1.toArray⟩, .int .i64 (byteL2 s.data.toList).2]) ∧ Below w.heap.size w w' := by
  have HSZ : Hid (s.size = s.data.toList.length) := size_data s
  by_cases h4 : s.size < 4
  · have HB : Hid (byteL2 s.data.toList = ([], 0)) := by
      show _ = _
      unfold byteL2
      rw [if_pos (by rw [← HSZ.out]; exact h4)]
    rw [HB.out]
    go_enter Tryd.func138, Tryd.ntmps138
    go_wp2_with fail
    go_ret2
    exact ⟨rfl, Below.refl _ _⟩
  · have hz : (s.extract 2 4).size = 2 := by rw [ByteArray.size_extract]; omega
    have HX : Hid ((s.extract 2 4).data.toList = (s.data.toList.take 4).drop 2) := ext_list s 2 4
    have hz1 : (s.extract 2 4).size ≤ 1099511627776 := by omega
    have hz2 : 0 < (s.extract 2 4).size := by omega
    clear hz
    go_enter Tryd.func138, Tryd.ntmps138
    go_wp2_with fail
    refine (parse_8 _ hz1 hz2 _ he).mono ?_
    rintro e w1 ⟨x, E, rfl, hb1, ⟨v, hp, rfl, rfl⟩ | ⟨hp, y, rfl, T, v, rfl⟩⟩
    · rw [HX.out] at hp
      have hv : v ≤ 255 := pu_le hp (by decide)
      have HB : Hid (byteL2 s.data.toList = ([UInt8.ofNat v], 4)) := by
        show _ = _
        unfold byteL2
        rw [if_neg (by rw [← HSZ.out]; exact h4), hp]
      clear hp
      have hcv : ∀ T, (convert 122 9 (.slice (some ⟨w1.heap.size, 0, none⟩) 1 1)).run Tryd.prog (w1.alloc (.cells #[.int .u8 (v : Int)] T)) = _ := fun T => conv_arr (l := [UInt8.ofNat v]) (alloc_new w1 _) (by
        have e : (UInt8.ofNat v).toNat = v := ofNat_toNat v (by omega)
        simp [Lib.byteCells, e]) rfl
      have hs1 := hb1.size
      go_wp2_with fail
      go_ret2
      rw [HB.out]
      exact ⟨rfl, hb1.alloc hs1 _⟩
    · rw [HX.out] at hp
      have HB : Hid (byteL2 s.data.toList = ([], 0)) := by
        show _ = _
        unfold byteL2
        rw [if_neg (by rw [← HSZ.out]; exact h4), hp]
      clear hp
      go_wp2_with fail
      go_ret2
      rw [HB.out]
      exact ⟨rfl, hb1⟩
theorem pre_u (s : ByteArray) : pre s ⟨#[92, 117, 123]⟩ = (s.data.toList.take 3 == [92, 117, 123]) := by
  have e3 : (⟨#[92, 117, 123]⟩ : ByteArray).size = 3 := rfl
  have e6 : (⟨#[92, 117, 123]⟩ : ByteArray).toList = [92, 117, 123] := by rw [Go.ByteArray.toList_eq]
  have e7 : (s.extract 0 3).toList = s.data.toList.take 3 := by
    rw [Go.ByteArray.toList_eq, extract_list]; rfl
  have e8 : s.size = s.data.toList.length := size_data s
  unfold pre
  rw [e3, e6, e7, e8]
  split
  · rfl
  · rw [eq_comm, beq_eq_false_iff_ne]
    intro e
    have := congrArg List.length e
    simp at this
    simp at *
    omega
/-- The same of a rune by its number. -/
def runeL2 (l : List UInt8) : List UInt8 × Nat :=
  if Lib.indexByte l 125 < 0 then ([], 0) else if (l.take 3 == [92, 117, 123]) = false then ([], 0) else if Lib.indexByte l 125 = 3 then ([], 0) else
  match pu 2147483647 0 ((l.take (Lib.indexByte l 125).toNat).drop 3) with
    | none => ([], 0)
    | some v => if okV v = true then (encB v, (Lib.indexByte l 125).toNat + 1) else ([], 0)
theorem index_lt (l : List UInt8) (c : UInt8) : Lib.indexByte l c < l.length ∨ Lib.indexByte l c = -1 := by
  induction l with
  | nil => right; rfl
  | cons b l ih =>
    rw [Lib.indexByte]
    split
    · left; simp
    · split
      · right; rfl
      · rename_i h2
        have : Lib.indexByte l c ≠ -1 := by simpa using h2
        left
        rcases ih with h | h
        · simp; omega
        · exact absurd h this
theorem index_prefix (l : List UInt8) (h : l.take 3 = [92, 117, 123]) : 3 ≤ Lib.indexByte l 125 ∨ Lib.indexByte l 125 = -1 := by
  obtain ⟨rest, rfl⟩ := take_of_cons3 h
  have h1 := Lib.indexByte_ge rest 125
  have e : Lib.indexByte (92 :: 117 :: 123 :: rest) 125 = if Lib.indexByte rest 125 == -1 then -1 else Lib.indexByte rest 125 + 1 + 1 + 1 := by
    simp only [Lib.indexByte, show ((92 : UInt8) == 125) = false from rfl, show ((117 : UInt8) == 125) = false from rfl, show ((123 : UInt8) == 125) = false from rfl]
    by_cases h2 : Lib.indexByte rest 125 = -1
    · rw [h2]; rfl
    · have t1 : (Lib.indexByte rest 125 == -1) = false := beq_eq_false_iff_ne.2 h2
      have t2 : (Lib.indexByte rest 125 + 1 == -1) = false := beq_eq_false_iff_ne.2 (by omega)
      have t3 : (Lib.indexByte rest 125 + 1 + 1 == -1) = false := beq_eq_false_iff_ne.2 (by omega)
      simp [t1, t2, t3]
  rw [e]
  split
  · right; rfl
  · rename_i h2
    have : Lib.indexByte rest 125 ≠ -1 := by simpa using h2
    left; omega

theorem size_zero (s : ByteArray) (h : s.size = 0) : (s.toList == []) = true := by
  have h2 : s.toList = s.data.toList := ByteArray.toList_eq _
  have h3 := size_data s
  rw [h] at h3
  have h4 : s.data.toList = [] := List.length_eq_zero_iff.1 h3.symm
  rw [h2, h4]
  rfl
set_option maxHeartbeats 1000000 in
set_option maxRecDepth 100000 in
theorem parse_none (s : ByteArray) (hz : s.size = 0) (w : World) (he : Errs w) :
    Calls Tryd.prog 149 #[.string s, .int .i64 16, .int .i64 31] w fun e w' => ∃ T v, e = .returned (.tuple #[.int .u64 0, .iface T v]) ∧ Below w.heap.size w w' := by
  have ht := size_zero s hz
  have hin : ∀ w, Calls Tryd.prog 147 #[.string s, .int .i64 16, .int .i64 31] w fun e w' => e = .returned (.tuple #[.int .u64 0, .iface 196 (.int .i64 2)]) ∧ w' = w := by
    intro w
    go_enter Tryd.func147, Tryd.ntmps147
    go_wp2_with fail
    go_ret2
    exact ⟨rfl, rfl⟩
  have HIN : Hid (∀ w, Calls Tryd.prog 147 #[.string s, .int .i64 16, .int .i64 31] w fun e w' => e = .returned (.tuple #[.int .u64 0, .iface 196 (.int .i64 2)]) ∧ w' = w) := hin
  clear hin
  have hs : s.size ≤ 1099511627776 := by omega
  clear hz
  go_enter Tryd.func149, Tryd.ntmps149
  go_wp2_with fail
  refine (HIN.out _).mono ?_
  rintro e w1 ⟨rfl, rfl⟩
  go_wp2_with fail
  refine (toError_any _ s _ _ 2 (.inr rfl) hs _ he).mono ?_
  rintro e w2 ⟨T, v, rfl, hb2⟩
  go_wp2_with fail
  go_ret2
  exact ⟨T, v, rfl, hb2⟩

set_option maxHeartbeats 2000000 in
set_option maxRecDepth 100000 in
theorem readRune_any (s : ByteArray) (hs : s.size ≤ 1099511627776) (w : World) (he : Errs w) :
    Calls Tryd.prog 139 #[.string s] w fun e w' => e = .returned (.tuple #[.string ⟨(runeL2 s.data.toList).1.toArray⟩, .int .i64 (runeL2 s.data.toList).2]) ∧ Below w.heap.size w w' := by
  have HSZ : Hid (s.size = s.data.toList.length) := size_data s
  have HP : Hid (pre s ⟨#[92, 117, 123]⟩ = (s.data.toList.take 3 == [92, 117, 123])) := pre_u s
  have hil := index_lt s.data.toList 125
  rw [← HSZ.out] at hil
  by_cases h0 : Lib.indexByte s.data.toList 125 < 0
  · have HB : Hid (runeL2 s.data.toList = ([], 0)) := by
      show _ = _
      unfold runeL2
      rw [if_pos h0]
    obtain ⟨ix, hix⟩ : ∃ ix, Lib.indexByte s.data.toList 125 = ix := ⟨_, rfl⟩
    have HI : Hid (Lib.indexByte s.data.toList 125 = ix) := hix
    rw [hix] at h0
    clear hix hil
    go_enter Tryd.func139, Tryd.ntmps139
    go_wp2_with fail
    refine (indexByte_any s _).mono ?_
    rintro e w1 ⟨rfl, rfl⟩
    rw [HI.out]
    go_wp2_with fail
    go_ret2
    rw [HB.out]
    exact ⟨rfl, Below.refl _ _⟩
  · cases h1 : (s.data.toList.take 3 == [92, 117, 123]) with
    | false =>
      have HB : Hid (runeL2 s.data.toList = ([], 0)) := by
        show _ = _
        unfold runeL2
        rw [if_neg h0, if_pos h1]
      rw [h1] at HP
      obtain ⟨ix, hix⟩ : ∃ ix, Lib.indexByte s.data.toList 125 = ix := ⟨_, rfl⟩
      have HI : Hid (Lib.indexByte s.data.toList 125 = ix) := hix
      rw [hix] at h0
      clear hix hil h1
      go_enter Tryd.func139, Tryd.ntmps139
      go_wp2_with fail
      refine (indexByte_any s _).mono ?_
      rintro e w1 ⟨rfl, rfl⟩
      rw [HI.out]
      go_wp2_with fail
      refine (hasPrefix_any _ _ _).mono ?_
      rintro e w1 ⟨rfl, rfl⟩
      rw [HP.out]
      go_wp2_with fail
      go_ret2
      rw [HB.out]
      exact ⟨rfl, Below.refl _ _⟩
    | true =>
      have h3 := index_prefix _ (by simpa using h1)
      obtain ⟨ix, hix⟩ : ∃ ix : Nat, Lib.indexByte s.data.toList 125 = ix := Int.eq_ofNat_of_zero_le (by omega)
      have HI : Hid (Lib.indexByte s.data.toList 125 = (ix : Int)) := hix
      have hx3 : 3 ≤ ix := by omega
      have hxs : ix < s.size := by omega
      rw [h1] at HP
      by_cases h33 : ix = 3
      · subst h33
        have HB : Hid (runeL2 s.data.toList = ([], 0)) := by
          show _ = _
          unfold runeL2
          rw [if_neg h0, if_neg (by rw [h1]; decide), if_pos (by rw [hix]; rfl)]
        clear hix hil h1 h3 h0
        go_enter Tryd.func139, Tryd.ntmps139
        go_wp2_with fail
        refine (indexByte_any s _).mono ?_
        rintro e w1 ⟨rfl, rfl⟩
        rw [HI.out]
        go_wp2_with fail
        refine (hasPrefix_any _ _ _).mono ?_
        rintro e w1 ⟨rfl, rfl⟩
        rw [HP.out]
        go_wp2_with fail
        refine (parse_none _ rfl _ he).mono ?_
        rintro e w2 ⟨T, v, rfl, hb1⟩
        go_wp2_with fail
        go_ret2
        rw [HB.out]
        exact ⟨rfl, hb1⟩
      · have hz : (s.extract 3 ix).size = ix - 3 := by rw [ByteArray.size_extract]; omega
        have HX : Hid ((s.extract 3 ix).data.toList = (s.data.toList.take ix).drop 3) := ext_list s 3 ix
        have hz1 : (s.extract 3 ix).size ≤ 1099511627776 := by omega
        have hz2 : 0 < (s.extract 3 ix).size := by omega
        clear hz
        have HR : Hid (runeL2 s.data.toList = match pu 2147483647 0 ((s.data.toList.take ix).drop 3) with
            | none => ([], 0)
            | some v => if okV v = true then (encB v, ix + 1) else ([], 0)) := by
          show _ = _
          unfold runeL2
          rw [if_neg h0, if_neg (by rw [h1]; decide), if_neg (by omega), hix]
          rfl
        clear hix hil h1 h3 h0
        go_enter Tryd.func139, Tryd.ntmps139
        go_wp2_with fail
        refine (indexByte_any s _).mono ?_
        rintro e w1 ⟨rfl, rfl⟩
        rw [HI.out]
        go_wp2_with fail
        refine (hasPrefix_any _ _ _).mono ?_
        rintro e w1 ⟨rfl, rfl⟩
        rw [HP.out]
        go_wp2_with fail
        refine (parse_31 _ hz1 hz2 _ he).mono ?_
        rintro e w2 ⟨x, E, rfl, hb1, ⟨v, hp, rfl, rfl⟩ | ⟨hp, y, rfl, T, v, rfl⟩⟩
        · rw [HX.out] at hp
          have hv : v ≤ 2147483647 := pu_le hp (by decide)
          have HB := HR.out
          rw [hp] at HB
          simp only at HB
          clear hp HR
          cases hok : okV (v : Int) with
          | true =>
            rw [if_pos hok] at HB
            have hE := encode_list v
            obtain ⟨bs, hbs⟩ : ∃ bs, encB (v : Int) = bs := ⟨_, rfl⟩
            rw [hbs] at HB hE
            have HB2 : Hid (runeL2 s.data.toList = (bs, ix + 1)) := HB
            clear HB hbs
            have HK : Hid (okV (v : Int) = true) := hok
            have HE : Hid (Utf8.encode (v : Int) = ⟨bs.toArray⟩) := hE
            clear hok hE
            go_wp2_with (go_at_call 151; refine (validRune_any _ (by omega) _).mono ?_; rintro e w3 ⟨rfl, rfl⟩; rw [HK.out])
            go_ret2
            rw [HB2.out]
            rw [HE.out]
            exact ⟨rfl, hb1⟩
          | false =>
            rw [if_neg (by rw [hok]; decide)] at HB
            have HB2 : Hid (runeL2 s.data.toList = ([], 0)) := HB
            clear HB
            have HK : Hid (okV (v : Int) = false) := hok
            clear hok
            go_wp2_with (go_at_call 151; refine (validRune_any _ (by omega) _).mono ?_; rintro e w3 ⟨rfl, rfl⟩; rw [HK.out])
            go_ret2
            rw [HB2.out]
            exact ⟨rfl, hb1⟩
        · rw [HX.out] at hp
          have HB := HR.out
          rw [hp] at HB
          have HB2 : Hid (runeL2 s.data.toList = ([], 0)) := HB
          clear hp HR HB
          go_wp2_with fail
          go_ret2
          rw [HB2.out]
          exact ⟨rfl, hb1⟩
end Go.Proofs.YthiigmbhahbkbaaDoor
