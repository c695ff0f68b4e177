import Derived.Test.YtfakfmmngflbfacGreatDoorRefRow
import Derived.Test.YtfakfmmngflbfacGreatDoorLineWalks
import Derived.Test.YtfakfmmngflbfacGreatDoorIndex
namespace Go.Proofs.YtfakfmmngflbfacGreatDoor
open Go.RowKit Go.Lib

set_option maxHeartbeats 1000000 in
set_option maxRecDepth 100000 in
theorem bytes_1 (r : Int) (h0 : 0 ≤ r) (h1 : r < 128) (w : World) :
    Calls Tryz.prog 34 #[.int .i64 r] w fun e w' => e = .returned (.slice (some ⟨w.heap.size, 0, none⟩) 1 1) ∧ w' = w.alloc (.cells #[.int .u8 r] 5) := by
  go_enter Tryz.func34, Tryz.ntmps34
  go_wp2_with fail
  go_ret
  exact ⟨rfl, rfl⟩
set_option maxHeartbeats 1000000 in
set_option maxRecDepth 100000 in
theorem bytes_2 (r : Int) (h0 : 128 ≤ r) (h1 : r < 2048) (w : World) :
    Calls Tryz.prog 34 #[.int .i64 r] w fun e w' => e = .returned (.slice (some ⟨w.heap.size, 0, none⟩) 2 2) ∧ w' = w.alloc (.cells #[.int .u8 (192 + r / 64), .int .u8 (128 + r % 64)] 5) := by
  go_enter Tryz.func34, Tryz.ntmps34
  go_wp2_with fail
  go_ret
  exact ⟨rfl, rfl⟩
set_option maxHeartbeats 1000000 in
set_option maxRecDepth 100000 in
theorem bytes_3 (r : Int) (h0 : 2048 ≤ r) (h1 : r < 65536) (w : World) :
    Calls Tryz.prog 34 #[.int .i64 r] w fun e w' => e = .returned (.slice (some ⟨w.heap.size, 0, none⟩) 3 3) ∧ w' = w.alloc (.cells #[.int .u8 (224 + r / 4096), .int .u8 (128 + r / 64 % 64), .int .u8 (128 + r % 64)] 5) := by
  go_enter Tryz.func34, Tryz.ntmps34
  go_wp2_with fail
  go_ret
  exact ⟨rfl, rfl⟩
set_option maxHeartbeats 1000000 in
set_option maxRecDepth 100000 in
theorem bytes_4 (r : Int) (h0 : 65536 ≤ r) (h1 : r ≤ 1114111) (w : World) :
    Calls Tryz.prog 34 #[.int .i64 r] w fun e w' => e = .returned (.slice (some ⟨w.heap.size, 0, none⟩) 4 4) ∧ w' = w.alloc (.cells #[.int .u8 (240 + r / 262144), .int .u8 (128 + r / 4096 % 64), .int .u8 (128 + r / 64 % 64), .int .u8 (128 + r % 64)] 5) := by
  go_enter Tryz.func34, Tryz.ntmps34
  go_wp2_with fail
  go_ret
  exact ⟨rfl, rfl⟩
theorem toNat_u8 (n : Nat) (h : n < 256) : ((UInt8.ofNat n).toNat : Int) = n := by
  rw [UInt8.toNat_ofNat']
  omega
theorem bytes_any (r : Int) (hv : Utf8.valid r = true) (w : World) :
    Calls Tryz.prog 34 #[.int .i64 r] w fun e w' => ∃ C : Array Value, e = .returned (.slice (some ⟨w.heap.size, 0, none⟩) (encB r).length (encB r).length) ∧ w' = w.alloc (.cells C 5) ∧ C.toList = byteCells (encB r) := by
  obtain ⟨h0, h1, _⟩ := valid_le hv
  obtain ⟨c, rfl⟩ := Int.eq_ofNat_of_zero_le h0
  by_cases k1 : c < 128
  · refine (bytes_1 c (by omega) (by omega) w).mono ?_
    rintro e w' ⟨rfl, rfl⟩
    rw [encB1 c k1]
    exact ⟨_, rfl, rfl, by simp only [byteCells, List.map_cons, List.map_nil, toNat_u8 c (by omega)]⟩
  · by_cases k2 : c < 2048
    · refine (bytes_2 c (by omega) (by omega) w).mono ?_
      rintro e w' ⟨rfl, rfl⟩
      rw [encB2 c k2 (by omega)]
      refine ⟨_, rfl, rfl, ?_⟩
      simp only [byteCells, List.map_cons, List.map_nil, toNat_u8 (0xC0 + c / 64) (by omega), toNat_u8 (0x80 + c % 64) (by omega)]
      rfl
    · by_cases k3 : c < 65536
      · refine (bytes_3 c (by omega) (by omega) w).mono ?_
        rintro e w' ⟨rfl, rfl⟩
        rw [encB3 c k3 (by omega) hv]
        refine ⟨_, rfl, rfl, ?_⟩
        simp only [byteCells, List.map_cons, List.map_nil, toNat_u8 (0xE0 + c / 4096) (by omega), toNat_u8 (0x80 + c / 64 % 64) (by omega), toNat_u8 (0x80 + c % 64) (by omega)]
        rfl
      · refine (bytes_4 c (by omega) (by omega) w).mono ?_
        rintro e w' ⟨rfl, rfl⟩
        rw [encB4 c (by omega) hv]
        refine ⟨_, rfl, rfl, ?_⟩
        simp only [byteCells, List.map_cons, List.map_nil, toNat_u8 (0xF0 + c / 262144) (by omega), toNat_u8 (0x80 + c / 4096 % 64) (by omega), toNat_u8 (0x80 + c / 64 % 64) (by omega), toNat_u8 (0x80 + c % 64) (by omega)]
        rfl
theorem encB_le (r : Int) : (encB r).length ≤ 4 := by
  unfold encB
  rw [encode_if]
  unfold enc2
  simp only
  repeat' split
  all_goals simp

set_option maxHeartbeats 1000000 in
theorem refPlace_in {s : ByteArray} {rs : List Int} (h : IsText s rs) (hs : s.size ≤ 2097152) (k : Nat) (hk : k ≤ rs.length) (w : World) :
    Calls Tryz.prog 15 #[.string s, .int .i64 k] w fun e w' => e = .returned (.tuple #[.int .i64 (posOf rs k), .int .i64 0]) ∧ Below w.heap.size w w' := by
  have hlen := text_len h
  have HSZ : Hid (s.size = posOf rs rs.length) := h.size
  have d1 : decide (rs.length < k) = false := decide_eq_false (by omega)
  go_enter Tryz.func15, Tryz.ntmps15
  go_wp2_with fail
  refine (runes_text h hs _).mono ?_
  rintro e w1 ⟨a, cap, rfl, hb1, hr⟩
  have hcap := hr.room
  go_wp2_with fail
  go_loopw [9, 10] (fun n i w' => ∃ j : Nat, j ≤ k ∧ n = .int .i64 (posOf rs j) ∧ i = .int .i64 j ∧ Below w1.heap.size w1 w') (fun _ i _ => k - (intOf i).toNat)
  case atStart => exact ⟨0, Nat.zero_le _, by rw [posOf_zero]; rfl, rfl, Below.refl _ _⟩
  case round =>
    obtain ⟨j, hjk, rfl, rfl, hb⟩ := hrel
    have hsz := hb.size
    have hple : posOf rs j ≤ s.size := by rw [HSZ.out]; exact posOf_mono rs (by omega)
    by_cases hj : j < k
    · obtain ⟨g, off, rfl, _, hc⟩ := (hr.below hb).cells j (by omega)
      have HP : Hid (posOf rs (j + 1) = posOf rs j + (encB rs[j]).length) := posOf_succ rs j (by omega)
      have HV : Hid (Utf8.valid rs[j] = true) := (h.okAt j (by omega)).1
      have HG : Hid (rs.getD j 0 = rs[j]) := getD_at rs j (by omega)
      have hep := encB_le rs[j]
      rw [HG.out] at hc
      generalize rs[j] = r at *
      go_wp2_with fail
      refine (bytes_any r HV.out _).mono ?_
      rintro e w' ⟨C, rfl, rfl, _⟩
      generalize (encB r).length = wd at *
      go_wp2_with fail
      go_roundw
      case rel => exact ⟨j + 1, by omega, by rw [HP.out]; go_num, by go_num, hb.alloc hsz _⟩
      case measure => simp [intOf]; omega
    · have hjk2 : j = k := by omega
      subst hjk2
      go_wp2_with fail
      go_ret2
      exact ⟨rfl, hb1.trans (hb.mono hb1.size)⟩
set_option maxHeartbeats 400000 in
theorem refPlace_bad {s : ByteArray} {p c : Int} (h : check s = (0, p, c)) (hc : c = 10 ∨ c = 11) (hs : s.size ≤ 2097152) (k : Int) (w : World) :
    Calls Tryz.prog 15 #[.string s, .int .i64 k] w fun e w' => e = .returned (.tuple #[.int .i64 0, .int .i64 c]) ∧ Below w.heap.size w w' := by
  have t1 : (c != 0) = true := by rcases hc with rfl | rfl <;> rfl
  have HC : Hid (check s = (0, p, c)) := h
  have HC2 : Hid (c = 10 ∨ c = 11) := hc
  clear h hc
  go_enter Tryz.func15, Tryz.ntmps15
  go_wp2_with fail
  refine (runes_bad HC.out HC2.out hs _).mono ?_
  rintro e w1 ⟨a, cap, rfl, hb1⟩
  go_wp2_with fail
  go_ret2
  exact ⟨rfl, hb1⟩
set_option maxHeartbeats 400000 in
theorem refPlace_out {s : ByteArray} {rs : List Int} (h : IsText s rs) (hs : s.size ≤ 2097152) (k : Int) (hk : k < 0 ∨ (rs.length : Int) < k) (w : World) :
    Calls Tryz.prog 15 #[.string s, .int .i64 k] w fun e w' => e = .returned (.tuple #[.int .i64 0, .int .i64 12]) ∧ Below w.heap.size w w' := by
  rcases hk with hk | hk
  · go_enter Tryz.func15, Tryz.ntmps15
    go_wp2_with fail
    refine (runes_text h hs _).mono ?_
    rintro e w1 ⟨a, cap, rfl, hb1, _⟩
    go_wp2_with fail
    go_ret2
    exact ⟨rfl, hb1⟩
  · have hk0 : ¬ (k < 0) := by omega
    go_enter Tryz.func15, Tryz.ntmps15
    go_wp2_with fail
    refine (runes_text h hs _).mono ?_
    rintro e w1 ⟨a, cap, rfl, hb1, _⟩
    go_wp2_with fail
    go_ret2
    exact ⟨rfl, hb1⟩
set_option maxHeartbeats 400000 in
theorem refIndex_bad {s : ByteArray} {p c : Int} (h : check s = (0, p, c)) (hc : c = 10 ∨ c = 11) (hs : s.size ≤ 2097152) (k : Int) (w : World) :
    Calls Tryz.prog 17 #[.string s, .int .i64 k] w fun e w' => e = .returned (.tuple #[.int .i64 0, .int .i64 c]) ∧ Below w.heap.size w w' := by
  have t1 : (c != 0) = true := by rcases hc with rfl | rfl <;> rfl
  have HC : Hid (check s = (0, p, c)) := h
  have HC2 : Hid (c = 10 ∨ c = 11) := hc
  clear h hc
  go_enter Tryz.func17, Tryz.ntmps17
  go_wp2_with fail
  refine (runes_bad HC.out HC2.out hs _).mono ?_
  rintro e w1 ⟨a, cap, rfl, hb1⟩
  go_wp2_with fail
  go_ret2
  exact ⟨rfl, hb1⟩

/-- What Index answers: (the rune's number, 0), or (0, 12). -/
def IdxIs (rs : List Int) (k a c : Int) : Prop := (c = 0 ∧ ∃ j : Nat, j ≤ rs.length ∧ a = j ∧ k = posOf rs j) ∨ (c = 12 ∧ a = 0 ∧ ∀ j : Nat, j ≤ rs.length → k ≠ posOf rs j)
theorem IdxIs.one {rs : List Int} {k a c a' c' : Int} (h : IdxIs rs k a c) (h' : IdxIs rs k a' c') : a = a' ∧ c = c' := by
  rcases h with ⟨rfl, j, hj, rfl, hk⟩ | ⟨rfl, rfl, hn⟩
  · rcases h' with ⟨rfl, j', hj', rfl, hk'⟩ | ⟨rfl, rfl, hn'⟩
    · exact ⟨by rw [posOf_inj rs hj hj' (by omega)], rfl⟩
    · exact absurd hk (hn' j hj)
  · rcases h' with ⟨rfl, j', hj', rfl, hk'⟩ | ⟨rfl, rfl, hn'⟩
    · exact absurd hk' (hn j' hj')
    · exact ⟨rfl, rfl⟩

set_option maxHeartbeats 1000000 in
theorem refIndex_text {s : ByteArray} {rs : List Int} (h : IsText s rs) (hs : s.size ≤ 2097152) (k : Int) (w : World) :
    Calls Tryz.prog 17 #[.string s, .int .i64 k] w fun e w' => ∃ a c : Int, e = .returned (.tuple #[.int .i64 a, .int .i64 c]) ∧ Below w.heap.size w w' ∧ IdxIs rs k a c := by
  have hlen := text_len h
  have HSZ : Hid (s.size = posOf rs rs.length) := h.size
  go_enter Tryz.func17, Tryz.ntmps17
  go_wp2_with fail
  refine (runes_text h hs _).mono ?_
  rintro e w1 ⟨a, cap, rfl, hb1, hr⟩
  have hcap := hr.room
  go_wp2_with fail
  go_loopw [9, 10] (fun n i w' => ∃ j p : Nat, j ≤ rs.length + 1 ∧ p ≤ s.size ∧ n = .int .i64 p ∧ (j ≤ rs.length → p = posOf rs j) ∧ i = .int .i64 j ∧ Hid (∀ i : Nat, i < j → k ≠ posOf rs i) ∧ Below w1.heap.size w1 w') (fun _ i _ => rs.length + 1 - (intOf i).toNat)
  case atStart => exact ⟨0, 0, Nat.zero_le _, Nat.zero_le _, rfl, fun _ => by rw [posOf_zero], rfl, fun i hi => absurd hi (Nat.not_lt_zero _), Below.refl _ _⟩
  case round =>
    obtain ⟨j, p, hjl, hps, rfl, hpj, rfl, hno, hb⟩ := hrel
    have hsz := hb.size
    by_cases hj : j ≤ rs.length
    · have hpj' := hpj hj
      have HPJ : Hid (p = posOf rs j) := hpj'
      clear hpj hpj'
      by_cases hk : (p : Int) = k
      · have t1 : ((p : Int) == k) = true := by simp [hk]
        have HK : Hid ((p : Int) = k) := hk
        clear hk
        go_wp2_with fail
        go_ret2
        exact ⟨_, _, rfl, hb1.trans (hb.mono hb1.size), .inl ⟨rfl, j, hj, rfl, by rw [← HK.out, HPJ.out]⟩⟩
      · have t1 : ((p : Int) == k) = false := beq_eq_false_iff_ne.2 hk
        have HN : Hid (∀ i : Nat, i < j + 1 → k ≠ posOf rs i) := fun i hi e => by
          by_cases hij : i = j
          · subst hij
            exact hk (by rw [HPJ.out]; exact e.symm)
          · exact hno.out i (by omega) e
        clear hk hno
        by_cases hjn : j < rs.length
        · obtain ⟨g, off, rfl, _, hc⟩ := (hr.below hb).cells j hjn
          have HP : Hid (posOf rs (j + 1) = p + (encB rs[j]).length) := by rw [HPJ.out]; exact posOf_succ rs j hjn
          have HLE : p + (encB rs[j]).length ≤ s.size := by rw [← HP.out, HSZ.out]; exact posOf_mono rs (by omega)
          have HV : Hid (Utf8.valid rs[j] = true) := (h.okAt j hjn).1
          have HG : Hid (rs.getD j 0 = rs[j]) := getD_at rs j hjn
          have hep := encB_le rs[j]
          rw [HG.out] at hc
          generalize rs[j] = r at *
          go_wp2_with fail
          refine (bytes_any r HV.out _).mono ?_
          rintro e w' ⟨C, rfl, rfl, _⟩
          generalize (encB r).length = wd at *
          go_wp2_with fail
          go_roundw
          case rel => exact ⟨j + 1, p + wd, by omega, HLE, by go_num, fun _ => HP.out.symm, by go_num, HN, hb.alloc hsz _⟩
          case measure => simp [intOf]; omega
        · go_wp2_with fail
          go_roundw
          case rel => exact ⟨j + 1, p, by omega, hps, rfl, fun hh => absurd hh (by omega), by go_num, HN, hb⟩
          case measure => simp [intOf]; omega
    · have hj2 : j = rs.length + 1 := by omega
      have hjN : ¬ ((j : Int) ≤ (rs.length : Int)) := by omega
      have HN : Hid (∀ i : Nat, i ≤ rs.length → k ≠ posOf rs i) := fun i hi => hno.out i (by omega)
      clear hno hpj hj2
      go_wp2_with fail
      go_ret2
      exact ⟨_, _, rfl, hb1.trans (hb.mono hb1.size), .inr ⟨rfl, rfl, HN.out⟩⟩
end Go.Proofs.YtfakfmmngflbfacGreatDoor
