import Derived.Test.YtijpfbcippijoaaGreatDoorQlE
namespace Go.Proofs.YtijpfbcippijoaaGreatDoor
open Go.RowKit Go.Lib Sp
set_option maxRecDepth 100000
def pairG (c : UInt8) (l : List UInt8) : Int × Int := (numG (l.take (spanN c l)), if l.length ≤ spanN c l then -1 else numG (l.drop (spanN c l + 1)))
theorem ext_take (s : ByteArray) (k : Nat) : (s.extract 0 k).data.toList = s.data.toList.take k := by
  simp [ByteArray.data_extract]
theorem ext_mid (s : ByteArray) (i k : Nat) : (s.extract i k).data.toList = (s.data.toList.drop i).take (k - i) := by
  simp [ByteArray.data_extract, List.extract_eq_take_drop]
theorem ext_drop (s : ByteArray) (k : Nat) : (s.extract k s.size).data.toList = s.data.toList.drop k := by
  rw [ext_mid, List.take_of_length_le (by rw [List.length_drop, ← size_data]; exact Nat.le_refl _)]
theorem ext_size (s : ByteArray) (i k : Nat) : (s.extract i k).size ≤ s.size := by
  rw [size_data, ext_mid, List.length_take, List.length_drop, ← size_data]
  omega
set_option maxHeartbeats 4000000 in
theorem gPair_any (s : ByteArray) (hs : s.size ≤ 9223372036854775806) (c : UInt8) (w : World) :
    Calls Tryz.prog 111 #[.string s, .int .u8 (c.toNat : Int)] w fun e w' => e = .returned (.tuple #[.int .i64 (pairG c s.data.toList).1, .int .i64 (pairG c s.data.toList).2]) ∧ w' = w := by
  have hW := gWord_any s (by omega) 0 (by omega) c w
  rw [List.drop_zero, Nat.zero_add] at hW
  have hle := spanN_le c s.data.toList
  rw [← size_data] at hle
  unfold pairG
  rw [← size_data]
  obtain ⟨j, hj⟩ : ∃ j, spanN c s.data.toList = j := ⟨_, rfl⟩
  rw [hj] at hW hle ⊢
  have hN1 := gNumber_any (s.extract 0 j) (Nat.le_trans (ext_size s 0 j) (by omega)) w
  rw [ext_take] at hN1
  have HW : Hid (Calls Tryz.prog 110 #[.string s, .int .i64 0, .int .u8 (c.toNat : Int)] w fun e w' => e = .returned (.tuple #[.string (s.extract 0 j), .int .i64 (j : Int)]) ∧ w' = w) := hW
  obtain ⟨v1, hv1⟩ : ∃ v, numG (s.data.toList.take j) = v := ⟨_, rfl⟩
  rw [hv1] at hN1 ⊢
  have HN1 : Hid (Calls Tryz.prog 112 #[.string (s.extract 0 j)] w fun e w' => e = .returned (.int .i64 v1) ∧ w' = w) := hN1
  clear hN1 hW hj hv1
  by_cases hk : s.size ≤ j
  · have g1 : (s.size : Int) ≤ (j : Int) := by omega
    rw [if_pos hk]
    go_enter Tryz.func111, Tryz.ntmps111
    go_wp2_with fail
    refine HW.out.mono ?_
    rintro e w3 ⟨rfl, hw⟩
    obtain rfl := hw.symm
    clear hw
    go_wp2_with fail
    refine HN1.out.mono ?_
    rintro e w3 ⟨rfl, hw⟩
    obtain rfl := hw.symm
    clear hw
    go_wp2_with fail
    go_ret2
    exact ⟨rfl, rfl⟩
  · have g1 : ¬ (s.size : Int) ≤ (j : Int) := by omega
    rw [if_neg hk]
    have hN2 := gNumber_any (s.extract (j + 1) s.size) (Nat.le_trans (ext_size s _ _) (by omega)) w
    rw [ext_drop] at hN2
    obtain ⟨v2, hv2⟩ : ∃ v, numG (s.data.toList.drop (j + 1)) = v := ⟨_, rfl⟩
    rw [hv2] at hN2 ⊢
    have HN2 : Hid (Calls Tryz.prog 112 #[.string (s.extract (j + 1) s.size)] w fun e w' => e = .returned (.int .i64 v2) ∧ w' = w) := hN2
    clear hN2 hv2
    go_enter Tryz.func111, Tryz.ntmps111
    go_wp2_with fail
    refine HW.out.mono ?_
    rintro e w3 ⟨rfl, hw⟩
    obtain rfl := hw.symm
    clear hw
    go_wp2_with fail
    refine HN1.out.mono ?_
    rintro e w3 ⟨rfl, hw⟩
    obtain rfl := hw.symm
    clear hw
    go_wp2_with fail
    refine HN2.out.mono ?_
    rintro e w3 ⟨rfl, hw⟩
    obtain rfl := hw.symm
    clear hw
    go_wp2_with fail
    go_ret2
    exact ⟨rfl, rfl⟩
end Go.Proofs.YtijpfbcippijoaaGreatDoor
