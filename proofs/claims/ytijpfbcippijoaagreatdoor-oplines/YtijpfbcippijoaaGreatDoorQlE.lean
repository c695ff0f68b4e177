import Derived.Test.YtijpfbcippijoaaGreatDoorQlD
namespace Go.Proofs.YtijpfbcippijoaaGreatDoor
open Go.RowKit Go.Lib Sp
set_option maxRecDepth 100000
def spanN (c : UInt8) : List UInt8 → Nat
  | [] => 0
  | b :: r => if b = c then 0 else 1 + spanN c r
theorem spanN_le (c : UInt8) (l : List UInt8) : spanN c l ≤ l.length := by
  induction l with
  | nil => exact Nat.le_refl _
  | cons b r ih => unfold spanN; split <;> simp only [List.length_cons] <;> omega
theorem drop_at (s : ByteArray) (k : Nat) (h : k < s.size) : s.data.toList.drop k = (s[k]'h) :: s.data.toList.drop (k + 1) := by
  rw [List.drop_eq_getElem_cons (by rw [← size_data]; exact h)]
  rfl
set_option maxHeartbeats 4000000 in
theorem gWord_any (s : ByteArray) (hs : s.size ≤ 9223372036854775807) (i : Nat) (hi : i ≤ s.size) (c : UInt8) (w : World) :
    Calls Tryz.prog 110 #[.string s, .int .i64 (i : Int), .int .u8 (c.toNat : Int)] w fun e w' => e = .returned (.tuple #[.string (s.extract i (i + spanN c (s.data.toList.drop i))), .int .i64 ((i + spanN c (s.data.toList.drop i) : Nat) : Int)]) ∧ w' = w := by
  have h1 : ¬ (s.size : Int) < (i : Int) := by omega
  obtain ⟨j, hj⟩ : ∃ j, i + spanN c (s.data.toList.drop i) = j := ⟨_, rfl⟩
  rw [hj]
  have HJ : Hid (i + spanN c (s.data.toList.drop i) = j) := hj
  clear hj
  go_enter Tryz.func110, Tryz.ntmps110
  go_wp2_with fail
  go_loopw [8] (fun k wr => ∃ kk : Nat, k = .int .i64 (kk : Int) ∧ wr = w ∧ i ≤ kk ∧ kk ≤ s.size ∧ Hid (kk + spanN c (s.data.toList.drop kk) = j)) (fun k _ => s.size - (RowKit.intOf k).toNat)
  case atStart => exact ⟨i, rfl, rfl, Nat.le_refl _, hi, HJ.out⟩
  case round =>
    obtain ⟨k, rfl, hw, hik, hks, hI⟩ := hrel
    obtain rfl := hw.symm
    clear hw
    by_cases hp : k < s.size
    · have g1 : (k : Int) < (s.size : Int) := by omega
      have hdr := drop_at s k hp
      by_cases hc : s[k]'hp = c
      · have HE : Hid (k = j) := by
          have := hI.out
          rw [hdr, spanN, if_pos hc] at this
          exact this
        have hc2 : (((s[k]'hp).toNat : Int) == (c.toNat : Int)) = true := by rw [hc]; exact beq_self_eq_true _
        clear hdr hI
        go_wp2_with fail
        go_ret2
        exact ⟨by rw [HE.out]; rfl, rfl⟩
      · have HE : Hid (k + 1 + spanN c (s.data.toList.drop (k + 1)) = j) := by
          have := hI.out
          rw [hdr, spanN, if_neg hc] at this
          show _ = _
          omega
        have hc2 : (((s[k]'hp).toNat : Int) == (c.toNat : Int)) = false := beq_eq_false_iff_ne.2 fun e => hc (UInt8.toNat_inj.1 (by omega))
        clear hdr hI
        go_wp2_with fail
        exact ⟨⟨k + 1, rfl, trivial, by omega, by omega, HE⟩, by simp only [RowKit.intOf]; omega⟩
    · have g1 : ¬ (k : Int) < (s.size : Int) := by omega
      have HE : Hid (k = j) := by
        have := hI.out
        rw [List.drop_eq_nil_of_le (by rw [← size_data]; omega)] at this
        exact this
      clear hI
      go_wp2_with fail
      go_ret2
      exact ⟨by rw [HE.out]; rfl, rfl⟩
set_option maxHeartbeats 4000000 in
theorem gWord_past (s : ByteArray) (hs : s.size ≤ 9223372036854775807) (i : Nat) (hi : s.size < i) (hi2 : i ≤ 9223372036854775807) (c : UInt8) (w : World) :
    Calls Tryz.prog 110 #[.string s, .int .i64 (i : Int), .int .u8 (c.toNat : Int)] w fun e w' => e = .returned (.tuple #[.string ⟨#[]⟩, .int .i64 (s.size : Int)]) ∧ w' = w := by
  have h1 : (s.size : Int) < (i : Int) := by omega
  go_enter Tryz.func110, Tryz.ntmps110
  go_wp2_with fail
  go_ret2
  exact ⟨rfl, rfl⟩
def numGF : List UInt8 → Int → Int
  | [], n => n
  | b :: r, n => if b.toNat < 48 ∨ 57 < b.toNat then -1 else numGF r (10 * n + ((b.toNat : Int) - 48))
def numG (l : List UInt8) : Int := if l.length = 0 ∨ 7 < l.length then -1 else numGF l 0
set_option maxHeartbeats 4000000 in
theorem gNumber_any (s : ByteArray) (hs : s.size ≤ 9223372036854775807) (w : World) :
    Calls Tryz.prog 112 #[.string s] w fun e w' => e = .returned (.int .i64 (numG s.data.toList)) ∧ w' = w := by
  obtain ⟨v, hv⟩ : ∃ v, numG s.data.toList = v := ⟨_, rfl⟩
  rw [hv]
  unfold numG at hv
  rw [← size_data] at hv
  by_cases h0 : s.size = 0
  · have g0 : (s.size : Int) = 0 := by omega
    have g1 : ((s.size : Int) == 0) = true := by rw [g0]; rfl
    rw [if_pos (.inl h0)] at hv
    subst hv
    go_enter Tryz.func112, Tryz.ntmps112
    go_wp2_with fail
    go_ret
    exact ⟨rfl, rfl⟩
  have g0 : ((s.size : Int) == 0) = false := beq_eq_false_iff_ne.2 (by omega)
  by_cases h7 : 7 < s.size
  · have g1 : (7 : Int) < (s.size : Int) := by omega
    rw [if_pos (.inr h7)] at hv
    subst hv
    go_enter Tryz.func112, Tryz.ntmps112
    go_wp2_with fail
    go_ret
    exact ⟨rfl, rfl⟩
  have g1 : ¬ (7 : Int) < (s.size : Int) := by omega
  rw [if_neg (by omega)] at hv
  have HV : Hid (numGF s.data.toList 0 = v) := hv
  clear hv
  go_enter Tryz.func112, Tryz.ntmps112
  go_wp2_with fail
  go_loopw [3, 4] (fun v3 v4 wr => ∃ (x : Int) (i : Nat), v3 = .int .i64 x ∧ v4 = .int .i64 (i : Int) ∧ wr = w ∧ i ≤ s.size ∧ (0 ≤ x ∧ x < 10 ^ i) ∧ Hid (numGF (s.data.toList.drop i) x = v)) (fun _ v4 _ => s.size - (RowKit.intOf v4).toNat)
  case atStart => exact ⟨0, 0, rfl, rfl, rfl, Nat.zero_le _, by decide, HV.out⟩
  case round =>
    obtain ⟨x, i, rfl, rfl, hw, his, hx, hI⟩ := hrel
    obtain rfl := hw.symm
    clear hw HV
    by_cases hp : i < s.size
    · have g2 : (i : Int) < (s.size : Int) := by omega
      have hdr := drop_at s i hp
      have hI2 := hI.out
      rw [hdr, numGF] at hI2
      obtain ⟨b, hb⟩ : ∃ b, s[i]'hp = b := ⟨_, rfl⟩
      rw [hb] at hI2
      have hb2 := b.toNat_lt
      have hx10 : x < 10000000 := by
        have h1 := hx.2
        have : i = 0 ∨ i = 1 ∨ i = 2 ∨ i = 3 ∨ i = 4 ∨ i = 5 ∨ i = 6 := by omega
        clear hI hdr hI2
        rcases this with rfl | rfl | rfl | rfl | rfl | rfl | rfl <;> simp at h1 <;> omega
      by_cases hd1 : b.toNat < 48
      · rw [if_pos (.inl hd1)] at hI2
        subst hI2
        have q1 : (b.toNat : Int) < 48 := by omega
        clear hI hdr
        go_wp2_with fail
        go_ret
        exact ⟨rfl, rfl⟩
      have q1 : ¬ (b.toNat : Int) < 48 := by omega
      by_cases hd2 : 57 < b.toNat
      · rw [if_pos (.inr hd2)] at hI2
        subst hI2
        have q2 : (57 : Int) < (b.toNat : Int) := by omega
        clear hI hdr
        go_wp2_with fail
        go_ret
        exact ⟨rfl, rfl⟩
      have q2 : ¬ (57 : Int) < (b.toNat : Int) := by omega
      rw [if_neg (by omega)] at hI2
      have HI2 : Hid (numGF (s.data.toList.drop (i + 1)) (10 * x + ((b.toNat : Int) - 48)) = v) := hI2
      have HX : Hid (0 ≤ 10 * x + ((b.toNat : Int) - 48) ∧ 10 * x + ((b.toNat : Int) - 48) < 10 ^ (i + 1)) := by
        refine ⟨by omega, ?_⟩
        have : (10 : Int) ^ (i + 1) = 10 ^ i * 10 := Int.pow_succ _ _
        omega
      have k1 : IntKind.u8.wrap ((b.toNat : Int) - 48) = (b.toNat : Int) - 48 := by show ((b.toNat : Int) - 48) % 256 = _; omega
      have k2 : IntKind.i64.wrap ((b.toNat : Int) - 48) = (b.toNat : Int) - 48 := IntWalk.i64_in _ (by omega)
      have k3 : IntKind.i64.wrap (10 * x) = 10 * x := IntWalk.i64_in _ (by omega)
      have k4 : IntKind.i64.wrap (10 * x + ((b.toNat : Int) - 48)) = 10 * x + ((b.toNat : Int) - 48) := IntWalk.i64_in _ (by omega)
      clear hI hdr hI2 hx
      go_wp2_with fail
      exact ⟨⟨_, i + 1, rfl, rfl, trivial, by omega, HX.out, HI2⟩, by simp only [RowKit.intOf]; omega⟩
    · have g2 : ¬ (i : Int) < (s.size : Int) := by omega
      have HE : Hid (x = v) := by
        have := hI.out
        rw [List.drop_eq_nil_of_le (by rw [← size_data]; omega)] at this
        exact this
      clear hI hx
      go_wp2_with fail
      go_ret
      exact ⟨by rw [HE.out]; rfl, rfl⟩
end Go.Proofs.YtijpfbcippijoaaGreatDoor
