import Derived.Test.YtijpfbcippijoaaGreatDoorQlD
import Derived.Test.YtijpfbcippijoaaGreatDoorRefUnq
namespace Go.Proofs.YtijpfbcippijoaaGreatDoor
open Go.RowKit Go.Lib Sp
set_option maxRecDepth 100000
def spanN (c : UInt8) : List UInt8 → Nat
  | [] => 0
  | b :: r => if b = c then 0 else 1 + spanN c r
theorem spanN_le (c : UInt8) (l : List UInt8) : spanN c l ≤ l.length := by
  induction l with
  | nil => exact Nat.le_refl _
  | cons b r ih => unfold spanN; split <;> simp only [List.length_cons] <;> omega
theorem drop_at (s : ByteArray) (k : Nat) (h : k < s.size) : s.data.toList.drop k = (s[k]'h) :: s.data.toList.drop (k + 1) := by
  rw [List.drop_eq_getElem_cons (by rw [← size_data]; exact h)]
  rfl
set_option maxHeartbeats 4000000 in
theorem gWord_any (s : ByteArray) (hs : s.size ≤ 9223372036854775807) (i : Nat) (hi : i ≤ s.size) (c : UInt8) (w : World) :
    Calls Tryz.prog 110 #[.string s, .int .i64 (i : Int), .int .u8 (c.toNat : Int)] w fun e w' => e = .returned (.tuple #[.string (s.extract i (i + spanN c (s.data.toList.drop i))), .int .i64 ((i + spanN c (s.data.toList.drop i) : Nat) : Int)]) ∧ w' = w := by
  have h1 : ¬ (s.size : Int) < (i : Int) := by omega
  obtain ⟨j, hj⟩ : ∃ j, i + spanN c (s.data.toList.drop i) = j := ⟨_, rfl⟩
  rw [hj]
  have HJ : Hid (i + spanN c (s.data.toList.drop i) = j) := hj
  clear hj
  go_enter Tryz.func110, Tryz.ntmps110
  go_wp2_with fail
  go_loopw [8] (fun k wr => ∃ kk : Nat, k = .int .i64 (kk : Int) ∧ wr = w ∧ i ≤ kk ∧ kk ≤ s.size ∧ Hid (kk + spanN c (s.data.toList.drop kk) = j)) (fun k _ => s.size - (RowKit.intOf k).toNat)
  case atStart => exact ⟨i, rfl, rfl, Nat.le_refl _, hi, HJ.out⟩
  case round =>
    obtain ⟨k, rfl, hw, hik, hks, hI⟩ := hrel
    obtain rfl := hw.symm
    clear hw
    by_cases hp : k < s.size
    · have g1 : (k : Int) < (s.size : Int) := by omega
      have hdr := drop_at s k hp
      by_cases hc : s[k]'hp = c
      · have HE : Hid (k = j) := by
          have := hI.out
          rw [hdr, spanN, if_pos hc] at this
          exact this
        have hc2 : (((s[k]'hp).toNat : Int) == (c.toNat : Int)) = true := by rw [hc]; exact beq_self_eq_true _
        clear hdr hI
        go_wp2_with fail
        go_ret2
        exact ⟨by rw [HE.out]; rfl, rfl⟩
      · have HE : Hid (k + 1 + spanN c (s.data.toList.drop (k + 1)) = j) := by
          have := hI.out
          rw [hdr, spanN, if_neg hc] at this
          show _ = _
          omega
        have hc2 : (((s[k]'hp).toNat : Int) == (c.toNat : Int)) = false := beq_eq_false_iff_ne.2 fun e => hc (UInt8.toNat_inj.1 (by omega))
        clear hdr hI
        go_wp2_with fail
        exact ⟨⟨k + 1, rfl, trivial, by omega, by omega, HE⟩, by simp only [RowKit.intOf]; omega⟩
    · have g1 : ¬ (k : Int) < (s.size : Int) := by omega
      have HE : Hid (k = j) := by
        have := hI.out
        rw [List.drop_eq_nil_of_le (by rw [← size_data]; omega)] at this
        exact this
      clear hI
      go_wp2_with fail
      go_ret2
      exact ⟨by rw [HE.out]; rfl, rfl⟩
set_option maxHeartbeats 4000000 in
theorem gWord_past (s : ByteArray) (_hs : s.size ≤ 9223372036854775807) (i : Nat) (hi : s.size < i) (_hi2 : i ≤ 9223372036854775807) (c : UInt8) (w : World) :
    Calls Tryz.prog 110 #[.string s, .int .i64 (i : Int), .int .u8 (c.toNat : Int)] w fun e w' => e = .returned (.tuple #[.string ⟨#[]⟩, .int .i64 (s.size : Int)]) ∧ w' = w := by
  have h1 : (s.size : Int) < (i : Int) := by omega
  go_enter Tryz.func110, Tryz.ntmps110
  go_wp2_with fail
  go_ret2
  exact ⟨rfl, rfl⟩
def numGF : List UInt8 → Int → Int
  | [], n => n
  | b :: r, n => if b.toNat < 48 ∨ 57 < b.toNat then -1 else numGF r (10 * n + ((b.toNat : Int) - 48))
def numG (l : List UInt8) : Int := if l.length = 0 ∨ 7 < l.length then -1 else numGF l 0
set_option maxHeartbeats 4000000 in
theorem gNumber_any (s : ByteArray) (hs : s.size ≤ 9223372036854775807) (w : World) :
    Calls Tryz.prog 112 #[.string s] w fun e w' => e = .returned (.int .i64 (numG s.data.toList)) ∧ w' = w := by
  obtain ⟨v, hv⟩ : ∃ v, numG s.data.toList = v := ⟨_, rfl⟩
  rw [hv]
  unfold numG at hv
  rw [← size_data] at hv
  by_cases h0 : s.size = 0
  · have g0 : (s.size : Int) = 0 := by omega
    have g1 : ((s.size : Int) == 0) = true := by rw [g0]; rfl
    rw [if_pos (.inl h0)] at hv
    subst hv
    go_enter Tryz.func112, Tryz.ntmps112
    go_wp2_with fail
    go_ret
    exact ⟨rfl, rfl⟩
  have g0 : ((s.size : Int) == 0) = false := beq_eq_false_iff_ne.2 (by omega)
  by_cases h7 : 7 < s.size
  · have g1 : (7 : Int) < (s.size : Int) := by omega
    rw [if_pos (.inr h7)] at hv
    subst hv
    go_enter Tryz.func112, Tryz.ntmps112
    go_wp2_with fail
    go_ret
    exact ⟨rfl, rfl⟩
  have g1 : ¬ (7 : Int) < (s.size : Int) := by omega
  rw [if_neg (by omega)] at hv
  have HV : Hid (numGF s.data.toList 0 = v) := hv
  clear hv
  go_enter Tryz.func112, Tryz.ntmps112
  go_wp2_with fail
  go_loopw [3, 4] (fun v3 v4 wr => ∃ (x : Int) (i : Nat), v3 = .int .i64 x ∧ v4 = .int .i64 (i : Int) ∧ wr = w ∧ i ≤ s.size ∧ (0 ≤ x ∧ x < 10 ^ i) ∧ Hid (numGF (s.data.toList.drop i) x = v)) (fun _ v4 _ => s.size - (RowKit.intOf v4).toNat)
  case atStart => exact ⟨0, 0, rfl, rfl, rfl, Nat.zero_le _, by decide, HV.out⟩
  case round =>
    obtain ⟨x, i, rfl, rfl, hw, his, hx, hI⟩ := hrel
    obtain rfl := hw.symm
    clear hw HV
    by_cases hp : i < s.size
    · have g2 : (i : Int) < (s.size : Int) := by omega
      have hdr := drop_at s i hp
      have hI2 := hI.out
      rw [hdr, numGF] at hI2
      obtain ⟨b, hb⟩ : ∃ b, s[i]'hp = b := ⟨_, rfl⟩
      rw [hb] at hI2
      have hb2 := b.toNat_lt
      have hx10 : x < 10000000 := by
        have h1 := hx.2
        have : i = 0 ∨ i = 1 ∨ i = 2 ∨ i = 3 ∨ i = 4 ∨ i = 5 ∨ i = 6 := by omega
        clear hI hdr hI2
        rcases this with rfl | rfl | rfl | rfl | rfl | rfl | rfl <;> simp at h1 <;> omega
      by_cases hd1 : b.toNat < 48
      · rw [if_pos (.inl hd1)] at hI2
        subst hI2
        have q1 : (b.toNat : Int) < 48 := by omega
        clear hI hdr
        go_wp2_with fail
        go_ret
        exact ⟨rfl, rfl⟩
      have q1 : ¬ (b.toNat : Int) < 48 := by omega
      by_cases hd2 : 57 < b.toNat
      · rw [if_pos (.inr hd2)] at hI2
        subst hI2
        have q2 : (57 : Int) < (b.toNat : Int) := by omega
        clear hI hdr
        go_wp2_with fail
        go_ret
        exact ⟨rfl, rfl⟩
      have q2 : ¬ (57 : Int) < (b.toNat : Int) := by omega
      rw [if_neg (by omega)] at hI2
      have HI2 : Hid (numGF (s.data.toList.drop (i + 1)) (10 * x + ((b.toNat : Int) - 48)) = v) := hI2
      have HX : Hid (0 ≤ 10 * x + ((b.toNat : Int) - 48) ∧ 10 * x + ((b.toNat : Int) - 48) < 10 ^ (i + 1)) := by
        refine ⟨by omega, ?_⟩
        have : (10 : Int) ^ (i + 1) = 10 ^ i * 10 := Int.pow_succ _ _
        omega
      have k1 : IntKind.u8.wrap ((b.toNat : Int) - 48) = (b.toNat : Int) - 48 := by show ((b.toNat : Int) - 48) % 256 = _; omega
      have k2 : IntKind.i64.wrap ((b.toNat : Int) - 48) = (b.toNat : Int) - 48 := IntWalk.i64_in _ (by omega)
      have k3 : IntKind.i64.wrap (10 * x) = 10 * x := IntWalk.i64_in _ (by omega)
      have k4 : IntKind.i64.wrap (10 * x + ((b.toNat : Int) - 48)) = 10 * x + ((b.toNat : Int) - 48) := IntWalk.i64_in _ (by omega)
      clear hI hdr hI2 hx
      go_wp2_with fail
      exact ⟨⟨_, i + 1, rfl, rfl, trivial, by omega, HX.out, HI2⟩, by simp only [RowKit.intOf]; omega⟩
    · have g2 : ¬ (i : Int) < (s.size : Int) := by omega
      have HE : Hid (x = v) := by
        have := hI.out
        rw [List.drop_eq_nil_of_le (by rw [← size_data]; omega)] at this
        exact this
      clear hI hx
      go_wp2_with fail
      go_ret
      exact ⟨by rw [HE.out]; rfl, rfl⟩
end Go.Proofs.YtijpfbcippijoaaGreatDoor

namespace Go.Proofs.YtijpfbcippijoaaGreatDoor
open Go.RowKit Go.Lib Sp
set_option maxRecDepth 100000
def pairG (c : UInt8) (l : List UInt8) : Int × Int := (numG (l.take (spanN c l)), if l.length ≤ spanN c l then -1 else numG (l.drop (spanN c l + 1)))
theorem ext_take (s : ByteArray) (k : Nat) : (s.extract 0 k).data.toList = s.data.toList.take k := by
  simp [ByteArray.data_extract]
theorem ext_mid (s : ByteArray) (i k : Nat) : (s.extract i k).data.toList = (s.data.toList.drop i).take (k - i) := by
  simp [ByteArray.data_extract, List.extract_eq_take_drop]
theorem ext_drop (s : ByteArray) (k : Nat) : (s.extract k s.size).data.toList = s.data.toList.drop k := by
  rw [ext_mid, List.take_of_length_le (by rw [List.length_drop, ← size_data]; exact Nat.le_refl _)]
theorem ext_size (s : ByteArray) (i k : Nat) : (s.extract i k).size ≤ s.size := by
  rw [size_data, ext_mid, List.length_take, List.length_drop, ← size_data]
  omega
set_option maxHeartbeats 4000000 in
theorem gPair_any (s : ByteArray) (hs : s.size ≤ 9223372036854775806) (c : UInt8) (w : World) :
    Calls Tryz.prog 111 #[.string s, .int .u8 (c.toNat : Int)] w fun e w' => e = .returned (.tuple #[.int .i64 (pairG c s.data.toList).1, .int .i64 (pairG c s.data.toList).2]) ∧ w' = w := by
  have hW := gWord_any s (by omega) 0 (by omega) c w
  rw [List.drop_zero, Nat.zero_add] at hW
  have hle := spanN_le c s.data.toList
  rw [← size_data] at hle
  unfold pairG
  rw [← size_data]
  obtain ⟨j, hj⟩ : ∃ j, spanN c s.data.toList = j := ⟨_, rfl⟩
  rw [hj] at hW hle ⊢
  have hN1 := gNumber_any (s.extract 0 j) (Nat.le_trans (ext_size s 0 j) (by omega)) w
  rw [ext_take] at hN1
  have HW : Hid (Calls Tryz.prog 110 #[.string s, .int .i64 0, .int .u8 (c.toNat : Int)] w fun e w' => e = .returned (.tuple #[.string (s.extract 0 j), .int .i64 (j : Int)]) ∧ w' = w) := hW
  obtain ⟨v1, hv1⟩ : ∃ v, numG (s.data.toList.take j) = v := ⟨_, rfl⟩
  rw [hv1] at hN1 ⊢
  have HN1 : Hid (Calls Tryz.prog 112 #[.string (s.extract 0 j)] w fun e w' => e = .returned (.int .i64 v1) ∧ w' = w) := hN1
  clear hN1 hW hj hv1
  by_cases hk : s.size ≤ j
  · have g1 : (s.size : Int) ≤ (j : Int) := by omega
    rw [if_pos hk]
    go_enter Tryz.func111, Tryz.ntmps111
    go_wp2_with fail
    refine HW.out.mono ?_
    rintro e w3 ⟨rfl, hw⟩
    obtain rfl := hw.symm
    clear hw
    go_wp2_with fail
    refine HN1.out.mono ?_
    rintro e w3 ⟨rfl, hw⟩
    obtain rfl := hw.symm
    clear hw
    go_wp2_with fail
    go_ret2
    exact ⟨rfl, rfl⟩
  · have g1 : ¬ (s.size : Int) ≤ (j : Int) := by omega
    rw [if_neg hk]
    have hN2 := gNumber_any (s.extract (j + 1) s.size) (Nat.le_trans (ext_size s _ _) (by omega)) w
    rw [ext_drop] at hN2
    obtain ⟨v2, hv2⟩ : ∃ v, numG (s.data.toList.drop (j + 1)) = v := ⟨_, rfl⟩
    rw [hv2] at hN2 ⊢
    have HN2 : Hid (Calls Tryz.prog 112 #[.string (s.extract (j + 1) s.size)] w fun e w' => e = .returned (.int .i64 v2) ∧ w' = w) := hN2
    clear hN2 hv2
    go_enter Tryz.func111, Tryz.ntmps111
    go_wp2_with fail
    refine HW.out.mono ?_
    rintro e w3 ⟨rfl, hw⟩
    obtain rfl := hw.symm
    clear hw
    go_wp2_with fail
    refine HN1.out.mono ?_
    rintro e w3 ⟨rfl, hw⟩
    obtain rfl := hw.symm
    clear hw
    go_wp2_with fail
    refine HN2.out.mono ?_
    rintro e w3 ⟨rfl, hw⟩
    obtain rfl := hw.symm
    clear hw
    go_wp2_with fail
    go_ret2
    exact ⟨rfl, rfl⟩
end Go.Proofs.YtijpfbcippijoaaGreatDoor

namespace Go.Proofs.YtijpfbcippijoaaGreatDoor
open Go.RowKit Go.Lib Sp
set_option maxRecDepth 100000
theorem bs_listk (l : List UInt8) : (bs l).data.toList = l := rfl
theorem bs_of (s : ByteArray) : bs s.data.toList = s := rfl
theorem bs_ext (l : List UInt8) (i k : Nat) : (bs l).extract i k = bs ((l.drop i).take (k - i)) := by
  rw [← bs_of ((bs l).extract i k), ext_mid, bs_listk]
def wordG (c : UInt8) (l : List UInt8) (i : Nat) : List UInt8 × Nat := if l.length < i then ([], l.length) else ((l.drop i).take (spanN c (l.drop i)), i + spanN c (l.drop i))
theorem wordG_le (c : UInt8) (l : List UInt8) (i : Nat) : (wordG c l i).1.length ≤ l.length ∧ (wordG c l i).2 ≤ l.length := by
  unfold wordG
  split
  · simp
  · have := spanN_le c (l.drop i)
    rw [List.length_drop] at this
    refine ⟨?_, by simp only; omega⟩
    simp only [List.length_take, List.length_drop]
    omega
theorem gWord_G (c : UInt8) (l : List UInt8) (hl : l.length ≤ 9223372036854775806) (i : Nat) (hi : i ≤ 9223372036854775807) (w : World) :
    Calls Tryz.prog 110 #[.string (bs l), .int .i64 (i : Int), .int .u8 (c.toNat : Int)] w fun e w' => e = .returned (.tuple #[.string (bs (wordG c l i).1), .int .i64 ((wordG c l i).2 : Int)]) ∧ w' = w := by
  unfold wordG
  split
  · rename_i h
    have := gWord_past (bs l) (by rw [bs_size]; omega) i (by rw [bs_size]; exact h) hi c w
    rw [bs_size] at this
    exact this
  · rename_i h
    have := gWord_any (bs l) (by rw [bs_size]; omega) i (by rw [bs_size]; omega) c w
    rw [bs_listk, bs_ext, Nat.add_sub_cancel_left] at this
    exact this
theorem gNumber_G (l : List UInt8) (hl : l.length ≤ 9223372036854775806) (w : World) :
    Calls Tryz.prog 112 #[.string (bs l)] w fun e w' => e = .returned (.int .i64 (numG l)) ∧ w' = w := gNumber_any (bs l) (by rw [bs_size]; omega) w
theorem gPair_G (c : UInt8) (l : List UInt8) (hl : l.length ≤ 9223372036854775806) (w : World) :
    Calls Tryz.prog 111 #[.string (bs l), .int .u8 (c.toNat : Int)] w fun e w' => e = .returned (.tuple #[.int .i64 (pairG c l).1, .int .i64 (pairG c l).2]) ∧ w' = w := gPair_any (bs l) (by rw [bs_size]; omega) c w
def idG (l : List UInt8) : Int × Int := if l = [45] then (0, 0) else pairG 46 l
def restG (l : List UInt8) (k : Nat) : List UInt8 := l.drop (k + 1)
theorem cf9 {W : World} {b : Nat} {T : TypeId} {v0 v1 v2 v3 v4 v5 v6 v7 v8 : Value} (h : W.heap[b]? = some (.cells #[v0, v1, v2, v3, v4, v5, v6, v7, v8] T)) :
    (W.cell? ⟨b, 0, none⟩ = some v0 ∧ W.cell? ⟨b, 1, none⟩ = some v1 ∧ W.cell? ⟨b, 2, none⟩ = some v2 ∧ W.cell? ⟨b, 3, none⟩ = some v3 ∧ W.cell? ⟨b, 4, none⟩ = some v4 ∧ W.cell? ⟨b, 5, none⟩ = some v5 ∧ W.cell? ⟨b, 6, none⟩ = some v6 ∧ W.cell? ⟨b, 7, none⟩ = some v7 ∧ W.cell? ⟨b, 8, none⟩ = some v8) ∧ W.frozen? ⟨b, 0, none⟩ = false ∧ W.frozen? ⟨b, 1, none⟩ = false ∧ W.frozen? ⟨b, 2, none⟩ = false ∧ W.frozen? ⟨b, 3, none⟩ = false ∧ W.frozen? ⟨b, 4, none⟩ = false ∧ W.frozen? ⟨b, 5, none⟩ = false ∧ W.frozen? ⟨b, 6, none⟩ = false ∧ W.frozen? ⟨b, 7, none⟩ = false ∧ W.frozen? ⟨b, 8, none⟩ = false :=
  ⟨by
    simp only [Lib.cell_of_heap h]
    exact ⟨rfl, rfl, rfl, rfl, rfl, rfl, rfl, rfl, rfl⟩, Lib.frozen_of_heap h 0, Lib.frozen_of_heap h 1, Lib.frozen_of_heap h 2, Lib.frozen_of_heap h 3, Lib.frozen_of_heap h 4, Lib.frozen_of_heap h 5, Lib.frozen_of_heap h 6, Lib.frozen_of_heap h 7, Lib.frozen_of_heap h 8⟩
end Go.Proofs.YtijpfbcippijoaaGreatDoor

namespace Go.Proofs.YtijpfbcippijoaaGreatDoor
open Go.RowKit Go.Lib Sp
set_option maxRecDepth 100000
theorem set9k {W : World} {b : Nat} {T : TypeId} {u0 u1 u2 u3 u4 u5 u6 u7 u8 : Value} (h : W.heap[b]? = some (.cells #[u0, u1, u2, u3, u4, u5, u6, u7, u8] T)) (v0 v1 v2 v3 v4 v5 v6 v7 v8 : Value) :
    (((((((((W.setCell ⟨b, 0, none⟩ v0).setCell ⟨b, 1, none⟩ v1).setCell ⟨b, 2, none⟩ v2).setCell ⟨b, 3, none⟩ v3).setCell ⟨b, 4, none⟩ v4).setCell ⟨b, 5, none⟩ v5).setCell ⟨b, 6, none⟩ v6).setCell ⟨b, 7, none⟩ v7).setCell ⟨b, 8, none⟩ v8).heap[b]? = some (.cells #[v0, v1, v2, v3, v4, v5, v6, v7, v8] T) := by
  have h0 := (heap_setCell_same _ b 0 _ _ v0 h).trans (by simp; rfl)
  have h1 := (heap_setCell_same _ b 1 _ _ v1 h0).trans (by simp; rfl)
  have h2 := (heap_setCell_same _ b 2 _ _ v2 h1).trans (by simp; rfl)
  have h3 := (heap_setCell_same _ b 3 _ _ v3 h2).trans (by simp; rfl)
  have h4 := (heap_setCell_same _ b 4 _ _ v4 h3).trans (by simp; rfl)
  have h5 := (heap_setCell_same _ b 5 _ _ v5 h4).trans (by simp; rfl)
  have h6 := (heap_setCell_same _ b 6 _ _ v6 h5).trans (by simp; rfl)
  have h7 := (heap_setCell_same _ b 7 _ _ v7 h6).trans (by simp; rfl)
  have h8 := (heap_setCell_same _ b 8 _ _ v8 h7).trans (by simp; rfl)
  exact h8
set_option maxHeartbeats 4000000 in
theorem gGuess_no (l : List UInt8) (hl : l.length ≤ 2097152) (w : World)
    (h1 : (wordG 32 l ((wordG 32 l 0).2 + 1)).1 ≠ [105, 110, 115]) (h2 : (wordG 32 l ((wordG 32 l 0).2 + 1)).1 ≠ [104, 105, 100, 101]) (h3 : (wordG 32 l ((wordG 32 l 0).2 + 1)).1 ≠ [115, 104, 111, 119]) (h4 : (wordG 32 l ((wordG 32 l 0).2 + 1)).1 ≠ [111, 110]) (h5 : (wordG 32 l ((wordG 32 l 0).2 + 1)).1 ≠ [111, 102, 102]) :
    Calls Tryz.prog 83 #[.string (bs l)] w fun e w' => e = .returned (opVal ⟨(idG (wordG 32 l 0).1).1, (idG (wordG 32 l 0).1).2, 0, 0, ⟨#[]⟩, [], 0, 0, false⟩ (.slice none 0 0)) ∧ Below w.heap.size w w' := by
  have hA := gWord_G 32 l (by omega) 0 (by omega)
  have hle1 := wordG_le 32 l 0
  obtain ⟨W1, hW1⟩ : ∃ p, wordG 32 l 0 = p := ⟨_, rfl⟩
  obtain ⟨a1, i1⟩ := W1
  rw [hW1] at hA hle1 h1 h2 h3 h4 h5 ⊢
  simp only at hA hle1 h1 h2 h3 h4 h5 ⊢
  have hB := gWord_G 32 l (by omega) (i1 + 1) (by omega)
  have hle2 := wordG_le 32 l (i1 + 1)
  obtain ⟨W2, hW2⟩ : ∃ p, wordG 32 l (i1 + 1) = p := ⟨_, rfl⟩
  obtain ⟨a2, i2⟩ := W2
  rw [hW2] at hB hle2 h1 h2 h3 h4 h5
  simp only at hB hle2 h1 h2 h3 h4 h5
  simp only [opVal]
  have HA : Hid (∀ w : World, Calls Tryz.prog 110 #[.string (bs l), .int .i64 0, .int .u8 32] w fun e w' => e = .returned (.tuple #[.string (bs a1), .int .i64 (i1 : Int)]) ∧ w' = w) := hA
  have HB : Hid (∀ w : World, Calls Tryz.prog 110 #[.string (bs l), .int .i64 ((i1 : Int) + 1), .int .u8 32] w fun e w' => e = .returned (.tuple #[.string (bs a2), .int .i64 (i2 : Int)]) ∧ w' = w) := hB
  have HP : Hid (∀ w : World, Calls Tryz.prog 111 #[.string (bs a1), .int .u8 46] w fun e w' => e = .returned (.tuple #[.int .i64 (pairG 46 a1).1, .int .i64 (pairG 46 a1).2]) ∧ w' = w) := fun w => gPair_G 46 a1 (by omega) w
  have hsz : (bs l).size = l.length := bs_size l
  have k1 : IntKind.i64.wrap ((i1 : Int) + 1) = (i1 : Int) + 1 := IntWalk.i64_in _ (by omega)
  have k2 : IntKind.i64.wrap ((i2 : Int) + 1) = (i2 : Int) + 1 := IntWalk.i64_in _ (by omega)
  have hl2 : (bs a2).toList = a2 := list_of a2
  have t1 : ((bs a2).toList == [105, 110, 115]) = false := by rw [hl2]; exact beq_eq_false_iff_ne.2 h1
  have t2 : ((bs a2).toList == [104, 105, 100, 101]) = false := by rw [hl2]; exact beq_eq_false_iff_ne.2 h2
  have t3 : ((bs a2).toList == [115, 104, 111, 119]) = false := by rw [hl2]; exact beq_eq_false_iff_ne.2 h3
  have t4 : ((bs a2).toList == [111, 110]) = false := by rw [hl2]; exact beq_eq_false_iff_ne.2 h4
  have t5 : ((bs a2).toList == [111, 102, 102]) = false := by rw [hl2]; exact beq_eq_false_iff_ne.2 h5
  have hl1 : (bs a1).toList = a1 := list_of a1
  have HID : Hid (idG a1 = if a1 = [45] then (0, 0) else pairG 46 a1) := rfl
  obtain ⟨V, hV⟩ : ∃ V, (w.alloc (Obj.cells #[.int .i64 0, .int .i64 0, .int .i64 0, .int .i64 0, .string ⟨#[]⟩, .slice none 0 0, .int .i64 0, .int .i64 0, .bool false] 44)).alloc (Obj.cells #[.int .i64 0, .int .i64 0, .int .i64 0, .int .i64 0, .string ⟨#[]⟩, .slice none 0 0, .int .i64 0, .int .i64 0, .bool false] 44) = V := ⟨_, rfl⟩
  have hX : Below w.heap.size w V := by rw [← hV]; exact ((Below.refl w.heap.size w).alloc (Nat.le_refl _) _).alloc (by simp) _
  have hx0 : V.heap[w.heap.size]? = some (Obj.cells #[.int .i64 0, .int .i64 0, .int .i64 0, .int .i64 0, .string ⟨#[]⟩, .slice none 0 0, .int .i64 0, .int .i64 0, .bool false] 44) := by rw [← hV]; exact (Below.heap_alloc _ _ _ (by simp)).trans (alloc_last _ _ _ rfl)
  have hx1 : V.heap[w.heap.size + 1]? = some (Obj.cells #[.int .i64 0, .int .i64 0, .int .i64 0, .int .i64 0, .string ⟨#[]⟩, .slice none 0 0, .int .i64 0, .int .i64 0, .bool false] 44) := by rw [← hV]; exact alloc_last _ _ _ (by simp)
  clear hA hB hW1 hW2 h1 h2 h3 h4 h5 hl2 hle1 hle2
  by_cases hd : a1 = [45]
  · have t0 : ((bs a1).toList == [45]) = true := by rw [hl1, hd]; rfl
    rw [show idG a1 = (0, 0) from by unfold idG; rw [if_pos hd]]
    dsimp only
    clear hd hl1 HID HP
    generalize bs a1 = A1 at *
    generalize bs a2 = A2 at *
    obtain ⟨⟨od0, od1, od2, od3, od4, od5, od6, od7, od8⟩, oz0, oz1, oz2, oz3, oz4, oz5, oz6, oz7, oz8⟩ := cf9 hx1
    obtain ⟨⟨pd0, pd1, pd2, pd3, pd4, pd5, pd6, pd7, pd8⟩, pz0, pz1, pz2, pz3, pz4, pz5, pz6, pz7, pz8⟩ := cf9 hx0
    have hq0 := hX.setCell (p := ⟨w.heap.size, 0, none⟩) (Nat.le_refl _) (.int .i64 0)
    have hq1 := hq0.setCell (p := ⟨w.heap.size, 1, none⟩) (Nat.le_refl _) (.int .i64 0)
    have hq2 := hq1.setCell (p := ⟨w.heap.size, 2, none⟩) (Nat.le_refl _) (.int .i64 0)
    have hq3 := hq2.setCell (p := ⟨w.heap.size, 3, none⟩) (Nat.le_refl _) (.int .i64 0)
    have hq4 := hq3.setCell (p := ⟨w.heap.size, 4, none⟩) (Nat.le_refl _) (.string ⟨#[]⟩)
    have hq5 := hq4.setCell (p := ⟨w.heap.size, 5, none⟩) (Nat.le_refl _) (.slice none 0 0)
    have hq6 := hq5.setCell (p := ⟨w.heap.size, 6, none⟩) (Nat.le_refl _) (.int .i64 0)
    have hq7 := hq6.setCell (p := ⟨w.heap.size, 7, none⟩) (Nat.le_refl _) (.int .i64 0)
    have hq8 := hq7.setCell (p := ⟨w.heap.size, 8, none⟩) (Nat.le_refl _) (.bool false)
    have hx9 := set9k hx0 (.int .i64 0) (.int .i64 0) (.int .i64 0) (.int .i64 0) (.string ⟨#[]⟩) (.slice none 0 0) (.int .i64 0) (.int .i64 0) (.bool false)
    obtain ⟨w9, hw9⟩ : ∃ w9, (((((((((V.setCell ⟨w.heap.size, 0, none⟩ (.int .i64 0)).setCell ⟨w.heap.size, 1, none⟩ (.int .i64 0)).setCell ⟨w.heap.size, 2, none⟩ (.int .i64 0)).setCell ⟨w.heap.size, 3, none⟩ (.int .i64 0)).setCell ⟨w.heap.size, 4, none⟩ (.string ⟨#[]⟩)).setCell ⟨w.heap.size, 5, none⟩ (.slice none 0 0)).setCell ⟨w.heap.size, 6, none⟩ (.int .i64 0)).setCell ⟨w.heap.size, 7, none⟩ (.int .i64 0)).setCell ⟨w.heap.size, 8, none⟩ (.bool false)) = w9 := ⟨_, rfl⟩
    rw [hw9] at hx9 hq8
    have r0 : w9.cell? ⟨w.heap.size, 0, none⟩ = some (.int .i64 0) := by rw [Lib.cell_of_heap hx9]; rfl
    have r1 : w9.cell? ⟨w.heap.size, 1, none⟩ = some (.int .i64 0) := by rw [Lib.cell_of_heap hx9]; rfl
    have r2 : w9.cell? ⟨w.heap.size, 2, none⟩ = some (.int .i64 0) := by rw [Lib.cell_of_heap hx9]; rfl
    have r3 : w9.cell? ⟨w.heap.size, 3, none⟩ = some (.int .i64 0) := by rw [Lib.cell_of_heap hx9]; rfl
    have r4 : w9.cell? ⟨w.heap.size, 4, none⟩ = some (.string ⟨#[]⟩) := by rw [Lib.cell_of_heap hx9]; rfl
    have r5 : w9.cell? ⟨w.heap.size, 5, none⟩ = some (.slice none 0 0) := by rw [Lib.cell_of_heap hx9]; rfl
    have r6 : w9.cell? ⟨w.heap.size, 6, none⟩ = some (.int .i64 0) := by rw [Lib.cell_of_heap hx9]; rfl
    have r7 : w9.cell? ⟨w.heap.size, 7, none⟩ = some (.int .i64 0) := by rw [Lib.cell_of_heap hx9]; rfl
    have r8 : w9.cell? ⟨w.heap.size, 8, none⟩ = some (.bool false) := by rw [Lib.cell_of_heap hx9]; rfl
    clear hq7 hq6 hq5 hq4 hq3 hq2 hq1 hq0
    go_enter Tryz.func83, Tryz.ntmps83
    go_wp2_with fail
    (try simp only [hV])
    refine (HA.out _).mono ?_
    rintro e w3 ⟨rfl, hw⟩
    obtain rfl := hw.symm
    clear hw
    go_wp2_with fail
    refine (HB.out _).mono ?_
    rintro e w3 ⟨rfl, hw⟩
    obtain rfl := hw.symm
    clear hw
    go_wp2_with fail
    all_goals (try rw [hw9])
    all_goals refine bodyPost_ret (v := .agg #[.int .i64 0, .int .i64 0, .int .i64 0, .int .i64 0, .string ⟨#[]⟩, .slice none 0 0, .int .i64 0, .int .i64 0, .bool false]) (by simp [results, Tryz.results83, go_sem, r0, r1, r2, r3, r4, r5, r6, r7, r8]) rfl ⟨rfl, hq8⟩
  · have t0 : ((bs a1).toList == [45]) = false := by rw [hl1]; exact beq_eq_false_iff_ne.2 hd
    rw [show idG a1 = pairG 46 a1 from by unfold idG; rw [if_neg hd]]
    clear hd hl1 HID
    generalize (pairG 46 a1).1 = c at *
    generalize (pairG 46 a1).2 = n at *
    generalize bs a1 = A1 at *
    generalize bs a2 = A2 at *
    obtain ⟨⟨od0, od1, od2, od3, od4, od5, od6, od7, od8⟩, oz0, oz1, oz2, oz3, oz4, oz5, oz6, oz7, oz8⟩ := cf9 hx1
    obtain ⟨⟨pd0, pd1, pd2, pd3, pd4, pd5, pd6, pd7, pd8⟩, pz0, pz1, pz2, pz3, pz4, pz5, pz6, pz7, pz8⟩ := cf9 hx0
    have sB0 := hX.setCell (p := ⟨w.heap.size + 1, 0, none⟩) (by simp) (.int .i64 c)
    have sB1 := sB0.setCell (p := ⟨w.heap.size + 1, 1, none⟩) (by simp) (.int .i64 n)
    have sx0 := (Below.heap_setCell (V.setCell ⟨w.heap.size + 1, 0, none⟩ (.int .i64 c)) ⟨w.heap.size + 1, 1, none⟩ (.int .i64 n) w.heap.size (by simp)).trans ((Below.heap_setCell V ⟨w.heap.size + 1, 0, none⟩ (.int .i64 c) w.heap.size (by simp)).trans hx0)
    have sy0 := (heap_setCell_same _ (w.heap.size + 1) 0 _ _ (.int .i64 c) hx1).trans (by simp; rfl)
    have sy1 := (heap_setCell_same _ (w.heap.size + 1) 1 _ _ (.int .i64 n) sy0).trans (by simp; rfl)
    have hq0 := sB1.setCell (p := ⟨w.heap.size, 0, none⟩) (Nat.le_refl _) (.int .i64 c)
    have hq1 := hq0.setCell (p := ⟨w.heap.size, 1, none⟩) (Nat.le_refl _) (.int .i64 n)
    have hq2 := hq1.setCell (p := ⟨w.heap.size, 2, none⟩) (Nat.le_refl _) (.int .i64 0)
    have hq3 := hq2.setCell (p := ⟨w.heap.size, 3, none⟩) (Nat.le_refl _) (.int .i64 0)
    have hq4 := hq3.setCell (p := ⟨w.heap.size, 4, none⟩) (Nat.le_refl _) (.string ⟨#[]⟩)
    have hq5 := hq4.setCell (p := ⟨w.heap.size, 5, none⟩) (Nat.le_refl _) (.slice none 0 0)
    have hq6 := hq5.setCell (p := ⟨w.heap.size, 6, none⟩) (Nat.le_refl _) (.int .i64 0)
    have hq7 := hq6.setCell (p := ⟨w.heap.size, 7, none⟩) (Nat.le_refl _) (.int .i64 0)
    have hq8 := hq7.setCell (p := ⟨w.heap.size, 8, none⟩) (Nat.le_refl _) (.bool false)
    have hx9 := set9k sx0 (.int .i64 c) (.int .i64 n) (.int .i64 0) (.int .i64 0) (.string ⟨#[]⟩) (.slice none 0 0) (.int .i64 0) (.int .i64 0) (.bool false)
    obtain ⟨w9, hw9⟩ : ∃ w9, (((((((((((V.setCell ⟨w.heap.size + 1, 0, none⟩ (.int .i64 c)).setCell ⟨w.heap.size + 1, 1, none⟩ (.int .i64 n)).setCell ⟨w.heap.size, 0, none⟩ (.int .i64 c)).setCell ⟨w.heap.size, 1, none⟩ (.int .i64 n)).setCell ⟨w.heap.size, 2, none⟩ (.int .i64 0)).setCell ⟨w.heap.size, 3, none⟩ (.int .i64 0)).setCell ⟨w.heap.size, 4, none⟩ (.string ⟨#[]⟩)).setCell ⟨w.heap.size, 5, none⟩ (.slice none 0 0)).setCell ⟨w.heap.size, 6, none⟩ (.int .i64 0)).setCell ⟨w.heap.size, 7, none⟩ (.int .i64 0)).setCell ⟨w.heap.size, 8, none⟩ (.bool false)) = w9 := ⟨_, rfl⟩
    rw [hw9] at hx9 hq8
    have r0 : w9.cell? ⟨w.heap.size, 0, none⟩ = some (.int .i64 c) := by rw [Lib.cell_of_heap hx9]; rfl
    have r1 : w9.cell? ⟨w.heap.size, 1, none⟩ = some (.int .i64 n) := by rw [Lib.cell_of_heap hx9]; rfl
    have r2 : w9.cell? ⟨w.heap.size, 2, none⟩ = some (.int .i64 0) := by rw [Lib.cell_of_heap hx9]; rfl
    have r3 : w9.cell? ⟨w.heap.size, 3, none⟩ = some (.int .i64 0) := by rw [Lib.cell_of_heap hx9]; rfl
    have r4 : w9.cell? ⟨w.heap.size, 4, none⟩ = some (.string ⟨#[]⟩) := by rw [Lib.cell_of_heap hx9]; rfl
    have r5 : w9.cell? ⟨w.heap.size, 5, none⟩ = some (.slice none 0 0) := by rw [Lib.cell_of_heap hx9]; rfl
    have r6 : w9.cell? ⟨w.heap.size, 6, none⟩ = some (.int .i64 0) := by rw [Lib.cell_of_heap hx9]; rfl
    have r7 : w9.cell? ⟨w.heap.size, 7, none⟩ = some (.int .i64 0) := by rw [Lib.cell_of_heap hx9]; rfl
    have r8 : w9.cell? ⟨w.heap.size, 8, none⟩ = some (.bool false) := by rw [Lib.cell_of_heap hx9]; rfl
    clear hq7 hq6 hq5 hq4 hq3 hq2 hq1 hq0
    obtain ⟨V1, hV1⟩ : ∃ V1, ((V.setCell ⟨w.heap.size + 1, 0, none⟩ (.int .i64 c)).setCell ⟨w.heap.size + 1, 1, none⟩ (.int .i64 n)) = V1 := ⟨_, rfl⟩
    rw [hV1] at sx0 sy1 hw9
    obtain ⟨⟨qd0, qd1, qd2, qd3, qd4, qd5, qd6, qd7, qd8⟩, qz0, qz1, qz2, qz3, qz4, qz5, qz6, qz7, qz8⟩ := cf9 sy1
    obtain ⟨⟨sd0, sd1, sd2, sd3, sd4, sd5, sd6, sd7, sd8⟩, sz0, sz1, sz2, sz3, sz4, sz5, sz6, sz7, sz8⟩ := cf9 sx0
    go_enter Tryz.func83, Tryz.ntmps83
    go_wp2_with fail
    (try simp only [hV])
    refine (HA.out _).mono ?_
    rintro e w3 ⟨rfl, hw⟩
    obtain rfl := hw.symm
    clear hw
    go_wp2_with fail
    refine (HB.out _).mono ?_
    rintro e w3 ⟨rfl, hw⟩
    obtain rfl := hw.symm
    clear hw
    go_wp2_with fail
    all_goals
      refine (HP.out _).mono ?_
      rintro e w3 ⟨rfl, hw⟩
      obtain rfl := hw.symm
      clear hw
      go_wp2_with fail
      (try simp only [hV1])
      (try go_wp2_with fail)
    all_goals (try rw [hw9])
    all_goals refine bodyPost_ret (v := .agg #[.int .i64 c, .int .i64 n, .int .i64 0, .int .i64 0, .string ⟨#[]⟩, .slice none 0 0, .int .i64 0, .int .i64 0, .bool false]) (by simp [results, Tryz.results83, go_sem, r0, r1, r2, r3, r4, r5, r6, r7, r8]) rfl ⟨rfl, hq8⟩
end Go.Proofs.YtijpfbcippijoaaGreatDoor
