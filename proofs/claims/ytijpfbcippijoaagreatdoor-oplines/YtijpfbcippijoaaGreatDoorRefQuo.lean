import Derived.Test.YtijpfbcippijoaaGreatDoorOpLR
import Derived.Test.YtijpfbcippijoaaGreatDoorBrk
import Derived.Test.YtijpfbcippijoaaGreatDoorRefStr8
namespace Go.Proofs.YtijpfbcippijoaaGreatDoor
open Go.RowKit Go.Lib
theorem ndig_of2 {u j : Nat} (hu : u ≤ 1114111) (hj : 1 ≤ j) (h1 : u / 16 ^ j = 0) (h2 : j = 1 ∨ 1 ≤ u / 16 ^ (j - 1)) (h6 : j ≤ 6) : ndig u = j := by
  unfold ndig
  have : j = 1 ∨ j = 2 ∨ j = 3 ∨ j = 4 ∨ j = 5 ∨ j = 6 := by omega
  rcases this with rfl | rfl | rfl | rfl | rfl | rfl <;> simp at h1 h2 <;> (repeat' split) <;> omega
theorem digTab (d : Nat) (h : d < 16) : (⟨#[48, 49, 50, 51, 52, 53, 54, 55, 56, 57, 97, 98, 99, 100, 101, 102]⟩ : ByteArray).extract d (d + 1) = ⟨[hexd d].toArray⟩ := by
  have : d = 0 ∨ d = 1 ∨ d = 2 ∨ d = 3 ∨ d = 4 ∨ d = 5 ∨ d = 6 ∨ d = 7 ∨ d = 8 ∨ d = 9 ∨ d = 10 ∨ d = 11 ∨ d = 12 ∨ d = 13 ∨ d = 14 ∨ d = 15 := by omega
  rcases this with rfl | rfl | rfl | rfl | rfl | rfl | rfl | rfl | rfl | rfl | rfl | rfl | rfl | rfl | rfl | rfl <;> rfl
set_option maxHeartbeats 1000000 in
theorem digits_any (u least : Nat) (hu : u ≤ 1114111) (hl : least = 1 ∨ (least = 2 ∧ 16 ≤ u)) (w : World) :
    Calls Tryz.prog 103 #[.int .i64 u, .int .i64 least] w fun e w' => e = .returned (.string ⟨(hexL u).toArray⟩) ∧ w' = w := by
  have HLE : Hid (least = 1 ∨ (least = 2 ∧ 16 ≤ u)) := hl
  have hl2 : 1 ≤ least ∧ least ≤ 2 := by omega
  clear hl
  go_enter Tryz.func103, Tryz.ntmps103
  go_wp2_with fail
  go_loopw [0, 5, 6] (fun n s _ w' => ∃ (j : Nat) (tx : ByteArray), j ≤ 6 ∧ n = .int .i64 (u / 16 ^ j : Nat) ∧ s = .string tx ∧ w' = w ∧ tx.size ≤ j ∧ j ≤ tx.size ∧ Hid (tx = ⟨(hexN u j).toArray⟩) ∧ Hid (j ≤ least ∨ 1 ≤ u / 16 ^ (j - 1))) (fun n s _ _ => (RowKit.intOf n).toNat + (2 - (match s with | .string t => t.size | _ => 0)))
  case atStart => exact ⟨0, ⟨#[]⟩, by decide, by simp, rfl, rfl, by decide, by decide, rfl, .inl (Nat.zero_le _)⟩
  case round =>
    obtain ⟨j, tx, hj, rfl, rfl, rfl, hz1, hz2, HT, HM⟩ := hrel
    have hv : u / 16 ^ j ≤ 1114111 := Nat.le_trans (Nat.div_le_self _ _) hu
    obtain ⟨v, hv0⟩ : ∃ v, u / 16 ^ j = v := ⟨_, rfl⟩
    rw [hv0] at hv
    have HV : Hid (u / 16 ^ j = v) := hv0
    rw [hv0]
    clear hv0
    have hx := digTab (v % 16) (Nat.mod_lt _ (by decide))
    have HE : Hid ((⟨[hexd (v % 16)].toArray⟩ : ByteArray) ++ tx = ⟨(hexN u (j + 1)).toArray⟩) := by
      show _ = _
      rw [HT.out, catL]
      show _ = (⟨(hexd (u / 16 ^ j % 16) :: hexN u j).toArray⟩ : ByteArray)
      rw [HV.out]
      rfl
    have HD2 : Hid (u / 16 ^ (j + 1) = v / 16) := by
      show _ = _
      rw [Nat.pow_succ, ← Nat.div_div_eq_div_mul, HV.out]
    have HJ : Hid (1 ≤ v → j ≤ 5) := by
      intro h
      rcases Nat.lt_or_ge j 6 with h5 | h5
      · omega
      · have hj5 : j = 6 := by omega
        have h6 := HV.out
        rw [hj5] at h6
        have h7 : u / 16 ^ 6 ≤ 1114111 / 16 ^ 6 := Nat.div_le_div_right hu
        have h8 : 1114111 / 16 ^ 6 = 0 := by decide
        omega
    by_cases h0 : 0 < v
    · go_wp2_with fail
      refine ⟨⟨j + 1, _, ?_, ?_, rfl, trivial, ?_, ?_, HE.out, .inr ?_⟩, ?_⟩
      · have := HJ.out h0; omega
      · rw [HD2.out]; rfl
      · rw [ByteArray.size_append]; show 1 + _ ≤ _; omega
      · rw [ByteArray.size_append]; show _ ≤ 1 + _; omega
      · rw [Nat.add_sub_cancel, HV.out]; omega
      · have e : ((⟨#[hexd (v % 16)]⟩ : ByteArray) ++ tx).size = 1 + tx.size := by rw [ByteArray.size_append]; rfl
        simp only [RowKit.intOf, e]
        omega
    · obtain rfl : v = 0 := by omega
      have hx0 := digTab 0 (by decide)
      have HE0 : Hid ((⟨#[hexd 0]⟩ : ByteArray) ++ tx = ⟨(hexN u (j + 1)).toArray⟩) := HE.out
      clear hx HE
      by_cases hjl : j < least
      · have d1 : decide ((tx.size : Int) < (least : Int)) = true := decide_eq_true (by omega)
        go_wp2_with fail
        refine ⟨⟨j + 1, _, ?_, ?_, rfl, trivial, ?_, ?_, HE0.out, .inl (by omega)⟩, ?_⟩
        · omega
        · rw [HD2.out]; rfl
        · rw [ByteArray.size_append]; show 1 + _ ≤ _; omega
        · rw [ByteArray.size_append]; show _ ≤ 1 + _; omega
        · have e : ((⟨#[hexd 0]⟩ : ByteArray) ++ tx).size = 1 + tx.size := by rw [ByteArray.size_append]; rfl
          simp only [RowKit.intOf, e]
          omega
      · have d1 : decide ((tx.size : Int) < (least : Int)) = false := decide_eq_false (by omega)
        have HN : Hid (tx = ⟨(hexL u).toArray⟩) := by
          show _ = _
          have h2 : j = 1 ∨ 1 ≤ u / 16 ^ (j - 1) := by
            rcases HM.out with h | h
            · rcases HLE.out with h3 | ⟨h3, h4⟩
              · left; omega
              · right
                have : j = 2 := by omega
                subst this
                simp
                omega
            · exact .inr h
          unfold hexL
          rw [ndig_of2 hu (by omega) HV.out h2 hj]
          exact HT.out
        go_wp2_with fail
        go_ret
        rw [← HN.out]
        exact ⟨rfl, rfl⟩
set_option maxHeartbeats 1000000 in
set_option maxRecDepth 100000 in
theorem written_any (r : Nat) (hr : r ≤ 1114111) (w : World) :
    Calls Tryz.prog 104 #[.int .i64 r] w fun e w' => e = .returned (.string ⟨(qR r).toArray⟩) ∧ Below w.heap.size w w' := by
  by_cases h1 : r = 34
  · subst h1
    go_enter Tryz.func104, Tryz.ntmps104
    go_wp2_with fail
    go_ret
    exact ⟨rfl, Below.refl _ _⟩
  by_cases h2 : r = 92
  · subst h2
    go_enter Tryz.func104, Tryz.ntmps104
    go_wp2_with fail
    go_ret
    exact ⟨rfl, Below.refl _ _⟩
  by_cases h3 : r = 10
  · subst h3
    go_enter Tryz.func104, Tryz.ntmps104
    go_wp2_with fail
    go_ret
    exact ⟨rfl, Below.refl _ _⟩
  by_cases h4 : r = 9
  · subst h4
    go_enter Tryz.func104, Tryz.ntmps104
    go_wp2_with fail
    go_ret
    exact ⟨rfl, Below.refl _ _⟩
  have t1 : ((r : Int) == 34) = false := beq_eq_false_iff_ne.2 (by omega)
  have t2 : ((r : Int) == 92) = false := beq_eq_false_iff_ne.2 (by omega)
  have t3 : ((r : Int) == 10) = false := beq_eq_false_iff_ne.2 (by omega)
  have t4 : ((r : Int) == 9) = false := beq_eq_false_iff_ne.2 (by omega)
  by_cases h5 : 32 ≤ r ∧ r ≤ 126
  · have hq : qR r = [UInt8.ofNat r] := by
      unfold qR
      rw [if_neg h1, if_neg h2, if_neg h3, if_neg h4, if_pos h5]
    rw [hq]
    obtain ⟨h6, h7⟩ := h5
    have hcv : ∀ T, (convert 85 9 (.slice (some ⟨w.heap.size, 0, none⟩) 1 1)).run Tryz.prog (w.alloc (.cells #[.int .u8 (r : Int)] T)) = _ := fun T => conv_arr (l := [UInt8.ofNat r]) (alloc_new w _) (by
      have e : (UInt8.ofNat r).toNat = r := ofNat_toNat r (by omega)
      simp [Lib.byteCells, e]) rfl
    go_enter Tryz.func104, Tryz.ntmps104
    go_wp2_with fail
    go_ret
    exact ⟨rfl, (Below.refl _ _).alloc (Nat.le_refl _) _⟩
  · have hq : qR r = [92, 117, 123] ++ hexL r ++ [125] := by
      unfold qR
      rw [if_neg h1, if_neg h2, if_neg h3, if_neg h4, if_neg h5]
    have hl := hexL_len r
    rw [← sizeL (hexL r)] at hl
    have hC : (⟨#[92, 117, 123]⟩ : ByteArray) ++ ⟨(hexL r).toArray⟩ ++ ⟨#[125]⟩ = ⟨(qR r).toArray⟩ := by
      rw [hq, ← catL, ← catL]
    obtain ⟨tx, htx⟩ : ∃ tx, (⟨(hexL r).toArray⟩ : ByteArray) = tx := ⟨_, rfl⟩
    rw [htx] at hl hC
    have HT : Hid ((⟨(hexL r).toArray⟩ : ByteArray) = tx) := htx
    have HC : Hid ((⟨#[92, 117, 123]⟩ : ByteArray) ++ tx ++ ⟨#[125]⟩ = ⟨(qR r).toArray⟩) := hC
    clear htx hC hq
    have h6 : r < 32 ∨ 126 < r := by omega
    rcases h6 with h6 | h6
    · go_enter Tryz.func104, Tryz.ntmps104
      go_wp2_with fail
      refine (digits_any r 1 hr (.inl rfl) _).mono ?_
      rintro e w1 ⟨rfl, rfl⟩
      rw [HT.out]
      go_wp2_with fail
      go_ret
      rw [← HC.out]
      exact ⟨rfl, Below.refl _ _⟩
    · go_enter Tryz.func104, Tryz.ntmps104
      go_wp2_with fail
      refine (digits_any r 1 hr (.inl rfl) _).mono ?_
      rintro e w1 ⟨rfl, rfl⟩
      rw [HT.out]
      go_wp2_with fail
      go_ret
      rw [← HC.out]
      exact ⟨rfl, Below.refl _ _⟩
theorem own_keep {w w' : World} {B e size n : Nat} {v : Value} {xs : List Value} (h : w.ownsRow B e size v n xs) (hb : Below w.heap.size w w') : w'.ownsRow B e size v n xs := by
  refine ⟨h.1, ?_⟩
  rcases h.2 with h0 | ⟨g, cap, cur, hv, hB, hh, rest⟩
  · exact .inl h0
  · exact .inr ⟨g, cap, cur, hv, hB, (hb.block g (Array.getElem?_eq_some_iff.1 hh).1).trans hh, rest⟩
theorem byteL (l : List UInt8) (x : Nat) (hx : x < l.length) (h : x < (⟨l.toArray⟩ : ByteArray).size) : ((⟨l.toArray⟩ : ByteArray)[x]'h).toNat = (l.getD x 0).toNat := by
  have h2 : x < l.toArray.size := h
  have e : (⟨l.toArray⟩ : ByteArray)[x]'h = l.toArray[x]'h2 := rfl
  rw [e, List.getD_eq_getElem?_getD, List.getElem?_eq_getElem hx]
  simp
theorem own_one (w : World) (T : TypeId) (v : Value) : (w.alloc (.cells #[v] T)).ownsRow w.heap.size T 1 (.slice (some ⟨w.heap.size, 0, none⟩) 1 1) 1 [v] :=
  ⟨rfl, .inr ⟨w.heap.size, 1, #[v], rfl, Nat.le_refl _, alloc_new w _, Nat.le_refl _, by decide, rfl, rfl⟩⟩
end Go.Proofs.YtijpfbcippijoaaGreatDoor
