import Derived.Test.YtijpfbcippijoaaGreatDoorRefR
import Derived.Maps.AppendAt
import Derived.Laws.BytesArg
import Derived.Test.YtijpfbcippijoaaGreatDoorOpLR
import Derived.Test.YtijpfbcippijoaaGreatDoorGr25
namespace Go.Proofs.YtijpfbcippijoaaGreatDoor
open Go.RowKit Go.Lib
set_option maxHeartbeats 1000000 in
set_option maxRecDepth 100000 in
theorem bytes_1 (r : Int) (h0 : 0 ≤ r) (h1 : r < 128) (w : World) :
    Calls Tryz.prog 141 #[.int .i64 r] w fun e w' => e = .returned (.slice (some ⟨w.heap.size, 0, none⟩) 1 1) ∧ w' = w.alloc (.cells #[.int .u8 r] 5) := by
  go_enter Tryz.func141, Tryz.ntmps141
  go_wp2_with fail
  go_ret
  exact ⟨rfl, rfl⟩
set_option maxHeartbeats 1000000 in
set_option maxRecDepth 100000 in
theorem bytes_2 (r : Int) (h0 : 128 ≤ r) (h1 : r < 2048) (w : World) :
    Calls Tryz.prog 141 #[.int .i64 r] w fun e w' => e = .returned (.slice (some ⟨w.heap.size, 0, none⟩) 2 2) ∧ w' = w.alloc (.cells #[.int .u8 (192 + r / 64), .int .u8 (128 + r % 64)] 5) := by
  go_enter Tryz.func141, Tryz.ntmps141
  go_wp2_with fail
  go_ret
  exact ⟨rfl, rfl⟩
set_option maxHeartbeats 1000000 in
set_option maxRecDepth 100000 in
theorem bytes_3 (r : Int) (h0 : 2048 ≤ r) (h1 : r < 65536) (w : World) :
    Calls Tryz.prog 141 #[.int .i64 r] w fun e w' => e = .returned (.slice (some ⟨w.heap.size, 0, none⟩) 3 3) ∧ w' = w.alloc (.cells #[.int .u8 (224 + r / 4096), .int .u8 (128 + r / 64 % 64), .int .u8 (128 + r % 64)] 5) := by
  go_enter Tryz.func141, Tryz.ntmps141
  go_wp2_with fail
  go_ret
  exact ⟨rfl, rfl⟩
set_option maxHeartbeats 1000000 in
set_option maxRecDepth 100000 in
theorem bytes_4 (r : Int) (h0 : 65536 ≤ r) (h1 : r ≤ 1114111) (w : World) :
    Calls Tryz.prog 141 #[.int .i64 r] w fun e w' => e = .returned (.slice (some ⟨w.heap.size, 0, none⟩) 4 4) ∧ w' = w.alloc (.cells #[.int .u8 (240 + r / 262144), .int .u8 (128 + r / 4096 % 64), .int .u8 (128 + r / 64 % 64), .int .u8 (128 + r % 64)] 5) := by
  go_enter Tryz.func141, Tryz.ntmps141
  go_wp2_with fail
  go_ret
  exact ⟨rfl, rfl⟩
theorem toNat_u8 (n : Nat) (h : n < 256) : ((UInt8.ofNat n).toNat : Int) = n := by
  rw [UInt8.toNat_ofNat']
  omega
theorem bytes_any (r : Int) (hv : Utf8.valid r = true) (w : World) :
    Calls Tryz.prog 141 #[.int .i64 r] w fun e w' => ∃ C : Array Value, e = .returned (.slice (some ⟨w.heap.size, 0, none⟩) (encB r).length (encB r).length) ∧ w' = w.alloc (.cells C 5) ∧ C.toList = Lib.byteCells (encB r) := by
  obtain ⟨h0, h1, _⟩ := valid_le hv
  obtain ⟨c, rfl⟩ := Int.eq_ofNat_of_zero_le h0
  by_cases k1 : c < 128
  · refine (bytes_1 c (by omega) (by omega) w).mono ?_
    rintro e w' ⟨rfl, rfl⟩
    rw [encB1 c k1]
    exact ⟨_, rfl, rfl, by simp only [Lib.byteCells, List.map_cons, List.map_nil, toNat_u8 c (by omega)]⟩
  · by_cases k2 : c < 2048
    · refine (bytes_2 c (by omega) (by omega) w).mono ?_
      rintro e w' ⟨rfl, rfl⟩
      rw [encB2 c k2 (by omega)]
      refine ⟨_, rfl, rfl, ?_⟩
      simp only [Lib.byteCells, List.map_cons, List.map_nil, toNat_u8 (0xC0 + c / 64) (by omega), toNat_u8 (0x80 + c % 64) (by omega)]
      rfl
    · by_cases k3 : c < 65536
      · refine (bytes_3 c (by omega) (by omega) w).mono ?_
        rintro e w' ⟨rfl, rfl⟩
        rw [encB3 c k3 (by omega) hv]
        refine ⟨_, rfl, rfl, ?_⟩
        simp only [Lib.byteCells, List.map_cons, List.map_nil, toNat_u8 (0xE0 + c / 4096) (by omega), toNat_u8 (0x80 + c / 64 % 64) (by omega), toNat_u8 (0x80 + c % 64) (by omega)]
        rfl
      · refine (bytes_4 c (by omega) (by omega) w).mono ?_
        rintro e w' ⟨rfl, rfl⟩
        rw [encB4 c (by omega) hv]
        refine ⟨_, rfl, rfl, ?_⟩
        simp only [Lib.byteCells, List.map_cons, List.map_nil, toNat_u8 (0xF0 + c / 262144) (by omega), toNat_u8 (0x80 + c / 4096 % 64) (by omega), toNat_u8 (0x80 + c / 64 % 64) (by omega), toNat_u8 (0x80 + c % 64) (by omega)]
        rfl
theorem encB_le8 (r : Int) : (encB r).length ≤ 4 := by
  unfold encB
  rw [encode_if]
  unfold enc2
  simp only
  repeat' split
  all_goals simp
theorem info8 : (Tryz.prog.info? 5).map (fun i => (i.zero, i.size, i.bytes)) = some (some (.int .u8 0), 1, 1) := by kernel_rfl
theorem conv_own {W : World} {B n : Nat} {v : Value} {l : List UInt8} (h : W.ownsRow B 5 1 v n (Lib.byteCells l)) : (convert 85 9 v).run Tryz.prog W = .ok (.string ⟨l.toArray⟩) W := by
  have hlen : l.length = n := by have := h.1; rw [Lib.byteCells_length] at this; omega
  rcases h.2 with ⟨rfl, rfl⟩ | ⟨g, cap, cur, rfl, _, hh, hn, _, hsz, htk⟩
  · obtain rfl := List.length_eq_zero_iff.1 hlen
    exact run_convert_bytes_nil (P := Tryz.prog) W 85 5 Tryz.underlying85 Tryz.underlying5 0 0 9 Tryz.underlying9
  · have := run_convert_bytes_arg (P := Tryz.prog) W 85 5 Tryz.underlying85 Tryz.underlying5 g 0 n cap (l.map fun b => (b.toNat : Int)) (by simpa using hlen) (fun j hj => by
      have e1 : cur.toList[j]? = (Lib.byteCells l)[j]? := by
        rw [← htk, List.getElem?_take, if_pos (by omega)]
      rw [Nat.zero_add]
      simp only [World.cell?, hh]
      simp only [Array.getElem?_toList] at e1
      rw [e1]
      simp [Lib.byteCells, List.getElem?_eq_getElem (show j < l.length by omega), List.getD_eq_getElem?_getD]) 9 Tryz.underlying9
    rw [this]
    have e : strOfNums (l.map fun b => (b.toNat : Int)) = ⟨l.toArray⟩ := by
      unfold strOfNums
      simp [Function.comp_def]
    rw [e]
theorem cell_new8 (w : World) (x : Value) (t : TypeId) : ∀ j u, [x][j]? = some u → (w.alloc (.cells #[x] t)).cell? ((⟨w.heap.size, 0, none⟩ : Addr).add j) = some u := cell_newI w x t
theorem byteCells_append (a b : List UInt8) : Lib.byteCells (a ++ b) = Lib.byteCells a ++ Lib.byteCells b := by simp [Lib.byteCells]
theorem take_snoc8 (l : List UInt8) (i : Nat) (hi : i < l.length) : Lib.byteCells (l.take i) ++ [Value.int .u8 (l.getD i 0).toNat] = Lib.byteCells (l.take (i + 1)) := by
  rw [List.take_succ_eq_append_getElem hi, byteCells_append]
  simp only [List.getD_eq_getElem?_getD, List.getElem?_eq_getElem hi]
  rfl
end Go.Proofs.YtijpfbcippijoaaGreatDoor

namespace Go.Proofs.YtijpfbcippijoaaGreatDoor
open Go.RowKit Go.Lib
theorem ndig_of2 {u j : Nat} (hu : u ≤ 1114111) (hj : 1 ≤ j) (h1 : u / 16 ^ j = 0) (h2 : j = 1 ∨ 1 ≤ u / 16 ^ (j - 1)) (h6 : j ≤ 6) : ndig u = j := by
  unfold ndig
  have : j = 1 ∨ j = 2 ∨ j = 3 ∨ j = 4 ∨ j = 5 ∨ j = 6 := by omega
  rcases this with rfl | rfl | rfl | rfl | rfl | rfl <;> simp at h1 h2 <;> (repeat' split) <;> omega
theorem digTab (d : Nat) (h : d < 16) : (⟨#[48, 49, 50, 51, 52, 53, 54, 55, 56, 57, 97, 98, 99, 100, 101, 102]⟩ : ByteArray).extract d (d + 1) = ⟨[hexd d].toArray⟩ := by
  have : d = 0 ∨ d = 1 ∨ d = 2 ∨ d = 3 ∨ d = 4 ∨ d = 5 ∨ d = 6 ∨ d = 7 ∨ d = 8 ∨ d = 9 ∨ d = 10 ∨ d = 11 ∨ d = 12 ∨ d = 13 ∨ d = 14 ∨ d = 15 := by omega
  rcases this with rfl | rfl | rfl | rfl | rfl | rfl | rfl | rfl | rfl | rfl | rfl | rfl | rfl | rfl | rfl | rfl <;> rfl
set_option maxHeartbeats 1000000 in
theorem digits_any (u least : Nat) (hu : u ≤ 1114111) (hl : least = 1 ∨ (least = 2 ∧ 16 ≤ u)) (w : World) :
    Calls Tryz.prog 103 #[.int .i64 u, .int .i64 least] w fun e w' => e = .returned (.string ⟨(hexL u).toArray⟩) ∧ w' = w := by
  have HLE : Hid (least = 1 ∨ (least = 2 ∧ 16 ≤ u)) := hl
  have hl2 : 1 ≤ least ∧ least ≤ 2 := by omega
  clear hl
  go_enter Tryz.func103, Tryz.ntmps103
  go_wp2_with fail
  go_loopw [0, 5, 6] (fun n s _ w' => ∃ (j : Nat) (tx : ByteArray), j ≤ 6 ∧ n = .int .i64 (u / 16 ^ j : Nat) ∧ s = .string tx ∧ w' = w ∧ tx.size ≤ j ∧ j ≤ tx.size ∧ Hid (tx = ⟨(hexN u j).toArray⟩) ∧ Hid (j ≤ least ∨ 1 ≤ u / 16 ^ (j - 1))) (fun n s _ _ => (RowKit.intOf n).toNat + (2 - (match s with | .string t => t.size | _ => 0)))
  case atStart => exact ⟨0, ⟨#[]⟩, by decide, by simp, rfl, rfl, by decide, by decide, rfl, .inl (Nat.zero_le _)⟩
  case round =>
    obtain ⟨j, tx, hj, rfl, rfl, rfl, hz1, hz2, HT, HM⟩ := hrel
    have hv : u / 16 ^ j ≤ 1114111 := Nat.le_trans (Nat.div_le_self _ _) hu
    obtain ⟨v, hv0⟩ : ∃ v, u / 16 ^ j = v := ⟨_, rfl⟩
    rw [hv0] at hv
    have HV : Hid (u / 16 ^ j = v) := hv0
    rw [hv0]
    clear hv0
    have hx := digTab (v % 16) (Nat.mod_lt _ (by decide))
    have HE : Hid ((⟨[hexd (v % 16)].toArray⟩ : ByteArray) ++ tx = ⟨(hexN u (j + 1)).toArray⟩) := by
      show _ = _
      rw [HT.out, catL]
      show _ = (⟨(hexd (u / 16 ^ j % 16) :: hexN u j).toArray⟩ : ByteArray)
      rw [HV.out]
      rfl
    have HD2 : Hid (u / 16 ^ (j + 1) = v / 16) := by
      show _ = _
      rw [Nat.pow_succ, ← Nat.div_div_eq_div_mul, HV.out]
    have HJ : Hid (1 ≤ v → j ≤ 5) := by
      intro h
      rcases Nat.lt_or_ge j 6 with h5 | h5
      · omega
      · have hj5 : j = 6 := by omega
        have h6 := HV.out
        rw [hj5] at h6
        have h7 : u / 16 ^ 6 ≤ 1114111 / 16 ^ 6 := Nat.div_le_div_right hu
        have h8 : 1114111 / 16 ^ 6 = 0 := by decide
        omega
    by_cases h0 : 0 < v
    · go_wp2_with fail
      refine ⟨⟨j + 1, _, ?_, ?_, rfl, trivial, ?_, ?_, HE.out, .inr ?_⟩, ?_⟩
      · have := HJ.out h0; omega
      · rw [HD2.out]; rfl
      · rw [ByteArray.size_append]; show 1 + _ ≤ _; omega
      · rw [ByteArray.size_append]; show _ ≤ 1 + _; omega
      · rw [Nat.add_sub_cancel, HV.out]; omega
      · have e : ((⟨#[hexd (v % 16)]⟩ : ByteArray) ++ tx).size = 1 + tx.size := by rw [ByteArray.size_append]; rfl
        simp only [RowKit.intOf, e]
        omega
    · obtain rfl : v = 0 := by omega
      have hx0 := digTab 0 (by decide)
      have HE0 : Hid ((⟨#[hexd 0]⟩ : ByteArray) ++ tx = ⟨(hexN u (j + 1)).toArray⟩) := HE.out
      clear hx HE
      by_cases hjl : j < least
      · have d1 : decide ((tx.size : Int) < (least : Int)) = true := decide_eq_true (by omega)
        go_wp2_with fail
        refine ⟨⟨j + 1, _, ?_, ?_, rfl, trivial, ?_, ?_, HE0.out, .inl (by omega)⟩, ?_⟩
        · omega
        · rw [HD2.out]; rfl
        · rw [ByteArray.size_append]; show 1 + _ ≤ _; omega
        · rw [ByteArray.size_append]; show _ ≤ 1 + _; omega
        · have e : ((⟨#[hexd 0]⟩ : ByteArray) ++ tx).size = 1 + tx.size := by rw [ByteArray.size_append]; rfl
          simp only [RowKit.intOf, e]
          omega
      · have d1 : decide ((tx.size : Int) < (least : Int)) = false := decide_eq_false (by omega)
        have HN : Hid (tx = ⟨(hexL u).toArray⟩) := by
          show _ = _
          have h2 : j = 1 ∨ 1 ≤ u / 16 ^ (j - 1) := by
            rcases HM.out with h | h
            · rcases HLE.out with h3 | ⟨h3, h4⟩
              · left; omega
              · right
                have : j = 2 := by omega
                subst this
                simp
                omega
            · exact .inr h
          unfold hexL
          rw [ndig_of2 hu (by omega) HV.out h2 hj]
          exact HT.out
        go_wp2_with fail
        go_ret
        rw [← HN.out]
        exact ⟨rfl, rfl⟩
set_option maxHeartbeats 1000000 in
set_option maxRecDepth 100000 in
theorem written_any (r : Nat) (hr : r ≤ 1114111) (w : World) :
    Calls Tryz.prog 104 #[.int .i64 r] w fun e w' => e = .returned (.string ⟨(qR r).toArray⟩) ∧ Below w.heap.size w w' := by
  by_cases h1 : r = 34
  · subst h1
    go_enter Tryz.func104, Tryz.ntmps104
    go_wp2_with fail
    go_ret
    exact ⟨rfl, Below.refl _ _⟩
  by_cases h2 : r = 92
  · subst h2
    go_enter Tryz.func104, Tryz.ntmps104
    go_wp2_with fail
    go_ret
    exact ⟨rfl, Below.refl _ _⟩
  by_cases h3 : r = 10
  · subst h3
    go_enter Tryz.func104, Tryz.ntmps104
    go_wp2_with fail
    go_ret
    exact ⟨rfl, Below.refl _ _⟩
  by_cases h4 : r = 9
  · subst h4
    go_enter Tryz.func104, Tryz.ntmps104
    go_wp2_with fail
    go_ret
    exact ⟨rfl, Below.refl _ _⟩
  have t1 : ((r : Int) == 34) = false := beq_eq_false_iff_ne.2 (by omega)
  have t2 : ((r : Int) == 92) = false := beq_eq_false_iff_ne.2 (by omega)
  have t3 : ((r : Int) == 10) = false := beq_eq_false_iff_ne.2 (by omega)
  have t4 : ((r : Int) == 9) = false := beq_eq_false_iff_ne.2 (by omega)
  by_cases h5 : 32 ≤ r ∧ r ≤ 126
  · have hq : qR r = [UInt8.ofNat r] := by
      unfold qR
      rw [if_neg h1, if_neg h2, if_neg h3, if_neg h4, if_pos h5]
    rw [hq]
    obtain ⟨h6, h7⟩ := h5
    have hcv : ∀ T, (convert 85 9 (.slice (some ⟨w.heap.size, 0, none⟩) 1 1)).run Tryz.prog (w.alloc (.cells #[.int .u8 (r : Int)] T)) = _ := fun T => conv_arr (l := [UInt8.ofNat r]) (alloc_new w _) (by
      have e : (UInt8.ofNat r).toNat = r := ofNat_toNat r (by omega)
      simp [Lib.byteCells, e]) rfl
    go_enter Tryz.func104, Tryz.ntmps104
    go_wp2_with fail
    go_ret
    exact ⟨rfl, (Below.refl _ _).alloc (Nat.le_refl _) _⟩
  · have hq : qR r = [92, 117, 123] ++ hexL r ++ [125] := by
      unfold qR
      rw [if_neg h1, if_neg h2, if_neg h3, if_neg h4, if_neg h5]
    have hl := hexL_len r
    rw [← sizeL (hexL r)] at hl
    have hC : (⟨#[92, 117, 123]⟩ : ByteArray) ++ ⟨(hexL r).toArray⟩ ++ ⟨#[125]⟩ = ⟨(qR r).toArray⟩ := by
      rw [hq, ← catL, ← catL]
    obtain ⟨tx, htx⟩ : ∃ tx, (⟨(hexL r).toArray⟩ : ByteArray) = tx := ⟨_, rfl⟩
    rw [htx] at hl hC
    have HT : Hid ((⟨(hexL r).toArray⟩ : ByteArray) = tx) := htx
    have HC : Hid ((⟨#[92, 117, 123]⟩ : ByteArray) ++ tx ++ ⟨#[125]⟩ = ⟨(qR r).toArray⟩) := hC
    clear htx hC hq
    have h6 : r < 32 ∨ 126 < r := by omega
    rcases h6 with h6 | h6
    · go_enter Tryz.func104, Tryz.ntmps104
      go_wp2_with fail
      refine (digits_any r 1 hr (.inl rfl) _).mono ?_
      rintro e w1 ⟨rfl, rfl⟩
      rw [HT.out]
      go_wp2_with fail
      go_ret
      rw [← HC.out]
      exact ⟨rfl, Below.refl _ _⟩
    · go_enter Tryz.func104, Tryz.ntmps104
      go_wp2_with fail
      refine (digits_any r 1 hr (.inl rfl) _).mono ?_
      rintro e w1 ⟨rfl, rfl⟩
      rw [HT.out]
      go_wp2_with fail
      go_ret
      rw [← HC.out]
      exact ⟨rfl, Below.refl _ _⟩
theorem own_keep {w w' : World} {B e size n : Nat} {v : Value} {xs : List Value} (h : w.ownsRow B e size v n xs) (hb : Below w.heap.size w w') : w'.ownsRow B e size v n xs := by
  refine ⟨h.1, ?_⟩
  rcases h.2 with h0 | ⟨g, cap, cur, hv, hB, hh, rest⟩
  · exact .inl h0
  · exact .inr ⟨g, cap, cur, hv, hB, (hb.block g (Array.getElem?_eq_some_iff.1 hh).1).trans hh, rest⟩
theorem byteL (l : List UInt8) (x : Nat) (hx : x < l.length) (h : x < (⟨l.toArray⟩ : ByteArray).size) : ((⟨l.toArray⟩ : ByteArray)[x]'h).toNat = (l.getD x 0).toNat := by
  have h2 : x < l.toArray.size := h
  have e : (⟨l.toArray⟩ : ByteArray)[x]'h = l.toArray[x]'h2 := rfl
  rw [e, List.getD_eq_getElem?_getD, List.getElem?_eq_getElem hx]
  simp
theorem own_one (w : World) (T : TypeId) (v : Value) : (w.alloc (.cells #[v] T)).ownsRow w.heap.size T 1 (.slice (some ⟨w.heap.size, 0, none⟩) 1 1) 1 [v] :=
  ⟨rfl, .inr ⟨w.heap.size, 1, #[v], rfl, Nat.le_refl _, alloc_new w _, Nat.le_refl _, by decide, rfl, rfl⟩⟩
end Go.Proofs.YtijpfbcippijoaaGreatDoor

namespace Go.Proofs.YtijpfbcippijoaaGreatDoor
open Go.RowKit Go.Lib
set_option maxHeartbeats 4000000 in
set_option maxRecDepth 100000 in
theorem refQuote_any (s : ByteArray) (hs : s.size ≤ 20971520) (w : World) :
    Calls Tryz.prog 80 #[.string s] w fun e w' => e = .returned (.string ⟨(quoted s).toArray⟩) ∧ Below w.heap.size w w' := by
  obtain ⟨i0, hi, hz0, hz1, hz2⟩ := info_parts info8
  go_enter Tryz.func80, Tryz.ntmps80
  go_wp2_with fail
  go_loopw [3, 4, 5, 6, 7, 8] (fun q i _ _ _ _ w' => ∃ (pos f : Nat) (acc : List UInt8) (a : Option Addr) (cap : Nat), q = .slice a (1 + acc.length) cap ∧ i = .int .i64 pos ∧ w'.ownsRow w.heap.size 5 1 (.slice a (1 + acc.length) cap) (1 + acc.length) (Lib.byteCells (34 :: acc)) ∧ Below w.heap.size w w' ∧ pos ≤ s.size ∧ s.size ≤ pos + f ∧ acc.length ≤ 10 * pos ∧ Hid (acc ++ quoL f (s.data.toList.drop pos) = quoL s.size s.data.toList)) (fun _ i _ _ _ _ _ => s.size - (RowKit.intOf i).toNat)
  case atStart => exact ⟨0, s.size, [], _, _, rfl, rfl, own_one w _ _, (Below.refl _ _).alloc (Nat.le_refl _) _, Nat.zero_le _, by omega, by simp, rfl⟩
  case round =>
    obtain ⟨pos, f, acc, a, cap, rfl, rfl, hown, HBW, hps, hpf, hal, HA⟩ := hrel
    have hszw := HBW.size
    by_cases hp : pos < s.size
    · obtain ⟨f, rfl⟩ : ∃ f', f = f' + 1 := ⟨f - 1, by omega⟩
      have hne : s.data.toList.drop pos ≠ [] := by
        intro e
        have := congrArg List.length e
        rw [List.length_drop, ← size_data] at this
        simp at this
        omega
      have hA2 := HA.out
      rw [quoL_step f _ hne, ← List.append_assoc, List.drop_drop] at hA2
      have hpl := pieceL_len (s.data.toList.drop pos)
      obtain ⟨pc, hpc⟩ : ∃ pc, pieceL (s.data.toList.drop pos) = pc := ⟨_, rfl⟩
      rw [hpc] at hA2 hpl
      have HPC : Hid (pieceL (s.data.toList.drop pos) = pc) := hpc
      have HBY : Hid (∀ h, (s[pos]'h).toNat = at0 (s.data.toList.drop pos) 0) := byteAt0 s pos
      have hb0 : at0 (s.data.toList.drop pos) 0 < 256 := at0_lt _ _
      have hr0 : (dec (s.data.toList.drop pos)).1 ≤ 1114111 := by rw [← decode_dec]; exact decode_le' s pos
      have hw1 : 1 ≤ (dec (s.data.toList.drop pos)).2 := by rw [← decode_dec]; exact width_pos s pos
      have hw2 : pos + (dec (s.data.toList.drop pos)).2 ≤ s.size := by rw [← decode_dec]; exact width_fits s pos hp
      have HSQ : Hid (seq (s.data.toList.drop pos) = if brkL (s.data.toList.drop pos) = true then (0, 0) else dec (s.data.toList.drop pos)) := by
        show _ = _
        cases hl : s.data.toList.drop pos with
        | nil => exact absurd hl hne
        | cons b0 t => exact seq_dec b0 t
      have HB1 : Hid (brkL (s.data.toList.drop pos) = true → (dec (s.data.toList.drop pos)).2 = 1 ∧ 128 ≤ at0 (s.data.toList.drop pos) 0) := brk_one _ hne
      clear hpc hne HA
      have HA3 : Hid (acc ++ pc ++ quoL f (List.drop (pos + (dec (s.data.toList.drop pos)).2) s.data.toList) = quoL s.size s.data.toList) := hA2
      clear hA2
      cases hbk : brkL (s.data.toList.drop pos) with
      | true =>
        have h81 := HB1.out hbk
        have hl := hexL_len (at0 (s.data.toList.drop pos) 0)
        rw [← sizeL (hexL (at0 (s.data.toList.drop pos) 0))] at hl
        have hC := catL [92, 120] (hexL (at0 (s.data.toList.drop pos) 0))
        have hQ : [92, 120] ++ hexL (at0 (s.data.toList.drop pos) 0) = pc := by rw [← HPC.out, pieceL, if_pos hbk]
        rw [hQ] at hC
        obtain ⟨tx, htx⟩ : ∃ tx, (⟨(hexL (at0 (s.data.toList.drop pos) 0)).toArray⟩ : ByteArray) = tx := ⟨_, rfl⟩
        rw [htx] at hl hC
        have HTX : Hid ((⟨(hexL (at0 (s.data.toList.drop pos) 0)).toArray⟩ : ByteArray) = tx) := htx
        have HC : Hid ((⟨#[92, 120]⟩ : ByteArray) ++ tx = ⟨pc.toArray⟩) := hC
        have HSQ2 : Hid (seq (s.data.toList.drop pos) = (0, 0)) := by show _ = _; rw [HSQ.out, if_pos hbk]
        have hd1 := h81.1
        rw [hd1] at HA3 hw1 hw2
        have h128 := h81.2
        clear htx hC hQ h81 hd1 hr0 HB1 hbk
        obtain ⟨bv0, hbv0⟩ : ∃ bv0, at0 (s.data.toList.drop pos) 0 = bv0 := ⟨_, rfl⟩
        rw [hbv0] at HBY hb0 HTX h128
        clear hbv0
        go_wp2_with fail
        refine (seq_any s (by omega) pos hp _).mono ?_
        rintro e w' ⟨rfl, rfl⟩
        rw [HSQ2.out]
        have hby := HBY.out
        go_wp2_with fail
        refine (digits_any bv0 2 (by omega) (.inr ⟨rfl, by omega⟩) _).mono ?_
        rintro e w' ⟨rfl, rfl⟩
        rw [HTX.out]
        clear hby
        go_wp2_with fail
        rw [HC.out]
        have hown2 := hown
        have hcz : pc.length ≤ 10 := hpl.2
        obtain ⟨wt, hwt⟩ : ∃ wt : ByteArray, (⟨pc.toArray⟩ : ByteArray) = wt := ⟨_, rfl⟩
        have HW : Hid (∀ x, x < pc.length → ∀ h, (wt[x]'h).toNat = (pc.getD x 0).toNat) := by
          subst hwt
          intro x hx h
          exact byteL pc x hx h
        have hwz : wt.size = pc.length := by rw [← hwt]; exact sizeL pc
        have hwz1 : wt.size ≤ pc.length := Nat.le_of_eq hwz
        have hwz2 : pc.length ≤ wt.size := Nat.le_of_eq hwz.symm
        rw [hwt]
        clear hwt hwz
        go_loopw [3, 8] (fun b k w' => ∃ (i : Nat) (ab : Option Addr) (cb : Nat), i ≤ pc.length ∧ b = .slice ab (1 + acc.length + i) cb ∧ k = .int .i64 i ∧ w'.ownsRow w.heap.size 5 1 (.slice ab (1 + acc.length + i) cb) (1 + acc.length + i) (Lib.byteCells (34 :: acc) ++ Lib.byteCells (pc.take i)) ∧ Below w.heap.size w w') (fun _ k _ => pc.length - (RowKit.intOf k).toNat)
        case atStart => exact ⟨0, a, cap, Nat.zero_le _, rfl, rfl, by rw [List.take_zero, Nat.add_zero, show Lib.byteCells [] = [] from rfl, List.append_nil]; exact hown2, HBW⟩
        case round =>
          clear hown hown2
          obtain ⟨i, ab, cb, hiw, rfl, rfl, hown, hb⟩ := hrel
          have hsz := hb.size
          by_cases hi2 : i < pc.length
          · have HT : Hid (Lib.byteCells (pc.take i) ++ [Value.int .u8 (pc.getD i 0).toNat] = Lib.byteCells (pc.take (i + 1))) := take_snoc8 pc i hi2
            have hbv : (pc.getD i 0).toNat < 256 := (pc.getD i 0).toNat_lt
            have hwx := HW.out i hi2
            have hiz : i < wt.size := by omega
            generalize (pc.getD i 0).toNat = bv at *
            go_wp2_with (at_builtin; refine wpList_append_own _ rfl _ _ 85 rfl w.heap.size 5 i0 (.int .u8 0) 1 1 Tryz.underlying85 hi hz0 hz1 hz2 rfl (by decide) _ _ _ rfl (hown.alloc _) ⟨_, 0, none⟩ 1 1 [.int .u8 bv] rfl rfl ?c1 ?c2 ?c3 ?c4 ?c5 ?_)
            case c1 => exact cell_new8 _ _ _
            case c2 => first | rfl | (intro u hu; simp at hu; subst hu; rfl)
            case c3 => unfold maxLen; omega
            case c4 => omega
            case c5 => first | omega | (simp; omega)
            intro v' w3 hown' hgrow _
            rw [HT.out] at hown'
            have hb3 : Below w.heap.size w w3 := (hb.alloc hsz _).grown hgrow (by simp; omega) (fun g hg => own_ge hown hg)
            obtain ⟨a', cap', rfl⟩ : ∃ a' cap', v' = .slice a' (1 + acc.length + i + 1) cap' := by
              rcases hown'.2 with ⟨_, h0⟩ | ⟨g', cap', cur, e, _⟩
              · omega
              · exact ⟨_, _, e⟩
            clear hown hgrow hb hwx
            go_wp2_with fail
            go_roundw
            case rel => exact ⟨i + 1, a', cap', by omega, rfl, by go_num, hown', hb3⟩
            case measure => simp [RowKit.intOf]; omega
          · have hiw2 : i = pc.length := by omega
            subst hiw2
            rw [List.take_length, ← byteCells_append, List.cons_append] at hown
            go_wp2_with fail
            go_roundw
            case rel => exact ⟨pos + 1, f, acc ++ pc, ab, cb, by rw [List.length_append, ← Nat.add_assoc], by go_num, by rw [List.length_append, ← Nat.add_assoc]; exact hown, hb, by omega, by omega, by rw [List.length_append]; omega, HA3⟩
            case measure => simp [RowKit.intOf]; omega
      | false =>
        have HSQ2 : Hid (seq (s.data.toList.drop pos) = dec (s.data.toList.drop pos)) := by show _ = _; rw [HSQ.out, if_neg (by rw [hbk]; decide)]
        have HQ : Hid (qR (dec (s.data.toList.drop pos)).1 = pc) := by show _ = _; rw [← HPC.out, pieceL, if_neg (by rw [hbk]; decide)]
        clear hbk HB1 HBY hb0
        obtain ⟨⟨r, wd⟩, hdd⟩ : ∃ d, dec (s.data.toList.drop pos) = d := ⟨_, rfl⟩
        rw [hdd] at HSQ2 HQ HA3 hr0 hw1 hw2
        clear hdd
        simp only at hr0 hw1 hw2
        have HQ2 : Hid (qR r = pc) := HQ.out
        have HA4 : Hid (acc ++ pc ++ quoL f (List.drop (pos + wd) s.data.toList) = quoL s.size s.data.toList) := HA3.out
        clear HQ HA3
        have HA3 : Hid (acc ++ pc ++ quoL f (List.drop (pos + wd) s.data.toList) = quoL s.size s.data.toList) := HA4
        clear HA4
        have t0 : ((wd : Int) == 0) = false := beq_eq_false_iff_ne.2 (by omega)
        go_wp2_with fail
        refine (seq_any s (by omega) pos hp _).mono ?_
        rintro e w' ⟨rfl, rfl⟩
        rw [HSQ2.out]
        show _
        simp only
        go_wp2_with fail
        refine (written_any r hr0 _).mono ?_
        rintro e w4 ⟨rfl, hb4⟩
        rw [HQ2.out]
        have hown := own_keep hown hb4
        have HBW := HBW.trans (hb4.mono HBW.size)
        clear hb4
        go_wp2_with fail
        have hown2 := hown
        have hcz : pc.length ≤ 10 := hpl.2
        obtain ⟨wt, hwt⟩ : ∃ wt : ByteArray, (⟨pc.toArray⟩ : ByteArray) = wt := ⟨_, rfl⟩
        have HW : Hid (∀ x, x < pc.length → ∀ h, (wt[x]'h).toNat = (pc.getD x 0).toNat) := by
          subst hwt
          intro x hx h
          exact byteL pc x hx h
        have hwz : wt.size = pc.length := by rw [← hwt]; exact sizeL pc
        have hwz1 : wt.size ≤ pc.length := Nat.le_of_eq hwz
        have hwz2 : pc.length ≤ wt.size := Nat.le_of_eq hwz.symm
        rw [hwt]
        clear hwt hwz
        go_loopw [3, 8] (fun b k w' => ∃ (i : Nat) (ab : Option Addr) (cb : Nat), i ≤ pc.length ∧ b = .slice ab (1 + acc.length + i) cb ∧ k = .int .i64 i ∧ w'.ownsRow w.heap.size 5 1 (.slice ab (1 + acc.length + i) cb) (1 + acc.length + i) (Lib.byteCells (34 :: acc) ++ Lib.byteCells (pc.take i)) ∧ Below w.heap.size w w') (fun _ k _ => pc.length - (RowKit.intOf k).toNat)
        case atStart => exact ⟨0, a, cap, Nat.zero_le _, rfl, rfl, by rw [List.take_zero, Nat.add_zero, show Lib.byteCells [] = [] from rfl, List.append_nil]; exact hown2, HBW⟩
        case round =>
          clear hown hown2
          obtain ⟨i, ab, cb, hiw, rfl, rfl, hown, hb⟩ := hrel
          have hsz := hb.size
          by_cases hi2 : i < pc.length
          · have HT : Hid (Lib.byteCells (pc.take i) ++ [Value.int .u8 (pc.getD i 0).toNat] = Lib.byteCells (pc.take (i + 1))) := take_snoc8 pc i hi2
            have hbv : (pc.getD i 0).toNat < 256 := (pc.getD i 0).toNat_lt
            have hwx := HW.out i hi2
            have hiz : i < wt.size := by omega
            generalize (pc.getD i 0).toNat = bv at *
            go_wp2_with (at_builtin; refine wpList_append_own _ rfl _ _ 85 rfl w.heap.size 5 i0 (.int .u8 0) 1 1 Tryz.underlying85 hi hz0 hz1 hz2 rfl (by decide) _ _ _ rfl (hown.alloc _) ⟨_, 0, none⟩ 1 1 [.int .u8 bv] rfl rfl ?c1 ?c2 ?c3 ?c4 ?c5 ?_)
            case c1 => exact cell_new8 _ _ _
            case c2 => first | rfl | (intro u hu; simp at hu; subst hu; rfl)
            case c3 => unfold maxLen; omega
            case c4 => omega
            case c5 => first | omega | (simp; omega)
            intro v' w3 hown' hgrow _
            rw [HT.out] at hown'
            have hb3 : Below w.heap.size w w3 := (hb.alloc hsz _).grown hgrow (by simp; omega) (fun g hg => own_ge hown hg)
            obtain ⟨a', cap', rfl⟩ : ∃ a' cap', v' = .slice a' (1 + acc.length + i + 1) cap' := by
              rcases hown'.2 with ⟨_, h0⟩ | ⟨g', cap', cur, e, _⟩
              · omega
              · exact ⟨_, _, e⟩
            clear hown hgrow hb hwx
            go_wp2_with fail
            go_roundw
            case rel => exact ⟨i + 1, a', cap', by omega, rfl, by go_num, hown', hb3⟩
            case measure => simp [RowKit.intOf]; omega
          · have hiw2 : i = pc.length := by omega
            subst hiw2
            rw [List.take_length, ← byteCells_append, List.cons_append] at hown
            go_wp2_with fail
            go_roundw
            case rel => exact ⟨pos + wd, f, acc ++ pc, ab, cb, by rw [List.length_append, ← Nat.add_assoc], by go_num, by rw [List.length_append, ← Nat.add_assoc]; exact hown, hb, by omega, by omega, by rw [List.length_append]; omega, HA3⟩
            case measure => simp [RowKit.intOf]; omega
    · have hps2 : pos = s.size := by omega
      subst hps2
      have hA2 := HA.out
      rw [List.drop_eq_nil_of_le (by rw [← size_data]; omega), quoL_end, List.append_nil] at hA2
      have HQ : Hid (Lib.byteCells (34 :: acc) ++ [Value.int .u8 34] = Lib.byteCells (quoted s)) := by
        show _ = _
        rw [hA2, quoted, byteCells_append ([34] ++ _) [34]]
        rfl
      clear hA2 HA
      go_wp2_with (at_builtin; refine wpList_append_own _ rfl _ _ 85 rfl w.heap.size 5 i0 (.int .u8 0) 1 1 Tryz.underlying85 hi hz0 hz1 hz2 rfl (by decide) _ _ _ rfl (hown.alloc _) ⟨_, 0, none⟩ 1 1 [.int .u8 34] rfl rfl ?c1 ?c2 ?c3 ?c4 ?c5 ?_)
      case c1 => exact cell_new8 _ _ _
      case c2 => first | rfl | (intro u hu; simp at hu; subst hu; rfl)
      case c3 => unfold maxLen; omega
      case c4 => omega
      case c5 => first | omega | (simp; omega)
      intro v' w3 hown' hgrow _
      rw [HQ.out] at hown'
      have hb3 : Below w.heap.size w w3 := (HBW.alloc hszw _).grown hgrow (by simp; omega) (fun g hg => own_ge hown hg)
      have hcv := conv_own hown'
      clear hown hgrow HBW HQ
      obtain ⟨tx, htx⟩ : ∃ tx : ByteArray, (⟨(quoted s).toArray⟩ : ByteArray) = tx := ⟨_, rfl⟩
      rw [htx] at hcv
      have HS : Hid ((⟨(quoted s).toArray⟩ : ByteArray) = tx) := htx
      clear htx hown'
      go_wp2_with fail
      go_ret
      rw [HS.out]
      exact ⟨rfl, hb3⟩
end Go.Proofs.YtijpfbcippijoaaGreatDoor
