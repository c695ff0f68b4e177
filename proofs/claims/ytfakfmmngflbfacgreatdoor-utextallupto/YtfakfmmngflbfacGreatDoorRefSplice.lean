import Derived.Test.YtfakfmmngflbfacGreatDoorRefCuts
namespace Go.Proofs.YtfakfmmngflbfacGreatDoor
open Go.RowKit Go.Lib

theorem cat_list (a b : List UInt8) : (⟨a.toArray⟩ : ByteArray) ++ ⟨b.toArray⟩ = ⟨(a ++ b).toArray⟩ := text_list (by rw [ByteArray.data_append, Array.toList_append])
theorem below_dr {B : Nat} {w W : World} (h : Below B w W) : Below B w W.drew := h.trans ⟨rfl, rfl, rfl, Nat.le_refl _, fun _ _ => rfl⟩

set_option maxHeartbeats 4000000 in
set_option maxRecDepth 100000 in
theorem refSplice_in {s t : ByteArray} {rs ts : List Int} (h : IsText s rs) (h2 : IsText t ts) (hs : s.size ≤ 2097152) (ht : t.size ≤ 2097152) (a d : Nat) (hk : a + d ≤ rs.length) (w : World) :
    Calls Tryz.prog 38 #[.string s, .int .i64 a, .int .i64 d, .string t] w fun e w' => e = .returned (.tuple #[.string ⟨(spliced rs ts a d).toArray⟩, .int .i64 0]) ∧ Below w.heap.size w w' := by
  have hlen := text_len h
  have hlen2 := text_len h2
  obtain ⟨m, hm⟩ : ∃ m, a + d = m := ⟨_, rfl⟩
  have w0 : IntKind.i64.wrap ((a : Int) + (d : Int)) = (m : Int) := (IntWalk.i64_in _ (by omega)).trans (by omega)
  have HM : Hid (a + d = m) := hm
  have hka : a ≤ rs.length := by omega
  have b1 : (d : Int) ≤ (rs.length : Int) - (a : Int) := by omega
  rw [hm] at hk
  have b2 : (m : Int) ≤ (rs.length : Int) := by omega
  have b3 : (a : Int) ≤ (rs.length : Int) := by omega
  clear hm
  have HV1 : Hid (∀ r ∈ rs.take a, Utf8.valid r = true) := fun r hr => (h.ok r (List.mem_of_mem_take hr)).1
  have HV2 : Hid (∀ r ∈ ts, Utf8.valid r = true) := fun r hr => (h2.ok r hr).1
  have HV3 : Hid (∀ r ∈ rs.drop m, Utf8.valid r = true) := fun r hr => (h.ok r (List.mem_of_mem_drop hr)).1
  have HZ : Hid (rs.length = 0 → rs = []) := fun e => List.length_eq_zero_iff.1 e
  obtain ⟨t1, ht1⟩ : ∃ tx : ByteArray, (⟨(encs (rs.take a)).toArray⟩ : ByteArray) = tx := ⟨_, rfl⟩
  obtain ⟨t2, ht2⟩ : ∃ tx : ByteArray, (⟨(encs ts).toArray⟩ : ByteArray) = tx := ⟨_, rfl⟩
  obtain ⟨t3, ht3⟩ : ∃ tx : ByteArray, (⟨(encs (rs.drop m)).toArray⟩ : ByteArray) = tx := ⟨_, rfl⟩
  have HT : Hid (t1 ++ t2 ++ t3 = ⟨(spliced rs ts a d).toArray⟩) := by
    show _ = _
    rw [← ht1, ← ht2, ← ht3, cat_list, cat_list, ← HM.out]
    rfl
  have z1 : t1.size ≤ 2097152 := by
    rw [← ht1, size_data]
    have := posOf_mono rs (hka)
    rw [← h.size] at this
    exact Nat.le_trans (show (encs (rs.take a)).length ≤ s.size from this) hs
  have z2 : t2.size ≤ 2097152 := by
    rw [← ht2, size_data, ← h2.bytes]
    rw [size_data] at ht
    simpa using ht
  have z3 : t3.size ≤ 2097152 := by
    rw [← ht3, size_data]
    have e1 := posOf_drop rs m
    have e2 : (encs (rs.drop m)).length ≤ (encs rs).length := by rw [← e1, List.length_drop]; omega
    rw [← h.bytes, ← size_data] at e2
    exact Nat.le_trans (by simpa using e2) hs
  have HT1 : Hid ((⟨(encs (rs.take a)).toArray⟩ : ByteArray) = t1) := ht1
  have HT2 : Hid ((⟨(encs ts).toArray⟩ : ByteArray) = t2) := ht2
  have HT3 : Hid ((⟨(encs (rs.drop m)).toArray⟩ : ByteArray) = t3) := ht3
  clear ht1 ht2 ht3
  rw [← HT.out]
  clear HT
  go_enter Tryz.func38, Tryz.ntmps38
  go_wp2_with fail
  refine (runes_text2 h hs _).mono ?_
  rintro e w1 ⟨A, cap, rfl, hb1, hr, hcase⟩
  go_wp2_with fail
  refine (runes_text2 h2 ht _).mono ?_
  rintro e w2 ⟨A2, cap2, rfl, hb2, hr2, _⟩
  have hrr := hr.below hb2
  have hB2 := hb1.trans (hb2.mono hb1.size)
  have hroom := hr.room
  have hroom2 := hr2.room
  clear hb1 hb2 hr
  have R2 : Hid (∀ V, Below w2.heap.size w2 V → Row64 V A2 ts.length cap2 ts) := fun V hV => hr2.below hV
  have hcur : Below w2.heap.size w2 w2 := Below.refl _ _
  clear hr2
  rcases hcase with ⟨rfl, hz, rfl⟩ | ⟨g, rfl⟩
  · have ha0 : a = 0 := by omega
    subst ha0
    have hd0 : d = 0 := by have := HM.out; omega
    subst hd0
    obtain rfl : m = 0 := by omega
    obtain rfl := HZ.out hz
    have H13 : Hid (t3 = t1) := HT3.out.symm.trans HT1.out
    have R1 : Hid (∀ V, Below w2.heap.size w2 V → Row64 V none 0 0 (([] : List Int).take 0)) := fun V _ => row64_nil V none 0 (Nat.zero_le _)
    have R3 : Hid (∀ V, Below w2.heap.size w2 V → Row64 V none 0 0 (([] : List Int).drop 0)) := fun V _ => row64_nil V none 0 (Nat.zero_le _)
    go_upto_region 9 with fail
    go_cut [8, 9] (fun x y wx => x = .string (t1 ++ t2 ++ t3) ∧ y = .int .i64 0 ∧ Below w.heap.size w wx)
    case first =>
      go_region_with (first | (go_at_call_of 36 (Value.slice none 0 0); refine (refString_any _ _ _ _ _ ?_ HV1.out (by omega)).mono ?_; (first | exact R1.out _ hcur | exact R1.out _ (below_dr hcur)); rintro e wR1 ⟨rfl, hb⟩; rw [HT1.out]; have hcur : Below w2.heap.size w2 wR1 := (by first | exact hcur.trans (hb.mono hcur.size) | exact (below_dr hcur).trans (hb.mono hcur.size)); clear hb) | (go_at_call_of 36 (Value.slice A2 ts.length cap2); refine (refString_any _ _ _ _ _ ?_ HV2.out (by omega)).mono ?_; (first | exact R2.out _ hcur | exact R2.out _ (below_dr hcur)); rintro e wR2 ⟨rfl, hb⟩; rw [HT2.out]; have hcur : Below w2.heap.size w2 wR2 := (by first | exact hcur.trans (hb.mono hcur.size) | exact (below_dr hcur).trans (hb.mono hcur.size)); clear hb) | (go_at_call_of 36 (Value.slice none 0 0); refine (refString_any _ _ _ _ _ ?_ HV3.out (by omega)).mono ?_; (first | exact R3.out _ hcur | exact R3.out _ (below_dr hcur)); rintro e wR3 ⟨rfl, hb⟩; rw [HT3.out]; have hcur : Below w2.heap.size w2 wR3 := (by first | exact hcur.trans (hb.mono hcur.size) | exact (below_dr hcur).trans (hb.mono hcur.size)); clear hb))
      all_goals (go_wp2_with fail; go_meet; case rel => exact ⟨by first | rfl | rw [H13.out], rfl, by first | exact hB2.trans (hcur.mono hB2.size) | exact (below_dr (hB2.trans (hcur.mono hB2.size)))⟩)
    case rest =>
      obtain ⟨rfl, rfl, hB⟩ := hcut
      go_wp2_with fail
      go_ret2
      exact ⟨rfl, hB⟩
  · have R1 : Hid (∀ V, Below w2.heap.size w2 V → Row64 V (some ⟨g, 0, none⟩) a cap (rs.take a)) := fun V hV => by
      have := (hrr.below hV).sub rfl 0 a (Nat.zero_le _) (by omega)
      simpa using this
    by_cases hlc : m = cap
    · have R3 : Hid (∀ V, Below w2.heap.size w2 V → Row64 V (some ⟨g, 0, none⟩) 0 0 (rs.drop m)) := fun V _ => by
        rw [List.drop_eq_nil_of_le (by omega)]
        exact row64_nil V _ 0 (Nat.zero_le _)
      have hn0 : rs.length = m := by omega
      clear hrr
      subst hlc
      subst hn0
      go_upto_region 9 with fail
      go_cut [8, 9] (fun x y wx => x = .string (t1 ++ t2 ++ t3) ∧ y = .int .i64 0 ∧ Below w.heap.size w wx)
      case first =>
        go_region_with (first | (go_at_call_of 36 (Value.slice (some ⟨g, 0, none⟩) a rs.length); refine (refString_any _ _ _ _ _ ?_ HV1.out (by omega)).mono ?_; (first | exact R1.out _ hcur | exact R1.out _ (below_dr hcur)); rintro e wR1 ⟨rfl, hb⟩; rw [HT1.out]; have hcur : Below w2.heap.size w2 wR1 := (by first | exact hcur.trans (hb.mono hcur.size) | exact (below_dr hcur).trans (hb.mono hcur.size)); clear hb) | (go_at_call_of 36 (Value.slice A2 ts.length cap2); refine (refString_any _ _ _ _ _ ?_ HV2.out (by omega)).mono ?_; (first | exact R2.out _ hcur | exact R2.out _ (below_dr hcur)); rintro e wR2 ⟨rfl, hb⟩; rw [HT2.out]; have hcur : Below w2.heap.size w2 wR2 := (by first | exact hcur.trans (hb.mono hcur.size) | exact (below_dr hcur).trans (hb.mono hcur.size)); clear hb) | (go_at_call_of 36 (Value.slice (some ⟨g, 0, none⟩) 0 0); refine (refString_any _ _ _ _ _ ?_ HV3.out (by omega)).mono ?_; (first | exact R3.out _ hcur | exact R3.out _ (below_dr hcur)); rintro e wR3 ⟨rfl, hb⟩; rw [HT3.out]; have hcur : Below w2.heap.size w2 wR3 := (by first | exact hcur.trans (hb.mono hcur.size) | exact (below_dr hcur).trans (hb.mono hcur.size)); clear hb))
        all_goals (go_wp2_with fail; go_meet; case rel => exact ⟨by first | rfl | rw [H13.out], rfl, by first | exact hB2.trans (hcur.mono hB2.size) | exact (below_dr (hB2.trans (hcur.mono hB2.size)))⟩)
      case rest =>
        obtain ⟨rfl, rfl, hB⟩ := hcut
        go_wp2_with fail
        go_ret2
        exact ⟨rfl, hB⟩
    · have R3 : Hid (∀ V, Below w2.heap.size w2 V → Row64 V (some ⟨g, m, none⟩) (rs.length - m) (cap - m) (rs.drop m)) := fun V hV => by
        have := (hrr.below hV).sub rfl m rs.length hk (Nat.le_refl _)
        simpa using this
      have hcz : ¬ (cap - m = 0) := by omega
      clear hrr
      go_upto_region 9 with fail
      go_cut [8, 9] (fun x y wx => x = .string (t1 ++ t2 ++ t3) ∧ y = .int .i64 0 ∧ Below w.heap.size w wx)
      case first =>
        go_region_with (first | (go_at_call_of 36 (Value.slice (some ⟨g, 0, none⟩) a cap); refine (refString_any _ _ _ _ _ ?_ HV1.out (by omega)).mono ?_; (first | exact R1.out _ hcur | exact R1.out _ (below_dr hcur)); rintro e wR1 ⟨rfl, hb⟩; rw [HT1.out]; have hcur : Below w2.heap.size w2 wR1 := (by first | exact hcur.trans (hb.mono hcur.size) | exact (below_dr hcur).trans (hb.mono hcur.size)); clear hb) | (go_at_call_of 36 (Value.slice A2 ts.length cap2); refine (refString_any _ _ _ _ _ ?_ HV2.out (by omega)).mono ?_; (first | exact R2.out _ hcur | exact R2.out _ (below_dr hcur)); rintro e wR2 ⟨rfl, hb⟩; rw [HT2.out]; have hcur : Below w2.heap.size w2 wR2 := (by first | exact hcur.trans (hb.mono hcur.size) | exact (below_dr hcur).trans (hb.mono hcur.size)); clear hb) | (go_at_call_of 36 (Value.slice (some ⟨g, m, none⟩) (rs.length - m) (cap - m)); refine (refString_any _ _ _ _ _ ?_ HV3.out (by omega)).mono ?_; (first | exact R3.out _ hcur | exact R3.out _ (below_dr hcur)); rintro e wR3 ⟨rfl, hb⟩; rw [HT3.out]; have hcur : Below w2.heap.size w2 wR3 := (by first | exact hcur.trans (hb.mono hcur.size) | exact (below_dr hcur).trans (hb.mono hcur.size)); clear hb))
        all_goals (go_wp2_with fail; go_meet; case rel => exact ⟨by first | rfl | rw [H13.out], rfl, by first | exact hB2.trans (hcur.mono hB2.size) | exact (below_dr (hB2.trans (hcur.mono hB2.size)))⟩)
      case rest =>
        obtain ⟨rfl, rfl, hB⟩ := hcut
        go_wp2_with fail
        go_ret2
        exact ⟨rfl, hB⟩
end Go.Proofs.YtfakfmmngflbfacGreatDoor
