import Derived.Test.YtfakfmmngflbfabDoorOtherP
namespace Go.Proofs.YtfakfmmngflbfabDoor
open Go.RowKit Go.Lib

theorem digTab2 (d : Nat) (h : d < 16) : (⟨#[48, 49, 50, 51, 52, 53, 54, 55, 56, 57, 97, 98, 99, 100, 101, 102]⟩ : ByteArray).extract d (d + 1) = ⟨#[hexd d]⟩ := by
  have : d = 0 ∨ d = 1 ∨ d = 2 ∨ d = 3 ∨ d = 4 ∨ d = 5 ∨ d = 6 ∨ d = 7 ∨ d = 8 ∨ d = 9 ∨ d = 10 ∨ d = 11 ∨ d = 12 ∨ d = 13 ∨ d = 14 ∨ d = 15 := by omega
  rcases this with rfl | rfl | rfl | rfl | rfl | rfl | rfl | rfl | rfl | rfl | rfl | rfl | rfl | rfl | rfl | rfl <;> rfl
theorem rest_list (x : ByteArray) : ((⟨(quoted x).toArray⟩ : ByteArray).extract 1 (⟨(quoted x).toArray⟩ : ByteArray).size).data.toList = (quoted x).drop 1 := by rw [extract_rest]
theorem cat_data (a b : ByteArray) : (a ++ b).data.toList = a.data.toList ++ b.data.toList := by rw [ByteArray.data_append, Array.toList_append]

set_option maxHeartbeats 4000000 in
set_option maxRecDepth 100000 in
theorem otherForms_any (o n : Value) (k : Int) (raw : ByteArray) (bn : Nat) (hbn : bn ≤ 255) (w : World) (hrw : raw.size ≤ 1048576) (hd : Deb w) (he : Errs w) :
    Calls Tryd.prog 5 #[.agg #[o, n, .int .i64 k, .string raw, .int .u8 bn]] w fun e w' => e = .returned (.bool true) ∧ Below w.heap.size w w' := by
  have hql := quoted_len raw
  have hU1 : unqL ((⟨#[34, 92, 117, 123, 101, 57, 125]⟩ : ByteArray) ++ (⟨(quoted raw).toArray⟩ : ByteArray).extract 1 (⟨(quoted raw).toArray⟩ : ByteArray).size).data.toList = (195 :: 169 :: raw.data.toList, (quoted raw).length + 6, 0) := by
    rw [cat_data, rest_list]
    have e := quoted_e9 raw
    have h := unq_of ⟨(195 :: 169 :: raw.data.toList).toArray⟩ []
    rw [List.append_nil, e] at h
    rw [show (⟨#[34, 92, 117, 123, 101, 57, 125]⟩ : ByteArray).data.toList = [34, 92, 117, 123, 101, 57, 125] from rfl, h]
    simp
    omega
  have hU3 : unqL ((⟨#[34, 92, 120, 99, 51, 92, 120, 97, 57]⟩ : ByteArray) ++ (⟨(quoted raw).toArray⟩ : ByteArray).extract 1 (⟨(quoted raw).toArray⟩ : ByteArray).size).data.toList = ([], 0, 13) := by
    rw [cat_data, rest_list]
    exact no_c3 _
  have hU4 : unqL ((⟨#[34, 92, 117, 123, 69, 57, 125]⟩ : ByteArray) ++ (⟨(quoted raw).toArray⟩ : ByteArray).extract 1 (⟨(quoted raw).toArray⟩ : ByteArray).size).data.toList = ([], 0, 13) := by
    rw [cat_data, rest_list]
    exact no_cap _
  have hU5 : unqL ((⟨(quoted raw).toArray⟩ : ByteArray).extract 0 ((quoted raw).length - 1)).data.toList = ([], 0, 13) := by
    rw [extract_list]
    have e : (quoted raw).take ((quoted raw).length - 1) = [34] ++ quoL raw.size raw.data.toList := by
      unfold quoted
      rw [List.take_append_of_le_length (by simp), List.take_of_length_le (by simp)]
    rw [show (⟨(quoted raw).toArray⟩ : ByteArray).data.toList = quoted raw from rfl, e]
    exact no_close raw
  have hU12 : ∀ h lo : Nat, h ≤ 7 → unqL ((⟨#[34, 92, 120]⟩ : ByteArray) ++ ⟨#[hexd h]⟩ ++ ⟨#[hexd lo]⟩ ++ (⟨(quoted raw).toArray⟩ : ByteArray).extract 1 (⟨(quoted raw).toArray⟩ : ByteArray).size).data.toList = ([], 0, 13) ∧ unqL ((⟨#[34, 92, 117, 123, 48]⟩ : ByteArray) ++ ⟨#[hexd h]⟩ ++ ⟨#[hexd lo]⟩ ++ ⟨#[125]⟩ ++ (⟨(quoted raw).toArray⟩ : ByteArray).extract 1 (⟨(quoted raw).toArray⟩ : ByteArray).size).data.toList = ([], 0, 13) := by
    intro h lo hh
    simp only [cat_data, rest_list]
    exact ⟨no_x h lo hh _, no_u0 h lo (by omega) _⟩
  have hz0 := sizeL (quoted raw)
  have hby : ∀ h, ((⟨(quoted raw).toArray⟩ : ByteArray)[0]'h).toNat = 34 := fun h => rfl
  obtain ⟨QL, hQL⟩ : ∃ QL, (quoted raw).length = QL := ⟨_, rfl⟩
  obtain ⟨qx, hqx⟩ : ∃ qx : ByteArray, (⟨(quoted raw).toArray⟩ : ByteArray) = qx := ⟨_, rfl⟩
  rw [hqx] at hU1 hU3 hU4 hU5 hz0 hby
  simp only [hqx] at hU12
  rw [hQL] at hU1 hU5 hz0 hql
  have HQX : Hid ((⟨(quoted raw).toArray⟩ : ByteArray) = qx) := hqx
  have H1 : Hid (unqL ((⟨#[34, 92, 117, 123, 101, 57, 125]⟩ : ByteArray) ++ qx.extract 1 qx.size).data.toList = (195 :: 169 :: raw.data.toList, QL + 6, 0)) := hU1
  have H3 : Hid (unqL ((⟨#[34, 92, 120, 99, 51, 92, 120, 97, 57]⟩ : ByteArray) ++ qx.extract 1 qx.size).data.toList = ([], 0, 13)) := hU3
  have H4 : Hid (unqL ((⟨#[34, 92, 117, 123, 69, 57, 125]⟩ : ByteArray) ++ qx.extract 1 qx.size).data.toList = ([], 0, 13)) := hU4
  have H5 : Hid (unqL (qx.extract 0 (QL - 1)).data.toList = ([], 0, 13)) := hU5
  have H12 : Hid (∀ h lo : Nat, h ≤ 7 → unqL ((⟨#[34, 92, 120]⟩ : ByteArray) ++ ⟨#[hexd h]⟩ ++ ⟨#[hexd lo]⟩ ++ qx.extract 1 qx.size).data.toList = ([], 0, 13) ∧ unqL ((⟨#[34, 92, 117, 123, 48]⟩ : ByteArray) ++ ⟨#[hexd h]⟩ ++ ⟨#[hexd lo]⟩ ++ ⟨#[125]⟩ ++ qx.extract 1 qx.size).data.toList = ([], 0, 13)) := hU12
  have HQS : Hid (qx.size = QL) := hz0
  have hq1 : 2 ≤ qx.size := by omega
  have hq2 : qx.size ≤ 10485762 := by omega
  have HXX : Hid ((⟨(195 :: 169 :: raw.data.toList).toArray⟩ : ByteArray) = ⟨#[195, 169]⟩ ++ raw) := by
    show _ = _
    apply ByteArray.ext
    apply Array.toList_inj.1
    rw [cat_data]
    rfl
  have hxz : (qx.extract 1 qx.size).size ≤ 10485762 := by rw [ByteArray.size_extract]; omega
  clear hU1 hU3 hU4 hU5 hU12 hqx hQL hz0 hql
  go_enter Tryd.func5, Tryd.ntmps5
  go_wp2_with fail
  have hb0 : Below w.heap.size w (w.alloc (.cells #[o, n, .int .i64 k, .string raw, .int .u8 (bn : Int)] 24)) := (Below.refl _ _).alloc (Nat.le_refl _) _
  refine (quote_any raw (by omega) _ (hd.below hb0)).mono ?_
  rintro e w1 ⟨rfl, hb1⟩
  rw [HQX.out]
  have hc3 : w1.cell? ⟨w.heap.size, 3, none⟩ = some (.string raw) := (hb1.cell (p := ⟨w.heap.size, 3, none⟩) (by simp)).trans (World.cell?_alloc_mark _ _ _ _ _)
  have hc4 : w1.cell? ⟨w.heap.size, 4, none⟩ = some (.int .u8 (bn : Int)) := (hb1.cell (p := ⟨w.heap.size, 4, none⟩) (by simp)).trans (World.cell?_alloc_mark _ _ _ _ _)
  have hB1 : Below w.heap.size w w1 := hb0.trans (hb1.mono (by simp))
  have hlt1 : w.heap.size < w1.heap.size := by have := hb1.size; simp at this; omega
  have hd1 := hd.below hB1
  have he1 := he.below hB1
  clear hb1 hb0
  go_wp2_with fail
  refine (unquote_any _ (by rw [ByteArray.size_append]; show 7 + _ ≤ _; omega) _ hd1 he1).mono ?_
  rintro e w2 ⟨rfl, hb2⟩
  rw [H1.out]
  show _
  simp only
  rw [HXX.out]
  have hc32 := (hb2.cell (p := ⟨w.heap.size, 3, none⟩) hlt1).trans hc3
  have hc42 := (hb2.cell (p := ⟨w.heap.size, 4, none⟩) hlt1).trans hc4
  have hB2 := hB1.trans (hb2.mono hB1.size)
  have hd2 := hd1.below hb2
  have he2 := he1.below hb2
  have hlt2 : w.heap.size < w2.heap.size := Nat.lt_of_lt_of_le hlt1 hb2.size
  clear hb2 hB1 hd1 he1 hc3 hc4 hlt1 H1 HXX
  have tX : (((⟨#[195, 169]⟩ : ByteArray) ++ raw).toList == ((⟨#[195, 169]⟩ : ByteArray) ++ raw).toList) = true := beq_self_eq_true _
  have tL : ((((QL + 6 : Nat) : Int)) != ((qx.size : Int) + 6)) = false := by rw [HQS.out]; simp
  have tL2 : (((QL : Int) + 6) != ((qx.size : Int) + 6)) = false := by rw [HQS.out]; simp
  have tL3 : ((QL : Int) != (qx.size : Int)) = false := by rw [HQS.out]; simp
  go_upto_region 8 with fail
  obtain ⟨hi, hhi⟩ : ∃ hi, bn % 128 / 16 = hi := ⟨_, rfl⟩
  obtain ⟨lo, hlo⟩ : ∃ lo, bn % 16 = lo := ⟨_, rfl⟩
  have hhi7 : hi ≤ 7 := by omega
  have hlo15 : lo ≤ 15 := by omega
  have e1 : (bn : Int) % 128 / 16 = (hi : Int) := by omega
  have e2 : (bn : Int) % 16 = (lo : Int) := by omega
  have e3 : IntKind.u8.wrap ((hi : Int) + 1) = (hi : Int) + 1 := by rw [IntKind.wrap_u8]; omega
  have e4 : IntKind.u8.wrap ((lo : Int) + 1) = (lo : Int) + 1 := by rw [IntKind.wrap_u8]; omega
  have hx1 := digTab2 hi (by omega)
  have hx2 := digTab2 lo (by omega)
  have l1 : (hi : Int) + 1 ≤ 16 := by omega
  have l2 : (lo : Int) + 1 ≤ 16 := by omega
  clear hhi hlo
  go_cut [8, 9] (fun x y wx => x = .string ⟨#[hexd hi]⟩ ∧ y = .string ⟨#[hexd lo]⟩ ∧ ∃ q : Nat, wx = w2.drewN q)
  case first =>
    go_quiet (fail)
    go_wp2_with fail
    go_meet
    case rel => exact ⟨rfl, rfl, nq, rfl⟩
  case rest =>
    obtain ⟨rfl, rfl, q8, rfl⟩ := hcut
    have hB3 : Below w.heap.size w (w2.drewN q8) := hB2.trans ⟨rfl, rfl, rfl, Nat.le_refl _, fun _ _ => rfl⟩
    have hd3 := hd.below hB3
    have he3 := he.below hB3
    have hab := H12.out hi lo hhi7
    have HAa : Hid (unqL ((⟨#[34, 92, 120]⟩ : ByteArray) ++ ⟨#[hexd hi]⟩ ++ ⟨#[hexd lo]⟩ ++ qx.extract 1 qx.size).data.toList = ([], 0, 13)) := hab.1
    have HAb : Hid (unqL ((⟨#[34, 92, 117, 123, 48]⟩ : ByteArray) ++ ⟨#[hexd hi]⟩ ++ ⟨#[hexd lo]⟩ ++ ⟨#[125]⟩ ++ qx.extract 1 qx.size).data.toList = ([], 0, 13)) := hab.2
    have z1 : ∀ x : UInt8, (⟨#[x]⟩ : ByteArray).size = 1 := fun _ => rfl
    have z3 : (⟨#[34, 92, 120]⟩ : ByteArray).size = 3 := rfl
    have z5 : (⟨#[34, 92, 117, 123, 48]⟩ : ByteArray).size = 5 := rfl
    have z9 : (⟨#[34, 92, 120, 99, 51, 92, 120, 97, 57]⟩ : ByteArray).size = 9 := rfl
    have z7 : (⟨#[34, 92, 117, 123, 69, 57, 125]⟩ : ByteArray).size = 7 := rfl
    have HSa : Hid (((⟨#[34, 92, 120]⟩ : ByteArray) ++ ⟨#[hexd hi]⟩ ++ ⟨#[hexd lo]⟩ ++ qx.extract 1 qx.size).size ≤ 34359738368) := by
      show _ ≤ _
      simp only [ByteArray.size_append, z1, z3]
      omega
    have HSb : Hid (((⟨#[34, 92, 117, 123, 48]⟩ : ByteArray) ++ ⟨#[hexd hi]⟩ ++ ⟨#[hexd lo]⟩ ++ ⟨#[125]⟩ ++ qx.extract 1 qx.size).size ≤ 34359738368) := by
      show _ ≤ _
      simp only [ByteArray.size_append, z1, z5]
      omega
    have HSc : Hid (((⟨#[34, 92, 120, 99, 51, 92, 120, 97, 57]⟩ : ByteArray) ++ qx.extract 1 qx.size).size ≤ 34359738368) := by
      show _ ≤ _
      simp only [ByteArray.size_append, z9]
      omega
    have HSd : Hid (((⟨#[34, 92, 117, 123, 69, 57, 125]⟩ : ByteArray) ++ qx.extract 1 qx.size).size ≤ 34359738368) := by
      show _ ≤ _
      simp only [ByteArray.size_append, z7]
      omega
    have HSe : Hid ((qx.extract 0 (qx.size - 1)).size ≤ 34359738368) := by
      show _ ≤ _
      rw [ByteArray.size_extract]
      omega
    have H52 : Hid (unqL (qx.extract 0 (qx.size - 1)).data.toList = ([], 0, 13)) := by
      show _ = _
      rw [HQS.out]
      exact H5.out
    generalize w2.drewN q8 = w3 at *
    clear hB2 hd2 he2 hc32 hc42 hlt2 hab H12 z1 z3 z5 z9 z7 H5 e1 e2 e3 e4 hx1 hx2 l1 l2 tX tL tL2 tL3 HQS HQX
    go_wp2_with fail
    refine (unquote_any _ (HSa.out) _ hd3 he3).mono ?_
    rintro e w4 ⟨rfl, hb4⟩
    rw [HAa.out]
    show _
    simp only
    have hd4 := hd3.below hb4
    have he4 := he3.below hb4
    have hB4 := hB3.trans (hb4.mono hB3.size)
    clear hb4 hB3 hd3 he3
    go_wp2_with fail
    refine (unquote_any _ (HSb.out) _ hd4 he4).mono ?_
    rintro e w5 ⟨rfl, hb5⟩
    rw [HAb.out]
    show _
    simp only
    have hd5 := hd4.below hb5
    have he5 := he4.below hb5
    have hB5 := hB4.trans (hb5.mono hB4.size)
    clear hb5 hB4 hd4 he4
    go_wp2_with fail
    refine (unquote_any _ (HSc.out) _ hd5 he5).mono ?_
    rintro e w6 ⟨rfl, hb6⟩
    rw [H3.out]
    show _
    simp only
    have hd6 := hd5.below hb6
    have he6 := he5.below hb6
    have hB6 := hB5.trans (hb6.mono hB5.size)
    clear hb6 hB5 hd5 he5
    go_wp2_with fail
    refine (unquote_any _ (HSd.out) _ hd6 he6).mono ?_
    rintro e w7 ⟨rfl, hb7⟩
    rw [H4.out]
    show _
    simp only
    have hd7 := hd6.below hb7
    have he7 := he6.below hb7
    have hB7 := hB6.trans (hb7.mono hB6.size)
    clear hb7 hB6 hd6 he6
    go_wp2_with fail
    refine (unquote_any _ (HSe.out) _ hd7 he7).mono ?_
    rintro e w8 ⟨rfl, hb8⟩
    rw [H52.out]
    show _
    simp only
    have hd8 := hd7.below hb8
    have he8 := he7.below hb8
    have hB8 := hB7.trans (hb8.mono hB7.size)
    clear hb8 hB7 hd7 he7
    go_wp2_with fail
    go_ret
    exact ⟨rfl, hB8⟩
end Go.Proofs.YtfakfmmngflbfabDoor
