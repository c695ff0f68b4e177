import Derived.Test.YtfakfmmngflbfabDoorCutP
import Derived.Test.YtfakfmmngflbfabDoorUnq
import Derived.Test.YtfakfmmngflbfabDoorRnd
import Derived.Test.YtfakfmmngflbfabDoorMeetT
import Derived.Deep.DeepCutAuto
import Derived.WalkSpells
namespace Go.Proofs.YtfakfmmngflbfabDoor
open Go.RowKit Go.Lib

theorem unq_of (x : ByteArray) (rest : List UInt8) : unqL (quoted x ++ rest) = (x.data.toList, (quoted x).length, 0) := by
  have h := read_quoted x rest
  unfold unqL
  rw [h]
  simp only
  rw [show (⟨x.data.toList.toArray⟩ : ByteArray) = x by cases x; simp, if_pos (by rw [List.take_left])]
theorem quoL_most : ∀ (f : Nat) (l : List UInt8), (quoL f l).length ≤ 10 * l.length
  | 0, l => by simp [quoL]
  | f + 1, [] => by rw [quoL_end]; simp
  | f + 1, b :: t => by
    have hne : b :: t ≠ [] := by simp
    rw [quoL_step f _ hne, List.length_append]
    have hpl := (pieceL_len (b :: t)).2
    have hw : 1 ≤ (dec (b :: t)).2 := by
      have := width_pos ⟨(b :: t).toArray⟩ 0
      rw [decode_dec] at this
      simpa using this
    have ih := quoL_most f ((b :: t).drop (dec (b :: t)).2)
    rw [List.length_drop] at ih
    simp at ih ⊢
    omega
theorem quoted_len (x : ByteArray) : 2 ≤ (quoted x).length ∧ (quoted x).length ≤ 10 * x.size + 2 := by
  have := quoL_most x.size x.data.toList
  rw [← size_data] at this
  unfold quoted
  simp
  omega
theorem arr_list (x : ByteArray) : (⟨x.data.toList.toArray⟩ : ByteArray) = x := by cases x; simp
theorem Ints.heap2 {W W' : World} {o : Value} {zs : List Int} (h : Ints W o zs) (e : W'.heap = W.heap) : Ints W' o zs := by
  rcases h with h | ⟨b, off, len, cap, rfl, hl, hbl, hc⟩
  · exact .inl h
  · exact .inr ⟨b, off, len, cap, rfl, hl, by rw [e]; exact hbl, fun j hj => by
      have := hc j hj
      simp only [World.cell?, e] at this ⊢
      exact this⟩
theorem own_step2 {w V w' : World} {B e size n : Nat} {v : Value} {xs : List Value} (h : w.ownsRow B e size v n xs) (hb : Below V.heap.size V w') (he : V.heap = w.heap) : w'.ownsRow B e size v n xs := by
  refine ⟨h.1, ?_⟩
  rcases h.2 with h0 | ⟨g, cap, cur, hv, hB, hh, rest⟩
  · exact .inl h0
  · exact .inr ⟨g, cap, cur, hv, hB, (hb.block g (by rw [he]; exact (Array.getElem?_eq_some_iff.1 hh).1)).trans (by rw [he]; exact hh), rest⟩

set_option maxHeartbeats 4000000 in
set_option maxRecDepth 100000 in
theorem givesBack_any (o n : Value) (zo zn : List Int) (k : Int) (raw : ByteArray) (b : Int) (w : World) (ho : Ints w o zo) (hn : Ints w n zn) (h4 : zo.length ≤ 1048576) (h5 : zn.length ≤ 1048576) (hrw : raw.size ≤ 1048576) (hw : Bar w) (hd : Deb w) (he : Errs w) (kk : Nat) (hkk : kk ≤ zo.length) (hmod : k % ((zo.length : Int) + 1) = kk) :
    Calls Tryd.prog 7 #[.agg #[o, n, .int .i64 k, .string raw, .int .u8 b]] w fun e w' => e = .returned (.bool true) ∧ Below w.heap.size w w' := by
  have HM : Hid (k % ((zo.length : Int) + 1) = kk) := hmod
  clear hmod
  have hts := txt_size zo
  have hT := isText_txt zo
  have htn := txt_size zn
  have hN := isText_txt zn
  have HL : Hid ((zo.map letR).length = zo.length) := List.length_map ..
  have HLn : Hid ((zn.map letR).length = zn.length) := List.length_map ..
  have HN : Hid (Ints (w.alloc (.cells #[o, n, .int .i64 k, .string raw, .int .u8 b] 24)) n zn) := hn.mono ((Below.refl _ _).alloc (Nat.le_refl _) _)
  go_enter Tryd.func7, Tryd.ntmps7
  go_wp2_with fail
  refine (let_ints o zo _ (ho.mono ((Below.refl _ _).alloc (Nat.le_refl _) _)) (by omega)).mono ?_
  rintro e w2 ⟨a, cap, rfl, hown, hb2⟩
  have hcv := conv_let hown
  have hcvd : (convert 22 9 (.slice a zo.length cap)).run Tryd.prog w2.drew = _ := conv_let (W := w2.drew) hown
  have hc1 : w2.cell? ⟨w.heap.size, 1, none⟩ = some n := (hb2.cell (p := ⟨w.heap.size, 1, none⟩) (by simp)).trans (World.cell?_alloc_mark _ _ _ _ _)
  have hc2 : w2.cell? ⟨w.heap.size, 2, none⟩ = some (.int .i64 k) := (hb2.cell (p := ⟨w.heap.size, 2, none⟩) (by simp)).trans (World.cell?_alloc_mark _ _ _ _ _)
  have hc3 : w2.cell? ⟨w.heap.size, 3, none⟩ = some (.string raw) := (hb2.cell (p := ⟨w.heap.size, 3, none⟩) (by simp)).trans (World.cell?_alloc_mark _ _ _ _ _)
  have hlt2 : w.heap.size < w2.heap.size := by have := hb2.size; simp at this; omega
  have hB2 : Below w.heap.size w w2 := ((Below.refl _ _).alloc (Nat.le_refl _) _).trans (hb2.mono (by simp))
  have HN2 : Hid (Ints w2 n zn) := HN.out.mono hb2
  clear hb2 ho hn HN
  go_upto_region 2 with fail
  go_cut [4, 5] (fun x y wx => x = .string (txt zo) ∧ y = .string (txt zn) ∧ Below w.heap.size w wx ∧ w.heap.size < wx.heap.size ∧ wx.cell? ⟨w.heap.size, 2, none⟩ = some (.int .i64 k) ∧ wx.cell? ⟨w.heap.size, 3, none⟩ = some (.string raw))
  case first =>
    go_region_with (go_at_call 8; (refine (let_ints n zn _ ?_ (by omega)).mono ?_; exact HN2.out.heap2 rfl; rintro e w3 ⟨a2, cap2, rfl, hown2, hb3⟩; have hcv2 := conv_let hown2; have hcv3 := conv_let (own_step2 hown hb3 rfl)))
    all_goals (go_wp2_with fail; go_meet; case rel => exact ⟨rfl, rfl, by first | exact (below_dw hB2).trans (hb3.mono hB2.size) | exact hB2.trans (hb3.mono hB2.size), Nat.lt_of_lt_of_le hlt2 hb3.size, (hb3.cell (p := ⟨w.heap.size, 2, none⟩) hlt2).trans hc2, (hb3.cell (p := ⟨w.heap.size, 3, none⟩) hlt2).trans hc3⟩)
  case rest =>
    obtain ⟨rfl, rfl, hBc, hltc, hk2, hk3⟩ := hcut
    clear hcv hcvd hc1 hc2 hc3 hlt2 hB2 HN2 hown
    have hwc := hw.below hBc
    have hdc := hd.below hBc
    have hec := he.below hBc
    have HTA : Hid (txt zo = ⟨(encs (zo.map letR)).toArray⟩) := by
      show _ = _
      rw [← hT.bytes, arr_list]
    have HTN : Hid ((⟨(encs (zn.map letR)).toArray⟩ : ByteArray) = txt zn) := by
      show _ = _
      rw [← hN.bytes, arr_list]
    have hEx := hT.extract 0 kk (Nat.zero_le _)
    have HAB : Hid ((txt zo).extract (posOf (zo.map letR) 0) (posOf (zo.map letR) kk) ++ (txt zo).extract (posOf (zo.map letR) kk) (posOf (zo.map letR) zo.length) = txt zo) := by
      show _ = _
      have e1 := hEx.bytes
      have e2 := (hT.extract kk zo.length hkk).bytes
      apply ByteArray.ext
      apply Array.toList_inj.1
      rw [ByteArray.data_append, Array.toList_append, e1, e2, hT.bytes, ← encs_append]
      congr 1
      rw [List.drop_zero, ← HL.out, List.take_length]
      exact List.take_append_drop kk _
    generalize txt zo = s at *
    generalize txt zn = t at *
    generalize zo.map letR = xs at *
    generalize zn.map letR = ys at *
    have HKL : Hid (((xs.take kk).drop 0).length = kk) := by
      show _ = _
      rw [List.drop_zero, List.length_take, HL.out]
      omega
    have hsz0 : s.size ≤ 4194304 := by omega
    have htz0 : t.size ≤ 4194304 := by omega
    have tl : (((zo.length : Nat) : Int) != ((zo.length : Nat) : Int)) = false := by simp
    go_wp2_with fail
    refine (check_bar (by omega) hT.check _ hwc).mono ?_
    rintro e w4 ⟨rfl, hb4⟩
    rw [HL.out]
    have hk24 := (hb4.cell (p := ⟨w.heap.size, 2, none⟩) hltc).trans hk2
    have hk34 := (hb4.cell (p := ⟨w.heap.size, 3, none⟩) hltc).trans hk3
    have hw4 := hwc.below hb4
    have hd4 := hdc.below hb4
    have he4 := hec.below hb4
    have hB4 := hBc.trans (hb4.mono hBc.size)
    have hlt4 : w.heap.size < w4.heap.size := Nat.lt_of_lt_of_le hltc hb4.size
    clear hb4 hwc hdc hec hBc hltc hk2 hk3
    go_wp2_with (go_at_call 9; refine (pick_all _ _ (by omega) (by omega) _).mono ?_; rintro e w' ⟨rfl, rfl⟩; rw [HM.out])
    refine (slice_p hT (by omega) 0 kk (Nat.zero_le _) (by rw [HL.out]; exact hkk) _ hw4).mono ?_
    rintro e w5 ⟨rfl, hb5⟩
    have hw5 := hw4.below hb5
    have hd5 := hd4.below hb5
    have he5 := he4.below hb5
    have hB5 := hB4.trans (hb5.mono hB4.size)
    have hlt5 : w.heap.size < w5.heap.size := Nat.lt_of_lt_of_le hlt4 hb5.size
    have hk35 := (hb5.cell (p := ⟨w.heap.size, 3, none⟩) hlt4).trans hk34
    clear hb5 hw4 hd4 he4 hB4 hlt4 hk24 hk34
    go_wp2_with fail
    refine (slice_p hT (by omega) kk zo.length hkk (by rw [HL.out]; exact Nat.le_refl _) _ hw5).mono ?_
    rintro e w6 ⟨rfl, hb6⟩
    have hw6 := hw5.below hb6
    have hd6 := hd5.below hb6
    have he6 := he5.below hb6
    have hB6 := hB5.trans (hb6.mono hB5.size)
    have hlt6 : w.heap.size < w6.heap.size := Nat.lt_of_lt_of_le hlt5 hb6.size
    have hk36 := (hb6.cell (p := ⟨w.heap.size, 3, none⟩) hlt5).trans hk35
    clear hb6 hw5 hd5 he5 hB5 hlt5 hk35
    have zA : (s.extract (posOf xs 0) (posOf xs kk)).size ≤ 4194304 := by rw [ByteArray.size_extract]; omega
    have zB : (s.extract (posOf xs kk) (posOf xs zo.length)).size ≤ 4194304 := by rw [ByteArray.size_extract]; omega
    generalize s.extract (posOf xs kk) (posOf xs zo.length) = SB at *
    generalize s.extract (posOf xs 0) (posOf xs kk) = SA at *
    have tAB : ((SA ++ SB).toList == s.toList) = true := by rw [HAB.out]; exact beq_self_eq_true _
    go_wp2_with fail
    refine (check_bar (by omega) hEx.check _ hw6).mono ?_
    rintro e w7 ⟨rfl, hb7⟩
    rw [HKL.out]
    have hw7 := hw6.below hb7
    have hd7 := hd6.below hb7
    have he7 := he6.below hb7
    have hB7 := hB6.trans (hb7.mono hB6.size)
    have hlt7 : w.heap.size < w7.heap.size := Nat.lt_of_lt_of_le hlt6 hb7.size
    have hk37 := (hb7.cell (p := ⟨w.heap.size, 3, none⟩) hlt6).trans hk36
    clear hb7 hw6 hd6 he6 hB6 hlt6 hk36 tAB zA zB
    have tkk : ((kk : Int) != (kk : Int)) = false := by simp
    go_wp2_with fail
    refine (diff_in hT hN (by omega) (by omega) (by rw [HL.out]; omega) (by rw [HLn.out]; omega) _ hw7).mono ?_
    rintro e w8 ⟨rfl, hb8⟩
    have hw8 := hw7.below hb8
    have hd8 := hd7.below hb8
    have he8 := he7.below hb8
    have hB8 := hB7.trans (hb8.mono hB7.size)
    have hlt8 : w.heap.size < w8.heap.size := Nat.lt_of_lt_of_le hlt7 hb8.size
    have hk38 := (hb8.cell (p := ⟨w.heap.size, 3, none⟩) hlt7).trans hk37
    clear hb8 hw7 hd7 he7 hB7 hlt7 hk37
    have hh := headOf_le xs ys
    have ht2 := tailOf_le xs ys
    have hI := ins_text hN (headOf xs ys) (ys.length - tailOf xs ys)
    have hSD := splice_diff xs ys
    have hIz : (⟨(encs ((ys.take (ys.length - tailOf xs ys)).drop (headOf xs ys))).toArray⟩ : ByteArray).size ≤ 4194304 := by
      have e3 := (hN.extract (headOf xs ys) (ys.length - tailOf xs ys) (by omega)).bytes
      rw [sizeL, ← e3, ← size_data, ByteArray.size_extract]
      omega
    generalize headOf xs ys = H at *
    generalize tailOf xs ys = TT at *
    generalize (ys.take (ys.length - TT)).drop H = is at *
    obtain ⟨D, hD⟩ : ∃ D : Nat, xs.length - H - TT = D := ⟨_, rfl⟩
    rw [hD] at hSD
    have eD : (xs.length : Int) - H - TT = (D : Int) := by omega
    rw [eD]
    have HSP : Hid ((⟨(spliced xs is H D).toArray⟩ : ByteArray) = t) := by
      show _ = _
      rw [hSD, HTN.out]
    have hHD : H + D ≤ xs.length := by omega
    generalize (⟨(encs is).toArray⟩ : ByteArray) = it at *
    clear eD hD hSD hh ht2
    go_wp2_with fail
    refine (splice_p hT hI (by omega) (by omega) H D hHD _ hw8).mono ?_
    rintro e w9 ⟨rfl, hb9⟩
    rw [HSP.out]
    have hd9 := hd8.below hb9
    have he9 := he8.below hb9
    have hB9 := hB8.trans (hb9.mono hB8.size)
    have hlt9 : w.heap.size < w9.heap.size := Nat.lt_of_lt_of_le hlt8 hb9.size
    have hk39 := (hb9.cell (p := ⟨w.heap.size, 3, none⟩) hlt8).trans hk38
    clear hb9 hw8 hd8 he8 hB8 hlt8 hk38
    have ttt : (t.toList == t.toList) = true := beq_self_eq_true _
    go_wp2_with fail
    refine (quote_any raw (by omega) _ hd9).mono ?_
    rintro e w10 ⟨rfl, hb10⟩
    have hd10 := hd9.below hb10
    have he10 := he9.below hb10
    have hB10 := hB9.trans (hb10.mono hB9.size)
    have hk310 := (hb10.cell (p := ⟨w.heap.size, 3, none⟩) hlt9).trans hk39
    clear hb10 hd9 he9 hB9 hlt9 hk39
    have hql := quoted_len raw
    obtain ⟨QL, hQL⟩ : ∃ QL, (quoted raw).length = QL := ⟨_, rfl⟩
    have hUQ : unqL ((⟨(quoted raw).toArray⟩ : ByteArray) ++ t).data.toList = (raw.data.toList, QL, 0) := by
      rw [ByteArray.data_append, Array.toList_append, ← hQL]
      exact unq_of raw t.data.toList
    have hqs : (⟨(quoted raw).toArray⟩ : ByteArray).size = QL := by rw [sizeL, hQL]
    obtain ⟨qx, hqx⟩ : ∃ qx : ByteArray, (⟨(quoted raw).toArray⟩ : ByteArray) = qx := ⟨_, rfl⟩
    rw [hqx] at hUQ hqs
    rw [hQL] at hql
    rw [hqx]
    have HUQ : Hid (unqL (qx ++ t).data.toList = (raw.data.toList, QL, 0)) := hUQ
    have hqz1 : qx.size ≤ QL := Nat.le_of_eq hqs
    have tq : ((QL : Int) == (qx.size : Int)) = true := beq_iff_eq.2 (by omega)
    have tr : (raw.toList == raw.toList) = true := beq_self_eq_true _
    have t2 : decide ((2 : Int) ≤ (QL : Int)) = true := decide_eq_true (by omega)
    have t2n : decide (2 ≤ QL) = true := decide_eq_true (by omega)
    clear hUQ hqs hqx hQL
    go_wp2_with fail
    refine (unquote_any (qx ++ t) (by rw [ByteArray.size_append]; omega) _ hd10 he10).mono ?_
    rintro e w11 ⟨rfl, hb11⟩
    rw [HUQ.out]
    show _
    simp only
    rw [arr_list raw]
    have hlt10 : w.heap.size < w10.heap.size := by
      rcases Nat.lt_or_ge w.heap.size w10.heap.size with h | h
      · exact h
      · simp [World.cell?, Array.getElem?_eq_none h] at hk310
    have hk311 := (hb11.cell (p := ⟨w.heap.size, 3, none⟩) hlt10).trans hk310
    have hB11 := hB10.trans (hb11.mono hB10.size)
    clear hb11 hB10 hd10 he10 hk310
    go_wp2_with fail
    go_ret
    exact ⟨rfl, hB11⟩
end Go.Proofs.YtfakfmmngflbfabDoor
