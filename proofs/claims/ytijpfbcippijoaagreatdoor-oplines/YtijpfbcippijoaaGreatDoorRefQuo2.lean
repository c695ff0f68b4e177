import Derived.Test.YtijpfbcippijoaaGreatDoorRefQuo
namespace Go.Proofs.YtijpfbcippijoaaGreatDoor
open Go.RowKit Go.Lib
set_option maxHeartbeats 4000000 in
set_option maxRecDepth 100000 in
theorem refQuote_any (s : ByteArray) (hs : s.size ≤ 20971520) (w : World) :
    Calls Tryz.prog 80 #[.string s] w fun e w' => e = .returned (.string ⟨(quoted s).toArray⟩) ∧ Below w.heap.size w w' := by
  obtain ⟨i0, hi, hz0, hz1, hz2⟩ := info_parts info8
  go_enter Tryz.func80, Tryz.ntmps80
  go_wp2_with fail
  go_loopw [3, 4, 5, 6, 7, 8] (fun q i _ _ _ _ w' => ∃ (pos f : Nat) (acc : List UInt8) (a : Option Addr) (cap : Nat), q = .slice a (1 + acc.length) cap ∧ i = .int .i64 pos ∧ w'.ownsRow w.heap.size 5 1 (.slice a (1 + acc.length) cap) (1 + acc.length) (byteCells (34 :: acc)) ∧ Below w.heap.size w w' ∧ pos ≤ s.size ∧ s.size ≤ pos + f ∧ acc.length ≤ 10 * pos ∧ Hid (acc ++ quoL f (s.data.toList.drop pos) = quoL s.size s.data.toList)) (fun _ i _ _ _ _ _ => s.size - (RowKit.intOf i).toNat)
  case atStart => exact ⟨0, s.size, [], _, _, rfl, rfl, own_one w _ _, (Below.refl _ _).alloc (Nat.le_refl _) _, Nat.zero_le _, by omega, by simp, rfl⟩
  case round =>
    obtain ⟨pos, f, acc, a, cap, rfl, rfl, hown, HBW, hps, hpf, hal, HA⟩ := hrel
    have hszw := HBW.size
    by_cases hp : pos < s.size
    · obtain ⟨f, rfl⟩ : ∃ f', f = f' + 1 := ⟨f - 1, by omega⟩
      have hne : s.data.toList.drop pos ≠ [] := by
        intro e
        have := congrArg List.length e
        rw [List.length_drop, ← size_data] at this
        simp at this
        omega
      have hA2 := HA.out
      rw [quoL_step f _ hne, ← List.append_assoc, List.drop_drop] at hA2
      have hpl := pieceL_len (s.data.toList.drop pos)
      obtain ⟨pc, hpc⟩ : ∃ pc, pieceL (s.data.toList.drop pos) = pc := ⟨_, rfl⟩
      rw [hpc] at hA2 hpl
      have HPC : Hid (pieceL (s.data.toList.drop pos) = pc) := hpc
      have HBY : Hid (∀ h, (s[pos]'h).toNat = at0 (s.data.toList.drop pos) 0) := byteAt0 s pos
      have hb0 : at0 (s.data.toList.drop pos) 0 < 256 := at0_lt _ _
      have hr0 : (dec (s.data.toList.drop pos)).1 ≤ 1114111 := by rw [← decode_dec]; exact decode_le' s pos
      have hw1 : 1 ≤ (dec (s.data.toList.drop pos)).2 := by rw [← decode_dec]; exact width_pos s pos
      have hw2 : pos + (dec (s.data.toList.drop pos)).2 ≤ s.size := by rw [← decode_dec]; exact width_fits s pos hp
      have HSQ : Hid (seq (s.data.toList.drop pos) = if brkL (s.data.toList.drop pos) = true then (0, 0) else dec (s.data.toList.drop pos)) := by
        show _ = _
        cases hl : s.data.toList.drop pos with
        | nil => exact absurd hl hne
        | cons b0 t => exact seq_dec b0 t
      have HB1 : Hid (brkL (s.data.toList.drop pos) = true → (dec (s.data.toList.drop pos)).2 = 1 ∧ 128 ≤ at0 (s.data.toList.drop pos) 0) := brk_one _ hne
      clear hpc hne HA
      have HA3 : Hid (acc ++ pc ++ quoL f (List.drop (pos + (dec (s.data.toList.drop pos)).2) s.data.toList) = quoL s.size s.data.toList) := hA2
      clear hA2
      cases hbk : brkL (s.data.toList.drop pos) with
      | true =>
        have h81 := HB1.out hbk
        have hl := hexL_len (at0 (s.data.toList.drop pos) 0)
        rw [← sizeL (hexL (at0 (s.data.toList.drop pos) 0))] at hl
        have hC := catL [92, 120] (hexL (at0 (s.data.toList.drop pos) 0))
        have hQ : [92, 120] ++ hexL (at0 (s.data.toList.drop pos) 0) = pc := by rw [← HPC.out, pieceL, if_pos hbk]
        rw [hQ] at hC
        obtain ⟨tx, htx⟩ : ∃ tx, (⟨(hexL (at0 (s.data.toList.drop pos) 0)).toArray⟩ : ByteArray) = tx := ⟨_, rfl⟩
        rw [htx] at hl hC
        have HTX : Hid ((⟨(hexL (at0 (s.data.toList.drop pos) 0)).toArray⟩ : ByteArray) = tx) := htx
        have HC : Hid ((⟨#[92, 120]⟩ : ByteArray) ++ tx = ⟨pc.toArray⟩) := hC
        have HSQ2 : Hid (seq (s.data.toList.drop pos) = (0, 0)) := by show _ = _; rw [HSQ.out, if_pos hbk]
        have hd1 := h81.1
        rw [hd1] at HA3 hw1 hw2
        have h128 := h81.2
        clear htx hC hQ h81 hd1 hr0 HB1 hbk
        obtain ⟨bv0, hbv0⟩ : ∃ bv0, at0 (s.data.toList.drop pos) 0 = bv0 := ⟨_, rfl⟩
        rw [hbv0] at HBY hb0 HTX h128
        clear hbv0
        go_wp2_with fail
        refine (seq_any s (by omega) pos hp _).mono ?_
        rintro e w' ⟨rfl, rfl⟩
        rw [HSQ2.out]
        have hby := HBY.out
        go_wp2_with fail
        refine (digits_any bv0 2 (by omega) (.inr ⟨rfl, by omega⟩) _).mono ?_
        rintro e w' ⟨rfl, rfl⟩
        rw [HTX.out]
        clear hby
        go_wp2_with fail
        rw [HC.out]
        have hown2 := hown
        have hcz : pc.length ≤ 10 := hpl.2
        obtain ⟨wt, hwt⟩ : ∃ wt : ByteArray, (⟨pc.toArray⟩ : ByteArray) = wt := ⟨_, rfl⟩
        have HW : Hid (∀ x, x < pc.length → ∀ h, (wt[x]'h).toNat = (pc.getD x 0).toNat) := by
          subst hwt
          intro x hx h
          exact byteL pc x hx h
        have hwz : wt.size = pc.length := by rw [← hwt]; exact sizeL pc
        have hwz1 : wt.size ≤ pc.length := Nat.le_of_eq hwz
        have hwz2 : pc.length ≤ wt.size := Nat.le_of_eq hwz.symm
        rw [hwt]
        clear hwt hwz
        go_loopw [3, 8] (fun b k w' => ∃ (i : Nat) (ab : Option Addr) (cb : Nat), i ≤ pc.length ∧ b = .slice ab (1 + acc.length + i) cb ∧ k = .int .i64 i ∧ w'.ownsRow w.heap.size 5 1 (.slice ab (1 + acc.length + i) cb) (1 + acc.length + i) (byteCells (34 :: acc) ++ byteCells (pc.take i)) ∧ Below w.heap.size w w') (fun _ k _ => pc.length - (RowKit.intOf k).toNat)
        case atStart => exact ⟨0, a, cap, Nat.zero_le _, rfl, rfl, by rw [List.take_zero, Nat.add_zero, show byteCells [] = [] from rfl, List.append_nil]; exact hown2, HBW⟩
        case round =>
          clear hown hown2
          obtain ⟨i, ab, cb, hiw, rfl, rfl, hown, hb⟩ := hrel
          have hsz := hb.size
          by_cases hi2 : i < pc.length
          · have HT : Hid (byteCells (pc.take i) ++ [Value.int .u8 (pc.getD i 0).toNat] = byteCells (pc.take (i + 1))) := take_snoc8 pc i hi2
            have hbv : (pc.getD i 0).toNat < 256 := (pc.getD i 0).toNat_lt
            have hwx := HW.out i hi2
            have hiz : i < wt.size := by omega
            generalize (pc.getD i 0).toNat = bv at *
            go_wp2_with (at_builtin; refine wpList_append_own _ rfl _ _ 85 rfl w.heap.size 5 i0 (.int .u8 0) 1 1 Tryz.underlying85 hi hz0 hz1 hz2 rfl (by decide) _ _ _ rfl (hown.alloc _) ⟨_, 0, none⟩ 1 1 [.int .u8 bv] rfl rfl ?c1 ?c2 ?c3 ?c4 ?c5 ?_)
            case c1 => exact cell_new8 _ _ _
            case c2 => first | rfl | (intro u hu; simp at hu; subst hu; rfl)
            case c3 => unfold maxLen; omega
            case c4 => omega
            case c5 => first | omega | (simp; omega)
            intro v' w3 hown' hgrow _
            rw [HT.out] at hown'
            have hb3 : Below w.heap.size w w3 := (hb.alloc hsz _).grown hgrow (by simp; omega) (fun g hg => own_ge hown hg)
            obtain ⟨a', cap', rfl⟩ : ∃ a' cap', v' = .slice a' (1 + acc.length + i + 1) cap' := by
              rcases hown'.2 with ⟨_, h0⟩ | ⟨g', cap', cur, e, _⟩
              · omega
              · exact ⟨_, _, e⟩
            clear hown hgrow hb hwx
            go_wp2_with fail
            go_roundw
            case rel => exact ⟨i + 1, a', cap', by omega, rfl, by go_num, hown', hb3⟩
            case measure => simp [RowKit.intOf]; omega
          · have hiw2 : i = pc.length := by omega
            subst hiw2
            rw [List.take_length, ← byteCells_append, List.cons_append] at hown
            go_wp2_with fail
            go_roundw
            case rel => exact ⟨pos + 1, f, acc ++ pc, ab, cb, by rw [List.length_append, ← Nat.add_assoc], by go_num, by rw [List.length_append, ← Nat.add_assoc]; exact hown, hb, by omega, by omega, by rw [List.length_append]; omega, HA3⟩
            case measure => simp [RowKit.intOf]; omega
      | false =>
        have HSQ2 : Hid (seq (s.data.toList.drop pos) = dec (s.data.toList.drop pos)) := by show _ = _; rw [HSQ.out, if_neg (by rw [hbk]; decide)]
        have HQ : Hid (qR (dec (s.data.toList.drop pos)).1 = pc) := by show _ = _; rw [← HPC.out, pieceL, if_neg (by rw [hbk]; decide)]
        clear hbk HB1 HBY hb0
        obtain ⟨⟨r, wd⟩, hdd⟩ : ∃ d, dec (s.data.toList.drop pos) = d := ⟨_, rfl⟩
        rw [hdd] at HSQ2 HQ HA3 hr0 hw1 hw2
        clear hdd
        simp only at hr0 hw1 hw2
        have HQ2 : Hid (qR r = pc) := HQ.out
        have HA4 : Hid (acc ++ pc ++ quoL f (List.drop (pos + wd) s.data.toList) = quoL s.size s.data.toList) := HA3.out
        clear HQ HA3
        have HA3 : Hid (acc ++ pc ++ quoL f (List.drop (pos + wd) s.data.toList) = quoL s.size s.data.toList) := HA4
        clear HA4
        have t0 : ((wd : Int) == 0) = false := beq_eq_false_iff_ne.2 (by omega)
        go_wp2_with fail
        refine (seq_any s (by omega) pos hp _).mono ?_
        rintro e w' ⟨rfl, rfl⟩
        rw [HSQ2.out]
        show _
        simp only
        go_wp2_with fail
        refine (written_any r hr0 _).mono ?_
        rintro e w4 ⟨rfl, hb4⟩
        rw [HQ2.out]
        have hown := own_keep hown hb4
        have HBW := HBW.trans (hb4.mono HBW.size)
        clear hb4
        go_wp2_with fail
        have hown2 := hown
        have hcz : pc.length ≤ 10 := hpl.2
        obtain ⟨wt, hwt⟩ : ∃ wt : ByteArray, (⟨pc.toArray⟩ : ByteArray) = wt := ⟨_, rfl⟩
        have HW : Hid (∀ x, x < pc.length → ∀ h, (wt[x]'h).toNat = (pc.getD x 0).toNat) := by
          subst hwt
          intro x hx h
          exact byteL pc x hx h
        have hwz : wt.size = pc.length := by rw [← hwt]; exact sizeL pc
        have hwz1 : wt.size ≤ pc.length := Nat.le_of_eq hwz
        have hwz2 : pc.length ≤ wt.size := Nat.le_of_eq hwz.symm
        rw [hwt]
        clear hwt hwz
        go_loopw [3, 8] (fun b k w' => ∃ (i : Nat) (ab : Option Addr) (cb : Nat), i ≤ pc.length ∧ b = .slice ab (1 + acc.length + i) cb ∧ k = .int .i64 i ∧ w'.ownsRow w.heap.size 5 1 (.slice ab (1 + acc.length + i) cb) (1 + acc.length + i) (byteCells (34 :: acc) ++ byteCells (pc.take i)) ∧ Below w.heap.size w w') (fun _ k _ => pc.length - (RowKit.intOf k).toNat)
        case atStart => exact ⟨0, a, cap, Nat.zero_le _, rfl, rfl, by rw [List.take_zero, Nat.add_zero, show byteCells [] = [] from rfl, List.append_nil]; exact hown2, HBW⟩
        case round =>
          clear hown hown2
          obtain ⟨i, ab, cb, hiw, rfl, rfl, hown, hb⟩ := hrel
          have hsz := hb.size
          by_cases hi2 : i < pc.length
          · have HT : Hid (byteCells (pc.take i) ++ [Value.int .u8 (pc.getD i 0).toNat] = byteCells (pc.take (i + 1))) := take_snoc8 pc i hi2
            have hbv : (pc.getD i 0).toNat < 256 := (pc.getD i 0).toNat_lt
            have hwx := HW.out i hi2
            have hiz : i < wt.size := by omega
            generalize (pc.getD i 0).toNat = bv at *
            go_wp2_with (at_builtin; refine wpList_append_own _ rfl _ _ 85 rfl w.heap.size 5 i0 (.int .u8 0) 1 1 Tryz.underlying85 hi hz0 hz1 hz2 rfl (by decide) _ _ _ rfl (hown.alloc _) ⟨_, 0, none⟩ 1 1 [.int .u8 bv] rfl rfl ?c1 ?c2 ?c3 ?c4 ?c5 ?_)
            case c1 => exact cell_new8 _ _ _
            case c2 => first | rfl | (intro u hu; simp at hu; subst hu; rfl)
            case c3 => unfold maxLen; omega
            case c4 => omega
            case c5 => first | omega | (simp; omega)
            intro v' w3 hown' hgrow _
            rw [HT.out] at hown'
            have hb3 : Below w.heap.size w w3 := (hb.alloc hsz _).grown hgrow (by simp; omega) (fun g hg => own_ge hown hg)
            obtain ⟨a', cap', rfl⟩ : ∃ a' cap', v' = .slice a' (1 + acc.length + i + 1) cap' := by
              rcases hown'.2 with ⟨_, h0⟩ | ⟨g', cap', cur, e, _⟩
              · omega
              · exact ⟨_, _, e⟩
            clear hown hgrow hb hwx
            go_wp2_with fail
            go_roundw
            case rel => exact ⟨i + 1, a', cap', by omega, rfl, by go_num, hown', hb3⟩
            case measure => simp [RowKit.intOf]; omega
          · have hiw2 : i = pc.length := by omega
            subst hiw2
            rw [List.take_length, ← byteCells_append, List.cons_append] at hown
            go_wp2_with fail
            go_roundw
            case rel => exact ⟨pos + wd, f, acc ++ pc, ab, cb, by rw [List.length_append, ← Nat.add_assoc], by go_num, by rw [List.length_append, ← Nat.add_assoc]; exact hown, hb, by omega, by omega, by rw [List.length_append]; omega, HA3⟩
            case measure => simp [RowKit.intOf]; omega
    · have hps2 : pos = s.size := by omega
      subst hps2
      have hA2 := HA.out
      rw [List.drop_eq_nil_of_le (by rw [← size_data]; omega), quoL_end, List.append_nil] at hA2
      have HQ : Hid (byteCells (34 :: acc) ++ [Value.int .u8 34] = byteCells (quoted s)) := by
        show _ = _
        rw [hA2, quoted, byteCells_append ([34] ++ _) [34]]
        rfl
      clear hA2 HA
      go_wp2_with (at_builtin; refine wpList_append_own _ rfl _ _ 85 rfl w.heap.size 5 i0 (.int .u8 0) 1 1 Tryz.underlying85 hi hz0 hz1 hz2 rfl (by decide) _ _ _ rfl (hown.alloc _) ⟨_, 0, none⟩ 1 1 [.int .u8 34] rfl rfl ?c1 ?c2 ?c3 ?c4 ?c5 ?_)
      case c1 => exact cell_new8 _ _ _
      case c2 => first | rfl | (intro u hu; simp at hu; subst hu; rfl)
      case c3 => unfold maxLen; omega
      case c4 => omega
      case c5 => first | omega | (simp; omega)
      intro v' w3 hown' hgrow _
      rw [HQ.out] at hown'
      have hb3 : Below w.heap.size w w3 := (HBW.alloc hszw _).grown hgrow (by simp; omega) (fun g hg => own_ge hown hg)
      have hcv := conv_own hown'
      clear hown hgrow HBW HQ
      obtain ⟨tx, htx⟩ : ∃ tx : ByteArray, (⟨(quoted s).toArray⟩ : ByteArray) = tx := ⟨_, rfl⟩
      rw [htx] at hcv
      have HS : Hid ((⟨(quoted s).toArray⟩ : ByteArray) = tx) := htx
      clear htx hown'
      go_wp2_with fail
      go_ret
      rw [HS.out]
      exact ⟨rfl, hb3⟩
end Go.Proofs.YtijpfbcippijoaaGreatDoor
