import Derived.Test.YtcflpiaclnebeaaDoorRrHJ
namespace Go.Proofs.YtcflpiaclnebeaaDoor
open Go.RowKit Go.Lib
set_option maxRecDepth 100000

theorem okR_x : okR 120 := ⟨valid_of (by decide) (by decide) (by decide), by decide⟩
theorem isText_x : IsText ⟨#[120]⟩ [120] := by
  have h := isText_nil.snoc okR_x
  have e : (⟨#[]⟩ : ByteArray) ++ Utf8.encode 120 = ⟨#[120]⟩ := by decide
  rw [e] at h
  exact h
theorem cellsOf_ok {L : List GRun} (h : ∀ x ∈ L, IsText x.s x.rs) : ∀ c ∈ cellsOf L, okR c.1 := fun c hc => by
  obtain ⟨x, hx, hc⟩ := List.mem_flatMap.1 hc
  obtain ⟨r, hr, rfl⟩ := List.mem_map.1 hc
  exact (h x hx).ok r hr
set_option maxHeartbeats 8000000 in
theorem ropeLands_any {w : World} {a : Option Addr} {n cap : Nat} {l : List (Int × Int)} (h : Rw pieceV 2 w a n cap l) (hBar : Bar w) (A N P : Int) :
    Calls Tryd.prog 5 #[.slice a n cap, .int .i64 A, .int .i64 N, .int .i64 P] w fun e w' => e = .returned (.bool true) ∧ Below w.heap.size w w' := by
  go_enter Tryd.func5, Tryd.ntmps5
  go_wp2_with fail
  refine (runs_any h).mono ?_
  rintro e w1 ⟨v1, L, rfl, ho1, hL, hb1⟩
  have hF := hL.from_
  have hcl := hL.cells_le
  have hlf := hL.few
  obtain ⟨a1, c1, rfl⟩ := ho1.shape
  have HC := cells_any (ho1.rw_ layR) hF.text hF.few
  go_wp2_with fail
  refine HC.mono ?_
  rintro e w2 ⟨v2, rfl, ho2, hb2⟩
  obtain ⟨a2, c2, rfl⟩ := ho2.shape
  have hR2 := ho2.rw_ layC
  have hB2 : Below w.heap.size w w2 := hb1.trans (hb2.mono hb1.size)
  have hBar2 := hBar.below hB2
  have HFR := from_any ((ho1.rw_ layR).below hb2) hF hBar2
  have hO := cellsOf_ok hF.text
  have hnn : (cellsOf L).length ≤ 1152 := by omega
  have hNN : Nonneg (cellsOf L) := cellsOf_nonneg hF.lo
  have HLA : Hid (∀ W q, (∃ t ts, RopeAt W q t ∧ Built ts t ∧ Parts L ts) → Below w2.heap.size w2 W → Holds w2 q (cellsOf L) W) := fun W q ⟨t, ts, k1, k2, k3⟩ hb => by
    obtain ⟨e1, e2⟩ := from_rp hF k2 k3
    exact ⟨t, k1, e2, e1, hb⟩
  have HTX : Hid (∀ W, Below w2.heap.size w2 W → Calls Tryd.prog 24 #[.slice a2 (cellsOf L).length c2, .int .i64 0, .int .i64 ((cellsOf L).length : Int)] W fun e w' => e = .returned (.string (strOf (visR (cellsOf L)))) ∧ w' = W) := fun W hW => (lawText_any (hR2.below hW) hF.few hNN hO).mono fun e w' ⟨s, he, hs, hw⟩ => ⟨by rw [he, tx_eq hs.bytes], hw⟩
  have HSH : Hid (∀ W, Below w2.heap.size w2 W → Calls Tryd.prog 11 #[.slice a2 (cellsOf L).length c2, .int .i64 ((cellsOf L).length : Int)] W fun e w' => e = .returned (.int .i64 (vis (cellsOf L) : Int)) ∧ w' = W) := fun W hW => by
    have := shown_any (hR2.below hW) (cellsOf L).length (Nat.le_refl _) hF.few
    rw [List.take_length] at this
    exact this
  have HBAR : Hid (Bar w2) := hBar2
  have HO : Hid (∀ c ∈ cellsOf L, okR c.1) := hO
  have HNN : Hid (Nonneg (cellsOf L)) := hNN
  have hroom := hR2.room
  clear hL hF hcl hlf ho1 HC ho2 hR2 hBar h hO hNN hBar2
  generalize hRR : cellsOf L = R at *
  clear hRR
  have hm0 := Int.emod_nonneg A (show ((R.length : Int) + 1) ≠ 0 by omega)
  have hm1 := Int.emod_lt_of_pos A (show (0 : Int) < (R.length : Int) + 1 by omega)
  obtain ⟨m, hm⟩ : ∃ m : Nat, A % ((R.length : Int) + 1) = (m : Int) := ⟨(A % ((R.length : Int) + 1)).toNat, by omega⟩
  have HRA := rest_any A ((R.length : Int) + 1) (by omega) (by omega)
  rw [hm] at HRA hm1
  have hmR : m ≤ R.length := by omega
  have hk0 := Int.emod_nonneg N (show (48 : Int) ≠ 0 by decide)
  have hk1 := Int.emod_lt_of_pos N (show (0 : Int) < 48 by decide)
  have HRN := rest_any N 48 (by decide) (by decide)
  generalize N % 48 = K at *
  have HWD := words_any (1 + K) N (by omega) (by omega)
  clear hm hm0
  go_wp2_with fail
  refine (HRA _).mono ?_
  rintro e w3 ⟨rfl, rfl⟩
  go_wp2_with fail
  refine (HRN _).mono ?_
  rintro e w4 ⟨rfl, rfl⟩
  go_wp2_with fail
  refine (HWD _).mono ?_
  rintro e w5 ⟨s, rfl, ⟨rs, hts, hrl⟩, rfl⟩
  go_wp2_with fail
  refine HFR.mono ?_
  rintro e w6 ⟨q, t, ts, rfl, hRp, hBt, hPt, hb6, hq6⟩
  have hH0 := HLA.out _ q ⟨t, ts, hRp, hBt, hPt⟩ hb6
  clear HLA HFR hRp hBt hPt hb6 HWD HRA
  unfold ptr
  obtain ⟨whole, ewh⟩ : ∃ x, x = strOf (visR R) := ⟨_, rfl⟩
  obtain ⟨hd, ehd⟩ : ∃ x, x = strOf (visR (R.take m)) := ⟨_, rfl⟩
  obtain ⟨tl, etl⟩ : ∃ x, x = strOf (visR (R.drop m)) := ⟨_, rfl⟩
  have hsp := visR_split HNN.out m
  have hvv := visR_vis HNN.out
  have s1 : hd ++ tl = whole := by rw [ehd, etl, ewh, strOf_append, ← visR_append, List.take_append_drop]
  have z1 : hd.size ≤ 4608 := by
    have h1 := strOf_size (rs := visR (R.take m)) (fun r hr => by obtain ⟨c, hc, rfl⟩ := visR_sub _ r hr; exact HO.out c (List.mem_of_mem_take hc))
    have h2 := visR_len (R.take m)
    rw [List.length_take] at h2
    rw [ehd]; omega
  have z2 : tl.size ≤ 4608 := by
    have h1 := strOf_size (rs := visR (R.drop m)) (fun r hr => by obtain ⟨c, hc, rfl⟩ := visR_sub _ r hr; exact HO.out c (List.mem_of_mem_drop hc))
    have h2 := visR_len (R.drop m)
    rw [List.length_drop] at h2
    rw [etl]; omega
  have z3 := hts.small
  have hvm : vis (R.take m) ≤ vis R := by
    have : vis R = vis (R.take m) + vis (R.drop m) := by rw [← vis_append, List.take_append_drop]
    omega
  have hvR := vis_le R
  have T0 := hH0.text HO.out
  rw [← ewh] at T0
  have HSP : Hid ((visR R).take (vis (R.take m)) = visR (R.take m) ∧ (visR R).drop (vis (R.take m)) = visR (R.drop m)) := hsp
  have HVV : Hid ((visR R).length = vis R) := hvv
  have EW : Hid (whole = strOf (visR R)) := ewh
  have EH : Hid (hd = strOf (visR (R.take m))) := ehd
  have ET : Hid (tl = strOf (visR (R.drop m))) := etl
  have HTX2 : Hid (∀ W, Below w5.heap.size w5 W → Calls Tryd.prog 24 #[.slice a2 R.length c2, .int .i64 0, .int .i64 (R.length : Int)] W fun e w' => e = .returned (.string whole) ∧ w' = W) := by rw [ewh]; exact HTX.out
  have HTS : Hid (IsText s rs) := hts
  have hrn : rs ≠ [] := by rintro rfl; simp at hrl; omega
  clear ewh ehd etl hsp hvv HTX hts hH0
  go_wp2_with fail
  refine T0.mono ?_
  rintro e w7 ⟨rfl, hH⟩
  clear T0
  have T1 := hH.shownBefore m hmR
  go_wp2_with fail
  refine T1.mono ?_
  rintro e w8 ⟨rfl, hH1⟩
  clear T1 hH
  have T2 := hH1.slice HO.out 0 (vis (R.take m)) (Nat.zero_le _) hvm
  rw [List.drop_zero, HSP.out.1, ← EH.out] at T2
  generalize hVM : vis (R.take m) = vm at *
  have HVM : Hid (vis (R.take m) = vm) := hVM
  clear hVM
  go_wp2_with fail
  refine T2.mono ?_
  rintro e w9 ⟨rfl, hH2⟩
  clear T2 hH1
  have T3 := hH2.shown
  go_wp2_with fail
  refine T3.mono ?_
  rintro e w10 ⟨rfl, hH3⟩
  clear T3 hH2
  have T4 := hH3.slice HO.out vm (vis R) hvm (Nat.le_refl _)
  rw [List.take_of_length_le (by rw [HVV.out]; exact Nat.le_refl _), HSP.out.2, ← ET.out] at T4
  go_wp2_with fail
  refine T4.mono ?_
  rintro e w11 ⟨rfl, hH4⟩
  clear T4 hH3
  have hb11 := hH4.below
  have T5 := HTX2.out _ hb11
  go_wp2_with fail
  refine T5.mono ?_
  rintro e w12 ⟨rfl, rfl⟩
  have hqq : w5.heap.size ≤ q := hq6
  have hlen1 : R.length + rs.length ≤ 1048576 := by omega
  have T6 := hH4.insert hqq m hmR HTS.out hrn 2 (by decide) (by decide) hlen1 HBAR.out
  obtain ⟨R1, eR1⟩ : ∃ x, x = putL R m rs 2 := ⟨_, rfl⟩
  have E1 : Hid (R1 = putL R m rs 2) := eR1
  rw [← eR1] at T6
  have hO1 : Hid (∀ c ∈ R1, okR c.1) := by rw [eR1]; exact putL_ok HO.out HTS.out.ok
  have hl1 : R1.length = R.length + rs.length := by rw [eR1]; exact putL_len _ _ _ _
  have V1 : Hid (visR R1 = visR R) := by
    show _ = _
    rw [eR1, visR_putL, if_neg (by decide), List.append_nil, ← visR_append, List.take_append_drop]
  have W1 : Hid (R1.take m = R.take m ∧ R1.drop m = (rs.map fun c => (c, (2 : Int))) ++ R.drop m) := by rw [eR1]; exact putL_take R hmR rs 2
  have X1 : Hid (vis R1 = vis R) := by show _ = _; rw [eR1]; exact vis_putL2 _ _ _ _ (by decide)
  clear eR1
  go_wp2_with fail
  refine T6.mono ?_
  rintro e w13 ⟨rfl, hH5⟩
  clear T6 T5 hH4
  have T7 := hH5.text hO1.out
  rw [V1.out, ← EW.out] at T7
  go_wp2_with fail
  refine T7.mono ?_
  rintro e w14 ⟨rfl, hH6⟩
  clear T7 hH5
  have T8 := hH6.total
  have hli : (R1.length : Int) = (R.length : Int) + 1 + K := by omega
  rw [hli] at T8
  go_wp2_with fail
  refine T8.mono ?_
  rintro e w15 ⟨rfl, hH7⟩
  clear T8 hH6
  go_wp2_with fail
  refine (HRN _).mono ?_
  rintro e w16 ⟨rfl, rfl⟩
  have qx : (((R.length : Int) + 1 + K) != ((R.length : Int) + 1 + K)) = false := by simp
  have T9 := hH7.insert hqq m (by omega) HTS.out hrn 0 (by decide) (by decide) (by omega) HBAR.out
  obtain ⟨R2, eR2⟩ : ∃ x, x = putL R1 m rs 0 := ⟨_, rfl⟩
  rw [← eR2] at T9
  have hO2 : Hid (∀ c ∈ R2, okR c.1) := by rw [eR2]; exact putL_ok hO1.out HTS.out.ok
  have hl2 : R2.length = R1.length + rs.length := by rw [eR2]; exact putL_len _ _ _ _
  have hv2 : vis R2 = vis R + rs.length := by rw [eR2, vis_putL, X1.out]
  have V2 : Hid (visR R2 = visR (R.take m) ++ rs ++ visR (R.drop m)) := by
    show _ = _
    rw [eR2, visR_putL, if_pos (by decide), W1.out.1, W1.out.2, visR_append, visR_one, if_neg (by decide)]
    rfl
  obtain ⟨f2, ef2⟩ : ∃ x, x = strOf (visR R2) := ⟨_, rfl⟩
  have s2 : hd ++ s ++ tl = f2 := by rw [EH.out, ET.out, tx_eq HTS.out.bytes, ef2, V2.out, strOf_append, strOf_append]
  have z4 : (hd ++ s).size = hd.size + s.size := ByteArray.size_append
  clear eR2
  go_wp2_with fail
  refine T9.mono ?_
  rintro e w17 ⟨rfl, hH8⟩
  clear T9 hH7
  have T10 := hH8.text hO2.out
  rw [← ef2] at T10
  have F2 : Hid (f2 = strOf (visR R2)) := ef2
  clear ef2
  go_wp2_with fail
  refine T10.mono ?_
  rintro e w18 ⟨rfl, hH9⟩
  clear T10 hH8
  have hb18 := hH9.below
  have T11 := HSH.out _ hb18
  go_wp2_with fail
  refine T11.mono ?_
  rintro e w19 ⟨rfl, rfl⟩
  clear T11
  go_wp2_with fail
  refine (HRN _).mono ?_
  rintro e w20 ⟨rfl, rfl⟩
  have hall : ((vis R2 : Nat) : Int) = (vis R : Int) + 1 + K := by omega
  have hp0 := Int.emod_nonneg P (show ((vis R : Int) + 1 + K + 1) ≠ 0 by omega)
  have hp1 := Int.emod_lt_of_pos P (show (0 : Int) < (vis R : Int) + 1 + K + 1 by omega)
  obtain ⟨k2, hk2⟩ : ∃ k2 : Nat, P % ((vis R : Int) + 1 + K + 1) = (k2 : Int) := ⟨(P % ((vis R : Int) + 1 + K + 1)).toNat, by omega⟩
  have HRP := rest_any P ((vis R : Int) + 1 + K + 1) (by omega) (by omega)
  rw [hk2] at HRP hp1
  clear hk2 hp0
  have hkk : k2 ≤ vis R2 := by omega
  go_wp2_with fail
  refine (HRP _).mono ?_
  rintro e w21 ⟨rfl, rfl⟩
  have T12 := hH9.totalOf k2 hkk
  have hcle := place_le R2 k2
  have PV : Hid (visR (R2.take (place R2 k2)) = (visR R2).take k2) := visR_place R2 k2 hH9.nonneg
  have PL : Hid (place (putL R2 (place R2 k2) [120] 0) (k2 + 1) = place R2 k2 + 1) := place_putL R2 k2 hkk 120
  obtain ⟨c, ec⟩ : ∃ c, c = place R2 k2 := ⟨_, rfl⟩
  rw [← ec] at T12 hcle PV PL
  have EC : Hid (c = place R2 k2) := ec
  have N2 : Hid (Nonneg R2) := hH9.nonneg
  clear ec
  go_wp2_with fail
  refine T12.mono ?_
  rintro e w22 ⟨rfl, hH10⟩
  clear T12 hH9
  obtain ⟨lf, elf⟩ : ∃ x, x = strOf ((visR R2).take k2) := ⟨_, rfl⟩
  obtain ⟨rg, erg⟩ : ∃ x, x = strOf ((visR R2).drop k2) := ⟨_, rfl⟩
  have T13 := hH10.slice hO2.out 0 k2 (Nat.zero_le _) hkk
  rw [List.drop_zero, ← elf] at T13
  have okV : ∀ r ∈ visR R2, okR r := fun r hr => by obtain ⟨x, hx, rfl⟩ := visR_sub _ r hr; exact hO2.out x hx
  have hVL := visR_len R2
  have z5 : lf.size ≤ 8192 := by
    have h1 := strOf_size (rs := (visR R2).take k2) (fun r hr => okV r (List.mem_of_mem_take hr))
    rw [List.length_take] at h1
    rw [elf]; omega
  have z6 : rg.size ≤ 8192 := by
    have h1 := strOf_size (rs := (visR R2).drop k2) (fun r hr => okV r (List.mem_of_mem_drop hr))
    rw [List.length_drop] at h1
    rw [erg]; omega
  have EL : Hid (lf = strOf ((visR R2).take k2)) := elf
  have ER : Hid (rg = strOf ((visR R2).drop k2)) := erg
  have VV2 : Hid ((visR R2).length = vis R2) := visR_vis N2.out
  clear elf erg okV hVL
  go_wp2_with fail
  refine T13.mono ?_
  rintro e w23 ⟨rfl, hH11⟩
  clear T13 hH10
  have T14 := hH11.slice hO2.out k2 (vis R2) hkk (Nat.le_refl _)
  rw [List.take_of_length_le (by rw [VV2.out]; exact Nat.le_refl _), ← ER.out, hall] at T14
  go_wp2_with fail
  refine T14.mono ?_
  rintro e w24 ⟨rfl, hH12⟩
  clear T14 hH11
  have T15 := hH12.insert hqq c hcle isText_x (by simp) 0 (by decide) (by decide) (by simp; omega) HBAR.out
  obtain ⟨R3, eR3⟩ : ∃ x, x = putL R2 c [120] 0 := ⟨_, rfl⟩
  rw [← eR3] at T15 PL
  have hO3 : Hid (∀ x ∈ R3, okR x.1) := by rw [eR3]; exact putL_ok hO2.out isText_x.ok
  have hv3 : vis R3 = vis R2 + 1 := by rw [eR3, vis_putL]; rfl
  have V3 : Hid (visR R3 = (visR R2).take k2 ++ [120] ++ (visR R2).drop k2) := by
    show _ = _
    have hdr := (visR_split N2.out c).2
    rw [EC.out, place_vis R2 k2 hkk, ← EC.out] at hdr
    rw [eR3, visR_putL, if_pos (by decide), PV.out, hdr]
  have G3 : Hid (R3[c]? = some (120, 0)) := by rw [eR3]; exact putL_get R2 hcle 120 0
  obtain ⟨f3, ef3⟩ : ∃ x, x = strOf (visR R3) := ⟨_, rfl⟩
  have s3 : lf ++ ⟨#[120]⟩ ++ rg = f3 := by rw [EL.out, ER.out, tx_eq isText_x.bytes, ef3, V3.out, strOf_append, strOf_append]
  have z7 : (lf ++ (⟨#[120]⟩ : ByteArray)).size = lf.size + 1 := ByteArray.size_append
  clear eR3
  go_wp2_with fail
  refine T15.mono ?_
  rintro e w25 ⟨rfl, hH13⟩
  clear T15 hH12
  have T16 := hH13.text hO3.out
  rw [← ef3] at T16
  clear ef3
  go_wp2_with fail
  refine T16.mono ?_
  rintro e w26 ⟨rfl, hH14⟩
  clear T16 hH13
  have T17 := hH14.cell c 120 0 G3.out
  go_wp2_with fail
  refine T17.mono ?_
  rintro e w27 ⟨rfl, hH15⟩
  clear T17 hH14
  have hH16 := hH15.still (W' := w27.alloc (.cells #[.int .i32 120, .int .i64 0] 36)) ((Below.refl _ _).alloc (Nat.le_refl _) _)
  have T18 := hH16.totalOf (k2 + 1) (by omega)
  rw [PL.out, show ((k2 + 1 : Nat) : Int) = (k2 : Int) + 1 by omega, show ((c + 1 : Nat) : Int) = (c : Int) + 1 by omega] at T18
  go_wp2_with fail
  refine T18.mono ?_
  rintro e w28 ⟨rfl, hH17⟩
  have hfin : Below w.heap.size w w28 := hB2.trans (hH17.below.mono hB2.size)
  have hc3 : (c : Int) ≤ 1048576 := by omega
  have qy : (((c : Int) + 1) == ((c : Int) + 1)) = true := by simp
  clear T18 hH15 hH16 hH17
  go_wp2_with fail
  go_ret
  exact ⟨rfl, hfin⟩
end Go.Proofs.YtcflpiaclnebeaaDoor
