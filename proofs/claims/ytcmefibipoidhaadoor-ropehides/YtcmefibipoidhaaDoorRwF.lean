import Derived.Test.YtcmefibipoidhaaDoorRwBE
import Derived.Test.YtcmefibipoidhaaDoorRtK
import Derived.Test.YtcmefibipoidhaaDoorRuDF
import Derived.Test.YtcmefibipoidhaaDoorRrKN
/-! RopeHides. -/
namespace Go.Proofs.YtcmefibipoidhaaDoor
open Go.RowKit Go.Lib
set_option maxRecDepth 100000

theorem VisL.okUp {R : List (Int × Int)} {lo hi : Nat} {l : List (Int × Int)} (_ : VisL R lo hi l) {M : Int} (hc : Cnt M R) (hM : M ≤ 1000) : ∀ c ∈ bmp l 1 0 R, 0 ≤ c.2 ∧ c.2 ≤ 1048576 := fun c hcm => by
  obtain ⟨x, hx, e⟩ := bmp_mem hcm
  have := hc x hx
  rcases e with rfl | rfl
  · omega
  · simp only; omega
theorem VisL.nonneg {R : List (Int × Int)} {lo hi : Nat} {l : List (Int × Int)} (h : VisL R lo hi l) {M : Int} (hc : Cnt M R) (hM : M ≤ 1000) : Nonneg (bmp l 1 0 R) := fun c hcm => (h.okUp hc hM c hcm).1
theorem VisL.okDown {R : List (Int × Int)} {l : List (Int × Int)} {M : Int} (hc : Cnt M R) (hM : M ≤ 1000) : ∀ c ∈ bmp l (-1) 0 (bmp l 1 0 R), 0 ≤ c.2 ∧ c.2 ≤ 1048576 := fun c hcm => by
  rw [bmp_back] at hcm
  have := hc c hcm
  omega
theorem VisL.runes {R : List (Int × Int)} {l : List (Int × Int)} (ho : ∀ c ∈ R, okR c.1) : ∀ c ∈ bmp l 1 0 R, okR c.1 := fun c hcm => by
  obtain ⟨x, hx, e⟩ := bmp_mem hcm
  rcases e with rfl | rfl
  · exact ho _ hx
  · exact ho x hx
theorem VisL.shown {R : List (Int × Int)} {lo hi : Nat} {l : List (Int × Int)} (h : VisL R lo hi l) {M : Int} (hc : Cnt M R) (hM : M ≤ 1000) (hN : Nonneg R) (h1 : lo ≤ hi) (h2 : hi ≤ vis R) : vis (bmp l 1 0 R) + (hi - lo) = vis R := by
  rw [← visR_vis (h.nonneg hc hM), h.hides, List.length_append, List.length_take, List.length_drop, visR_vis hN]
  omega
/-- Bump up by such a list, and the list stands. -/
theorem Holds.up {w2 : World} {q : Nat} {R : List (Int × Int)} {W : World} (h : Holds w2 q R W) (hq : w2.heap.size ≤ q) {a : Option Addr} {cap lo hi : Nat} {l : List (Int × Int)} (hl : Rw pieceV 2 W a l.length cap l) (hv : VisL R lo hi l) (hlen : R.length ≤ 31000) {M : Int} (hc : Cnt M R) (hM : M ≤ 1000) :
    Calls Tryd.prog 21 #[.pointer (some ⟨q, 0, none⟩), .slice a l.length cap, .int .i64 1] W fun e W' => e = .returned (.int .i64 0) ∧ Holds w2 q (bmp l 1 0 R) W' ∧ Rw pieceV 2 W' a l.length cap l := by
  have hf := hv.few
  refine (h.bumpU hq hl (by omega) hv.srt hv.within 1 (.inl rfl) (hv.okUp hc hM)).mono fun e W' ⟨he, h1, h2⟩ => ?_
  obtain ⟨t, k1, _⟩ := h
  exact ⟨he, h1, Rw.upd num_piece hl k1 h2⟩
theorem Holds.down {w2 : World} {q : Nat} {R : List (Int × Int)} {W : World} {a : Option Addr} {cap lo hi : Nat} {l : List (Int × Int)} (h : Holds w2 q (bmp l 1 0 R) W) (hq : w2.heap.size ≤ q) (hl : Rw pieceV 2 W a l.length cap l) (hv : VisL R lo hi l) (hlen : R.length ≤ 31000) {M : Int} (hc : Cnt M R) (hM : M ≤ 1000) :
    Calls Tryd.prog 21 #[.pointer (some ⟨q, 0, none⟩), .slice a l.length cap, .int .i64 (-1)] W fun e W' => e = .returned (.int .i64 0) ∧ Holds w2 q R W' := by
  have hf := hv.few
  have hb := h.bumpU hq hl (by omega) hv.srt (fun x hx => by rw [bmp_len]; exact hv.within x hx) (-1) (.inr rfl) (VisL.okDown hc hM)
  rw [bmp_back] at hb
  exact hb.mono fun e W' ⟨he, h1, _⟩ => ⟨he, h1⟩
set_option maxHeartbeats 16000000 in
theorem ropeHides_any {w : World} {a : Option Addr} {n cap : Nat} {l : List (Int × Int)} (h : Rw pieceV 2 w a n cap l) (hBar : Bar w) (A B : Int) :
    Calls Tryd.prog 4 #[.slice a n cap, .int .i64 A, .int .i64 B] w fun e w' => e = .returned (.bool true) ∧ Below w.heap.size w w' := by
  go_enter Tryd.func4, Tryd.ntmps4
  go_wp2_with fail
  refine (runs_any h).mono ?_
  rintro e w1 ⟨v1, L, rfl, ho1, hL, hb1⟩
  have hF := hL.from_
  have hcl := hL.cells_le
  have hlf := hL.few
  obtain ⟨a1, c1, rfl⟩ := ho1.shape
  have HC := cells_any (ho1.rw_ layR) hF.text hF.few
  go_wp2_with fail
  refine HC.mono ?_
  rintro e w2 ⟨v2, rfl, ho2, hb2⟩
  obtain ⟨a2, c2, rfl⟩ := ho2.shape
  have hR2 := ho2.rw_ layC
  have hB2 : Below w.heap.size w w2 := hb1.trans (hb2.mono hb1.size)
  have hBar2 := hBar.below hB2
  have HFR := from_any ((ho1.rw_ layR).below hb2) hF hBar2
  have hO := cellsOf_ok hF.text
  have hnn : (cellsOf L).length ≤ 1152 := by omega
  have hNN : Nonneg (cellsOf L) := cellsOf_nonneg hF.lo
  have hCN : Cnt 2 (cellsOf L) := fun c hc => by
    obtain ⟨x, hx, hc⟩ := List.mem_flatMap.1 hc
    obtain ⟨r, _, rfl⟩ := List.mem_map.1 hc
    exact ⟨(hL.each x hx).lo, (hL.each x hx).hi⟩
  have HLA : Hid (∀ W q, (∃ t ts, RopeAt W q t ∧ Built ts t ∧ Parts L ts) → Below w2.heap.size w2 W → Holds w2 q (cellsOf L) W) := fun W q ⟨t, ts, k1, k2, k3⟩ hb => by
    obtain ⟨e1, e2⟩ := from_rp hF k2 k3
    exact ⟨t, k1, e2, e1, hb⟩
  have HLR : Hid (Rw runV 2 w2 a1 L.length c1 L) := (ho1.rw_ layR).below hb2
  have HSM : Hid (rowRuns (cellsOf L) = L) := rowRuns_same hF
  have HSH : Calls Tryd.prog 15 #[.slice a2 (cellsOf L).length c2, .int .i64 ((cellsOf L).length : Int)] w2 fun e w' => e = .returned (.int .i64 (vis (cellsOf L) : Int)) ∧ w' = w2 := by
    have := shown_any hR2 (cellsOf L).length (Nat.le_refl _) hF.few
    rw [List.take_length] at this
    exact this
  have HRW : Hid (Rw cellV 2 w2 a2 (cellsOf L).length c2 (cellsOf L)) := hR2
  have HO : Hid (∀ c ∈ cellsOf L, okR c.1) := hO
  have HNN : Hid (Nonneg (cellsOf L)) := hNN
  have HCN : Hid (Cnt 2 (cellsOf L)) := hCN
  have HB2 : Hid (Below w.heap.size w w2) := hB2
  have hroom := hR2.room
  have hlL : L.length ≤ 24 := hlf
  clear hL hF hcl hlf ho1 HC ho2 hR2 hBar h hO hNN hBar2 hCN hB2 hb1 hb2
  generalize hRR : cellsOf L = R at *
  clear hRR
  have hvl := vis_le R
  obtain ⟨V, hV⟩ : ∃ V, vis R = V := ⟨_, rfl⟩
  have HV : Hid (vis R = V) := hV
  rw [hV] at hvl HSH
  clear hV
  have hm0 := Int.emod_nonneg A (show ((V : Int) + 1) ≠ 0 by omega)
  have hm1 := Int.emod_lt_of_pos A (show (0 : Int) < (V : Int) + 1 by omega)
  obtain ⟨lo, hlo⟩ : ∃ m : Nat, A % ((V : Int) + 1) = (m : Int) := ⟨(A % ((V : Int) + 1)).toNat, by omega⟩
  have HRA := rest_any A ((V : Int) + 1) (by omega) (by omega) w2
  rw [hlo] at HRA hm1 hm0
  have hloV : lo ≤ V := by omega
  have hn0 := Int.emod_nonneg B (show ((V : Int) - (lo : Int) + 1) ≠ 0 by omega)
  have hn1 := Int.emod_lt_of_pos B (show (0 : Int) < (V : Int) - (lo : Int) + 1 by omega)
  obtain ⟨d, hd⟩ : ∃ m : Nat, B % ((V : Int) - (lo : Int) + 1) = (m : Int) := ⟨(B % ((V : Int) - (lo : Int) + 1)).toNat, by omega⟩
  have HRB := rest_any B ((V : Int) - (lo : Int) + 1) (by omega) (by omega) w2
  rw [hd] at HRB hn1 hn0
  have hhi : lo + d ≤ V := by omega
  clear hm0 hm1 hn0 hn1 hlo hd
  go_wp2_with fail
  refine HSH.mono ?_
  rintro e w3 ⟨rfl, rfl⟩
  go_wp2_with fail
  refine HRA.mono ?_
  rintro e w3 ⟨rfl, rfl⟩
  go_wp2_with fail
  refine HRB.mono ?_
  rintro e w3 ⟨rfl, rfl⟩
  clear HSH HRA HRB
  have u3 : IntKind.i64.wrap ((lo : Int) + (d : Int)) = (lo : Int) + (d : Int) := IntWalk.i64_in _ (by omega)
  go_wp2_with fail
  obtain ⟨hi, hhid⟩ : ∃ hi : Nat, hi = lo + d := ⟨_, rfl⟩
  have ehi : (lo : Int) + (d : Int) = (hi : Int) := by omega
  have hlh : lo ≤ hi := by omega
  have hhV : hi ≤ V := by omega
  rw [ehi]
  clear u3
  clear hhi hhid ehi
  refine HFR.mono ?_
  rintro e w6 ⟨q, t, ts, rfl, hRp, hBt, hPt, hb6, hq6⟩
  have hH0 := HLA.out _ q ⟨t, ts, hRp, hBt, hPt⟩ hb6
  clear HLA HFR hRp hBt hPt hb6
  unfold ptr
  obtain ⟨hd, ehd⟩ : ∃ x, x = strOf ((visR R).take lo) := ⟨_, rfl⟩
  obtain ⟨tl, etl⟩ : ∃ x, x = strOf ((visR R).drop hi) := ⟨_, rfl⟩
  obtain ⟨wh, ewh⟩ : ∃ x, x = strOf (visR R) := ⟨_, rfl⟩
  have HEQ : Hid (hd = strOf ((visR R).take lo) ∧ tl = strOf ((visR R).drop hi) ∧ wh = strOf (visR R)) := ⟨ehd, etl, ewh⟩
  clear ehd etl ewh
  have T1 := hH0.slice HO.out 0 lo (Nat.zero_le _) (by rw [HV.out]; exact hloV)
  rw [List.drop_zero, ← HEQ.out.1] at T1
  go_wp2_with fail
  refine T1.mono ?_
  rintro e w7 ⟨rfl, hH1⟩
  clear T1 hH0
  have T2 := hH1.slice HO.out hi V hhV (by rw [HV.out]; exact Nat.le_refl _)
  rw [List.take_of_length_le (by rw [visR_vis HNN.out, HV.out]; exact Nat.le_refl _), ← HEQ.out.2.1] at T2
  go_wp2_with fail
  refine T2.mono ?_
  rintro e w8 ⟨rfl, hH2⟩
  clear T2 hH1
  have T3 := hH2.visible HO.out (by omega) lo hi hlh (by rw [HV.out]; exact hhV)
  go_wp2_with fail
  refine T3.mono ?_
  rintro e w9 ⟨al, cl, l1, rfl, hl1, hvl1, hH3, _⟩
  clear T3 hH2
  have hfew1 := hvl1.few
  have T4 := spanCheck_ok hl1 hvl1.srt (fun x hx => by have := hvl1.within x hx; omega) (by omega)
  go_wp2_with fail
  refine T4.mono ?_
  rintro e w10 ⟨rfl, hb10⟩
  have hH4 := hH3.still hb10
  have hl2 := hl1.below hb10
  clear T4 hH3 hl1 hb10
  have T5 := count_all hl2 hvl1.srt (fun x hx => by have := hvl1.within x hx; omega) (by omega)
  rw [hvl1.cnt] at T5
  go_wp2_with fail
  refine T5.mono ?_
  rintro e w11 ⟨rfl, hb11⟩
  have hH5 := hH4.still hb11
  have hl3 := hl2.below hb11
  clear T5 hH4 hl2 hb11
  have q1 : (((hi : Int) - (lo : Int)) != ((hi : Int) - (lo : Int))) = false := by simp
  have T6 := hH5.up hq6 hl3 hvl1 (by omega) HCN.out (by omega)
  have HVL1 : Hid (VisL R lo hi l1) := hvl1
  clear hvl1
  go_wp2_with fail
  refine T6.mono ?_
  rintro e w12 ⟨rfl, hH6, hl4⟩
  clear T6 hH5 hl3
  have hz1 : hd.size ≤ 4608 := by
    rw [HEQ.out.1]
    refine Nat.le_trans (strOf_size fun r hr => ?_) (by rw [List.length_take, visR_vis HNN.out, HV.out]; omega)
    obtain ⟨c, hc, rfl⟩ := visR_sub R r (List.mem_of_mem_take hr)
    exact HO.out c hc
  have hz2 : tl.size ≤ 4608 := by
    rw [HEQ.out.2.1]
    refine Nat.le_trans (strOf_size fun r hr => ?_) (by rw [List.length_drop, visR_vis HNN.out, HV.out]; omega)
    obtain ⟨c, hc, rfl⟩ := visR_sub R r (List.mem_of_mem_drop hr)
    exact HO.out c hc
  have T7 := hH6.self.text (VisL.runes HO.out)
  rw [HVL1.out.hides, ← strOf_append, ← HEQ.out.1, ← HEQ.out.2.1] at T7
  go_wp2_with fail
  refine T7.mono ?_
  rintro e w13 ⟨rfl, h7⟩
  have hH7 := hH6.still h7.below
  have hl5 := hl4.below h7.below
  clear T7 h7 hH6 hl4
  have T8 := hH7.self.shown
  rw [show ((vis (bmp l1 1 0 R) : Nat) : Int) = (V : Int) - ((hi : Int) - (lo : Int)) by have := HVL1.out.shown HCN.out (by omega) HNN.out hlh (by rw [HV.out]; exact hhV); rw [HV.out] at this; omega] at T8
  have q2 : (((V : Int) - ((hi : Int) - (lo : Int))) != ((V : Int) - ((hi : Int) - (lo : Int)))) = false := by simp
  go_wp2_with fail
  refine T8.mono ?_
  rintro e w14 ⟨rfl, h8⟩
  have hH8 := hH7.still h8.below
  have hl6 := hl5.below h8.below
  clear T8 h8 hH7 hl5
  have T9 := hH8.self.total
  rw [bmp_len] at T9
  have q3 : ((R.length : Int) != (R.length : Int)) = false := by simp
  go_wp2_with fail
  refine T9.mono ?_
  rintro e w15 ⟨rfl, h9⟩
  have hH9 := hH8.still h9.below
  have hl7 := hl6.below h9.below
  clear T9 h9 hH8 hl6
  have T10 := hH9.down hq6 hl7 HVL1.out (by omega) HCN.out (by omega)
  go_wp2_with fail
  refine T10.mono ?_
  rintro e w16 ⟨rfl, hH10⟩
  clear T10 hH9 hl7
  have T11 := hH10.runsR HO.out
  rw [HSM.out] at T11
  go_wp2_with fail
  refine T11.mono ?_
  rintro e w17 ⟨a17, c17, rfl, hr17, hH11, _⟩
  clear T11 hH10
  have T12 := eqRuns_any hr17 (HLR.out.below hH11.below) (by omega)
  go_wp2_with fail
  refine T12.mono ?_
  rintro e w18 ⟨rfl, hb18⟩
  have hH12 := hH11.still hb18
  clear T12 hH11 hr17 hb18
  have T13 := hH12.visible HO.out (by omega) 0 V (Nat.zero_le _) (by rw [HV.out]; exact Nat.le_refl _)
  go_wp2_with fail
  refine T13.mono ?_
  rintro e w19 ⟨a19, c19, l2, rfl, hm1, hvl2, hH13, _⟩
  clear T13 hH12
  have HVL2 : Hid (VisL R 0 V l2) := hvl2
  have hfew2 := hvl2.few
  have T14 := hH13.up hq6 hm1 hvl2 (by omega) HCN.out (by omega)
  clear hvl2
  go_wp2_with fail
  refine T14.mono ?_
  rintro e w20 ⟨rfl, hH14, hm2⟩
  clear T14 hH13 hm1
  have T15 := hH14.self.text (VisL.runes HO.out)
  rw [HVL2.out.hides, List.take_zero, List.nil_append, List.drop_of_length_le (by rw [visR_vis HNN.out, HV.out]; exact Nat.le_refl _), show strOf [] = ⟨#[]⟩ from rfl] at T15
  go_wp2_with fail
  refine T15.mono ?_
  rintro e w21 ⟨rfl, h21⟩
  have hH15 := hH14.still h21.below
  have hm3 := hm2.below h21.below
  clear T15 h21 hH14 hm2
  have T16 := hH15.self.shown
  rw [show ((vis (bmp l2 1 0 R) : Nat) : Int) = 0 by have := HVL2.out.shown HCN.out (by omega) HNN.out (Nat.zero_le _) (by rw [HV.out]; exact Nat.le_refl _); rw [HV.out] at this; omega] at T16
  go_wp2_with fail
  refine T16.mono ?_
  rintro e w22 ⟨rfl, h22⟩
  have hH16 := hH15.still h22.below
  have hm4 := hm3.below h22.below
  clear T16 h22 hH15 hm3
  have T17 := hH16.down hq6 hm4 HVL2.out (by omega) HCN.out (by omega)
  go_wp2_with fail
  refine T17.mono ?_
  rintro e w23 ⟨rfl, hH17⟩
  clear T17 hH16 hm4
  have T18 := hH17.text HO.out
  rw [← HEQ.out.2.2] at T18
  go_wp2_with fail
  refine T18.mono ?_
  rintro e w24 ⟨rfl, hH18⟩
  clear T18 hH17
  have T19 : Calls Tryd.prog 25 #[.slice a2 R.length c2, .int .i64 0, .int .i64 (R.length : Int)] w24 fun e w' => e = .returned (.string wh) ∧ w' = w24 := (lawText_any (HRW.out.below hH18.below) (by omega) HNN.out HO.out).mono fun e w' ⟨s, he, hs, hw⟩ => ⟨by rw [he, tx_eq hs.bytes, HEQ.out.2.2], hw⟩
  go_wp2_with fail
  refine T19.mono ?_
  rintro e w25 ⟨rfl, rfl⟩
  clear T19
  go_wp2_with fail
  go_ret
  exact ⟨rfl, HB2.out.trans (hH18.below.mono HB2.out.size)⟩
end Go.Proofs.YtcmefibipoidhaaDoor
