import Derived.Test.YtffkncohliollaaGreatDoorRyB
import Derived.Test.YtffkncohliollaaGreatDoorRrKN
/-! RopeAdds. -/
namespace Go.Proofs.YtffkncohliollaaGreatDoor
open Go.RowKit Go.Lib
set_option maxRecDepth 100000

set_option maxHeartbeats 16000000 in
theorem ropeAdds_any {w : World} {a : Option Addr} {n cap : Nat} {l : List (Int × Int)} (h : Rw pieceV 2 w a n cap l) {bx : Option Addr} {mx cx : Nat} {X : List (Int × Int)} (hX : Rw pieceV 2 w bx mx cx X) {by_ : Option Addr} {my cy : Nat} {Y : List (Int × Int)} (hY : Rw pieceV 2 w by_ my cy Y) (hBar : Bar w) :
    Calls Tryz.prog 3 #[.slice a n cap, .slice bx mx cx, .slice by_ my cy] w fun e w' => e = .returned (.bool true) ∧ Below w.heap.size w w' := by
  go_enter Tryz.func3, Tryz.ntmps3
  go_wp2_with fail
  refine (runs_any h).mono ?_
  rintro e w1 ⟨v1, L, rfl, ho1, hL, hb1⟩
  have hF := hL.from_
  have hcl := hL.cells_le
  have hlf := hL.few
  obtain ⟨a1, c1, rfl⟩ := ho1.shape
  have HC := cells_any (ho1.rw_ layR) hF.text hF.few
  go_wp2_with fail
  refine HC.mono ?_
  rintro e w2 ⟨v2, rfl, ho2, hb2⟩
  obtain ⟨a2, c2, rfl⟩ := ho2.shape
  have hR2 := ho2.rw_ layC
  have hB2 : Below w.heap.size w w2 := hb1.trans (hb2.mono hb1.size)
  have HBAR : Hid (Bar w) := hBar
  have hO := cellsOf_ok hF.text
  have hnn : (cellsOf L).length ≤ 1152 := by omega
  have HCN : Hid (Cnt 2 (cellsOf L)) := fun c hc => by
    obtain ⟨x, hx, hc⟩ := List.mem_flatMap.1 hc
    obtain ⟨r, _, rfl⟩ := List.mem_map.1 hc
    exact ⟨(hL.each x hx).lo, (hL.each x hx).hi⟩
  have HFM : Hid (FromOk L) := hF
  have HRP : Hid (∀ W W' q t ts, RopeAt W' q t → Built ts t → Parts L ts → Below W.heap.size W W' → Holds W q (cellsOf L) W') := fun W W' q t ts k1 k2 k3 hb => by
    obtain ⟨e1, e2⟩ := from_rp hF k2 k3
    exact ⟨t, k1, e2, e1, hb⟩
  have HLR : Hid (Rw runV 2 w2 a1 L.length c1 L) := (ho1.rw_ layR).below hb2
  have HO : Hid (∀ c ∈ cellsOf L, okR c.1) := hO
  have HROW : Hid (Rw cellV 2 w2 a2 (cellsOf L).length c2 (cellsOf L)) := hR2
  have HXW : Hid (Rw pieceV 2 w bx mx cx X) := hX
  have HYW : Hid (Rw pieceV 2 w by_ my cy Y) := hY
  clear hL hF hcl hlf ho1 HC ho2 hR2 hBar h hO hX hY
  generalize hRR : cellsOf L = R at *
  clear hRR hb1 hb2
  have HP := parts_any (HXW.out.below hB2) R.length (by omega)
  go_wp2_with fail
  refine HP.mono ?_
  rintro e w3 ⟨v3, P1, rfl, ho3, hl3, hn3, hb3⟩
  obtain ⟨a3, c3, rfl⟩ := ho3.shape
  have hB3 : Below w2.heap.size w2 w3 := hb3
  have HM := make_of (ho3.rw_ layP) hl3 hn3 (by omega)
  clear HP ho3 hl3
  go_wp2_with fail
  refine HM.mono ?_
  rintro e w4 ⟨aA, cA, UA, rfl, hA4, hOA, hb4⟩
  have hB4 := hB3.trans (hb4.mono hB3.size)
  clear HM hb3 hB3 hb4
  have HP := parts_any (HYW.out.below (hB2.trans (hB4.mono hB2.size))) R.length (by omega)
  go_wp2_with fail
  refine HP.mono ?_
  rintro e w5 ⟨v5, P2, rfl, ho5, hl5, hn5, hb5⟩
  obtain ⟨a5, c5, rfl⟩ := ho5.shape
  have hB5 := hB4.trans (hb5.mono hB4.size)
  have hA5 := hA4.below hb5
  have HM := make_of (ho5.rw_ layP) hl5 hn5 (by omega)
  clear HP ho5 hl5 hA4 hb5 hB4
  go_wp2_with fail
  refine HM.mono ?_
  rintro e w6 ⟨aB, cB, UB, rfl, hB6, hOB, hb6⟩
  have hB6' := hB5.trans (hb6.mono hB5.size)
  have hA6 := hA5.below hb6
  clear HM hA5 hB5 hb6
  have HU := union_of hA6 hB6 hOA hOB (by omega)
  go_wp2_with fail
  refine HU.mono ?_
  rintro e w7 ⟨aU, cU, UU, rfl, hU7, hOU, hIU, hb7⟩
  have hB7' := hB6'.trans (hb7.mono hB6'.size)
  have hA7 := hA6.below hb7
  have hB7 := hB6.below hb7
  clear HU hA6 hB6 hB6' hb7
  have HME := meet_of hA7 hB7 hOA hOB (by omega)
  go_wp2_with fail
  refine HME.mono ?_
  rintro e w8 ⟨aM, cM, UM, rfl, hM8, hOM, hIM, hb8⟩
  have hB8 := hB7'.trans (hb8.mono hB7'.size)
  have hA8 := hA7.below hb8
  have hB8b := hB7.below hb8
  have hU8 := hU7.below hb8
  have HTWO : Hid (bmp UB 1 0 (bmp UA 1 0 R) = bmp UM 1 0 (bmp UU 1 0 R)) := bmp_two hIU hIM
  have HLS : Hid (Rw pieceV 2 w8 aA UA.length cA UA ∧ Rw pieceV 2 w8 aB UB.length cB UB ∧ Rw pieceV 2 w8 aU UU.length cU UU ∧ Rw pieceV 2 w8 aM UM.length cM UM) := ⟨hA8, hB8b, hU8, hM8⟩
  have HOF : Hid (Of R.length UA ∧ Of R.length UB ∧ Of R.length UU ∧ Of R.length UM) := ⟨hOA, hOB, hOU, hOM⟩
  have HBW : Hid (Below w.heap.size w w8) := hB2.trans (hB8.mono hB2.size)
  clear HME hA7 hB7 hU7 hB7' hb8 hA8 hB8b hU8 hM8 hIU hIM hOA hOB hOU hOM
  have HF1 := from_any (HLR.out.below hB8) HFM.out (HBAR.out.below HBW.out)
  have HROW8 : Hid (Rw cellV 2 w8 a2 R.length c2 R) := HROW.out.below hB8
  have HLR8 : Hid (Rw runV 2 w8 a1 L.length c1 L) := HLR.out.below hB8
  clear hB8 HROW HLR hB2
  go_wp2_with fail
  refine HF1.mono ?_
  rintro e w9 ⟨q1, t1, ts1, rfl, k1, k2, k3, hb9, hq9⟩
  have hH9 := HRP.out w8 w9 q1 t1 ts1 k1 k2 k3 hb9
  have hq1 : q1 < w9.heap.size := by obtain ⟨g, hb, _⟩ := k1; exact (Array.getElem?_eq_some_iff.1 hb).1
  clear HF1 k1 k2 k3
  have HF2 := from_any (HLR8.out.below hb9) HFM.out (HBAR.out.below (HBW.out.trans (hb9.mono HBW.out.size)))
  unfold ptr
  go_wp2_with fail
  refine HF2.mono ?_
  rintro e w10 ⟨q2, t2, ts2, rfl, k1, k2, k3, hb10, hq10⟩
  have hS10 := HRP.out w8 w10 q2 t2 ts2 k1 k2 k3 (hb9.trans (hb10.mono hb9.size))
  have hH10 := hH9.still hb10
  have hsz9 := hb9.size
  have HQ : Hid (w8.heap.size ≤ q1 ∧ w8.heap.size ≤ q2 ∧ q1 ≠ q2) := ⟨hq9, by omega, by omega⟩
  clear HF2 k1 k2 k3 hH9 hb9 hb10 hq9 hq10 hq1 hsz9 HRP
  unfold ptr
  have HB1 := ownBumped (HROW8.out.below hH10.below) (HLS.out.1.below hH10.below) HOF.out.1 (by omega) rfl HCN.out (by omega)
  go_wp2_with fail
  refine HB1.mono ?_
  rintro e w11 ⟨ar, cr, rfl, hr11, hb11⟩
  have hH11 := hH10.still hb11
  have hS11 := hS10.still hb11
  clear HB1 hH10 hS10 hb11
  have HBL : Hid ((bmp UA 1 0 R).length = R.length) := bmp_len R 0
  have HB2' := ownBumped hr11 (HLS.out.2.1.below hH11.below) HOF.out.2.1 (by omega) HBL.out (cntUp HCN.out UA) (by omega)
  go_wp2_with fail
  refine HB2'.mono ?_
  rintro e w12 ⟨ar2, cr2, rfl, hr12, hb12⟩
  have hH12 := hH11.still hb12
  have hS12 := hS11.still hb12
  clear HB2' hH11 hS11 hb12 hr11
  have T1 := hH12.one HQ.out.1 (HLS.out.1.below hH12.below) HOF.out.1 (by omega) rfl HCN.out (by omega)
  go_wp2_with fail
  refine T1.mono ?_
  rintro e w13 ⟨rfl, hH13, hu13⟩
  have hS13 := hS12.other hH12 HQ.out.2.2.symm HQ.out.1 hu13
  have hr13 := hr12.past hH12 hu13
  clear T1 hH12 hS12 hr12 hu13
  have T2 := hH13.one HQ.out.1 (HLS.out.2.1.below hH13.below) HOF.out.2.1 (by omega) HBL.out (cntUp HCN.out UA) (by omega)
  go_wp2_with fail
  refine T2.mono ?_
  rintro e w14 ⟨rfl, hH14, hu14⟩
  have hS14 := hS13.other hH13 HQ.out.2.2.symm HQ.out.1 hu14
  have hr14 := hr13.past hH13 hu14
  clear T2 hH13 hS13 hr13 hu14
  have T3 := hS14.one HQ.out.2.1 (HLS.out.2.2.1.below hS14.below) HOF.out.2.2.1 (by omega) rfl HCN.out (by omega)
  go_wp2_with fail
  refine T3.mono ?_
  rintro e w15 ⟨rfl, hS15, hu15⟩
  have hH15 := hH14.other hS14 HQ.out.2.2 HQ.out.2.1 hu15
  have hr15 := hr14.past hS14 hu15
  clear T3 hH14 hS14 hr14 hu15
  have T4 := hS15.one HQ.out.2.1 (HLS.out.2.2.2.below hS15.below) HOF.out.2.2.2 (by omega) (bmp_len R 0) (cntUp HCN.out UU) (by omega)
  go_wp2_with fail
  refine T4.mono ?_
  rintro e w16 ⟨rfl, hS16, hu16⟩
  have hH16 := hH15.other hS15 HQ.out.2.2 HQ.out.2.1 hu16
  have hr16 := hr15.past hS15 hu16
  rw [← HTWO.out] at hS16
  have HOZ : Hid (∀ c ∈ bmp UB 1 0 (bmp UA 1 0 R), okR c.1) := okUp1 (okUp1 HO.out UA) UB
  have HLZ : Hid ((bmp UB 1 0 (bmp UA 1 0 R)).length = R.length) := by show _ = _; rw [bmp_len, bmp_len]
  clear T4 hH15 hS15 hr15 hu16 HTWO HBL
  generalize bmp UB 1 0 (bmp UA 1 0 R) = Z at *
  have I1 := is_any hH16.self hr16 HOZ.out (by have := HLZ.out; omega)
  go_wp2_with fail
  refine I1.mono ?_
  rintro e w17 ⟨rfl, hb17⟩
  have hH17 := hH16.still hb17
  have hS17 := hS16.still hb17
  clear I1 hH16 hS16 hr16 hb17
  have T5 := hH17.runsR HOZ.out
  go_wp2_with fail
  refine T5.mono ?_
  rintro e w18 ⟨a18, c18, rfl, hr18, hH18, hb18⟩
  have hS18 := hS17.still hb18
  clear T5 hH17 hS17 hb18
  have T6 := hS18.runsR HOZ.out
  go_wp2_with fail
  refine T6.mono ?_
  rintro e w19 ⟨a19, c19, rfl, hr19, hS19, hb19⟩
  have hH19 := hH18.still hb19
  have T7 := eqRuns_any (hr18.below hb19) hr19 (by have := HLZ.out; have := rowRuns_len Z; omega)
  clear T6 hH18 hS18 hr18 hr19 hb19
  go_wp2_with fail
  refine T7.mono ?_
  rintro e w20 ⟨rfl, hb20⟩
  have hH20 := hH19.still hb20
  have hS20 := hS19.still hb20
  clear T7 hH19 hS19 hb20
  obtain ⟨wh, ewh⟩ : ∃ x, x = strOf (visR Z) := ⟨_, rfl⟩
  have HEW : Hid (wh = strOf (visR Z)) := ewh
  clear ewh
  have T8 := hH20.self.text HOZ.out
  rw [← HEW.out] at T8
  go_wp2_with fail
  refine T8.mono ?_
  rintro e w21 ⟨rfl, h21⟩
  have hS21 := hS20.still h21.below
  clear T8 hH20 hS20 h21
  have T9 := hS21.text HOZ.out
  rw [← HEW.out] at T9
  go_wp2_with fail
  refine T9.mono ?_
  rintro e w22 ⟨rfl, hS22⟩
  clear T9 hS21 HEW
  go_wp2_with fail
  go_ret
  exact ⟨rfl, HBW.out.trans (hS22.below.mono HBW.out.size)⟩
end Go.Proofs.YtffkncohliollaaGreatDoor
