import Derived.Test.YtffkncohliollaaGreatDoorRyB
import Derived.Test.YtffkncohliollaaGreatDoorRrKN
import Derived.Test.YtffkncohliollaaGreatDoorSpKX
/-! RopeThrough. -/
namespace Go.Proofs.YtffkncohliollaaGreatDoor
open Go.RowKit Go.Lib
set_option maxRecDepth 100000

theorem bmp_shift {a b : List (Int × Int)} {d : Int} (n : Int) (L : List (Int × Int)) (f : Int) (h : ∀ q, f ≤ q → inL b (q + n) = inL a q) : bmp b d (f + n) L = bmp a d f L := by
  apply List.ext_getElem?
  intro j
  rw [bmp_get, bmp_get]
  rcases L[j]? with _ | c
  · rfl
  · simp only [Option.map_some, Option.some.injEq]
    rw [show f + n + (j : Int) = f + (j : Int) + n by omega, h _ (by omega)]
theorem bmp_cut {a : List (Int × Int)} {d : Int} (R : List (Int × Int)) (k : Nat) (hk : k ≤ R.length) : (bmp a d 0 R).take k = bmp a d 0 (R.take k) ∧ (bmp a d 0 R).drop k = bmp a d (k : Int) (R.drop k) := by
  have e : bmp a d 0 R = bmp a d 0 (R.take k) ++ bmp a d (k : Int) (R.drop k) := by
    conv => lhs; rw [← List.take_append_drop k R]
    rw [bmp_append, List.length_take, Nat.min_eq_left hk, Int.zero_add]
  have hl : (bmp a d 0 (R.take k)).length = k := by rw [bmp_len, List.length_take]; omega
  rw [e]
  exact ⟨List.take_left' hl, List.drop_left' hl⟩
theorem bmp_put {R a b : List (Int × Int)} {k : Nat} {rs : List Int} (hk : k ≤ R.length) (hb : ∀ q, Sp.Lies b q ↔ (Sp.Lies a q ∧ q < (k : Int)) ∨ (Sp.Lies a (q - (rs.length : Int)) ∧ (k : Int) ≤ q - (rs.length : Int))) :
    bmp b 1 0 (putL R k rs 0) = putL (bmp a 1 0 R) k rs 0 := by
  unfold putL
  have hl : (R.take k).length = k := by rw [List.length_take]; omega
  rw [(bmp_cut R k hk).1, (bmp_cut R k hk).2, bmp_append, bmp_append]
  congr 1
  · congr 1
    · refine bmp_congr _ _ fun q h1 h2 => ?_
      rw [Bool.eq_iff_iff, inL_lies, inL_lies, hb]
      constructor
      · rintro (⟨h, _⟩ | ⟨_, h⟩)
        · exact h
        · omega
      · intro h; exact .inl ⟨h, by omega⟩
    · refine bmp_none _ _ fun q h1 h2 => ?_
      rw [List.length_map] at h2
      rw [Bool.eq_false_iff]
      intro h
      rw [inL_lies, hb] at h
      rcases h with ⟨_, h⟩ | ⟨_, h⟩ <;> omega
  · rw [List.length_append, List.length_map, hl, Int.zero_add]
    rw [show (((k + rs.length : Nat)) : Int) = (k : Int) + (rs.length : Int) by omega]
    refine bmp_shift _ _ _ fun q hq => ?_
    rw [Bool.eq_iff_iff, inL_lies, inL_lies, hb]
    constructor
    · rintro (⟨_, h⟩ | ⟨h, _⟩)
      · omega
      · rwa [Int.add_sub_cancel] at h
    · intro h; exact .inr ⟨by rwa [Int.add_sub_cancel], by omega⟩
theorem through_of {w : World} {a : Option Addr} {n cap N : Nat} {l : List (Int × Int)} (h : Rw pieceV 2 w a n cap l) (hl : Of N l) (hN : N ≤ 31000) (k m : Nat) (hk : k ≤ N) (hm : m ≤ 48) :
    Calls Tryz.prog 20 #[.slice a n cap, .int .i64 (k : Int), .int .i64 (m : Int)] w fun e w' => ∃ a' c' U, e = .returned (.tuple #[.slice a' U.length c', .int .i64 0]) ∧ Rw pieceV 2 w' a' U.length c' U ∧ Of (N + m) U ∧ (∀ q, Sp.Lies U q ↔ (Sp.Lies l q ∧ q < (k : Int)) ∨ (Sp.Lies l (q - (m : Int)) ∧ (k : Int) ≤ q - (m : Int))) ∧ Below w.heap.size w w' := by
  refine (Sp.through_ok h.rng (hl.lst hN) (at_ := (k : Int)) (k := (m : Int)) ⟨⟨by omega, by omega⟩, by omega, by omega⟩ ?_).mono fun e w' ⟨hA, hb⟩ => ?_
  · rintro ⟨r, hr, _, h2⟩
    have := hl.top r (List.mem_of_getLast? hr)
    omega
  · obtain ⟨hU, hL⟩ := Sp.throughL_all (hl.lst hN) (at_ := (k : Int)) (n := (m : Int)) ⟨by omega, by omega⟩ ⟨by omega, by omega⟩
    have hO : Of (N + m) (Sp.throughL l (k : Int) (m : Int)) := of_lies hU fun q hq => by
      rcases (hL q).1 hq with ⟨h, _⟩ | ⟨h, _⟩
      · have := (hl.lt h).2; omega
      · have := (hl.lt h).2; omega
    rcases hA with ⟨hbig, _⟩ | ⟨_, a', c', he, ho⟩
    · have := hO.few; omega
    · exact ⟨a', c', _, he, own_rw ho, hO, hL, hb⟩
set_option maxHeartbeats 16000000 in
theorem ropeThrough_any {w : World} {a : Option Addr} {n cap : Nat} {l : List (Int × Int)} (h : Rw pieceV 2 w a n cap l) {bx : Option Addr} {mx cx : Nat} {X : List (Int × Int)} (hX : Rw pieceV 2 w bx mx cx X) (hBar : Bar w) (A M : Int) :
    Calls Tryz.prog 4 #[.slice a n cap, .slice bx mx cx, .int .i64 A, .int .i64 M] w fun e w' => e = .returned (.bool true) ∧ Below w.heap.size w w' := by
  go_enter Tryz.func4, Tryz.ntmps4
  go_wp2_with fail
  refine (runs_any h).mono ?_
  rintro e w1 ⟨v1, L, rfl, ho1, hL, hb1⟩
  have hF := hL.from_
  have hcl := hL.cells_le
  have hlf := hL.few
  obtain ⟨a1, c1, rfl⟩ := ho1.shape
  have HC := cells_any (ho1.rw_ layR) hF.text hF.few
  go_wp2_with fail
  refine HC.mono ?_
  rintro e w2 ⟨v2, rfl, ho2, hb2⟩
  obtain ⟨a2, c2, rfl⟩ := ho2.shape
  have hR2 := ho2.rw_ layC
  have hB2 : Below w.heap.size w w2 := hb1.trans (hb2.mono hb1.size)
  have HBAR : Hid (Bar w) := hBar
  have hO := cellsOf_ok hF.text
  have hnn : (cellsOf L).length ≤ 1152 := by omega
  have HCN : Hid (Cnt 2 (cellsOf L)) := fun c hc => by
    obtain ⟨x, hx, hc⟩ := List.mem_flatMap.1 hc
    obtain ⟨r, _, rfl⟩ := List.mem_map.1 hc
    exact ⟨(hL.each x hx).lo, (hL.each x hx).hi⟩
  have HFM : Hid (FromOk L) := hF
  have HRP : Hid (∀ W W' q t ts, RopeAt W' q t → Built ts t → Parts L ts → Below W.heap.size W W' → Holds W q (cellsOf L) W') := fun W W' q t ts k1 k2 k3 hb => by
    obtain ⟨e1, e2⟩ := from_rp hF k2 k3
    exact ⟨t, k1, e2, e1, hb⟩
  have HLR : Hid (Rw runV 2 w2 a1 L.length c1 L) := (ho1.rw_ layR).below hb2
  have HO : Hid (∀ c ∈ cellsOf L, okR c.1) := hO
  have HROW : Hid (Rw cellV 2 w2 a2 (cellsOf L).length c2 (cellsOf L)) := hR2
  have HXW : Hid (Rw pieceV 2 w bx mx cx X) := hX
  clear hL hF hcl hlf ho1 HC ho2 hR2 hBar h hO hX
  generalize hRR : cellsOf L = R at *
  clear hRR hb1 hb2
  have hm0 := Int.emod_nonneg A (show ((R.length : Int) + 1) ≠ 0 by omega)
  have hm1 := Int.emod_lt_of_pos A (show (0 : Int) < (R.length : Int) + 1 by omega)
  obtain ⟨k, hk⟩ : ∃ m : Nat, A % ((R.length : Int) + 1) = (m : Int) := ⟨(A % ((R.length : Int) + 1)).toNat, by omega⟩
  have HRA := rest_any A ((R.length : Int) + 1) (by omega) (by omega) w2
  rw [hk] at HRA hm1
  have hkR : k ≤ R.length := by omega
  have hk0 := Int.emod_nonneg M (show (48 : Int) ≠ 0 by decide)
  have hk1 := Int.emod_lt_of_pos M (show (0 : Int) < 48 by decide)
  obtain ⟨K, hK⟩ : ∃ m : Nat, M % 48 = (m : Int) := ⟨(M % 48).toNat, by omega⟩
  have HRN := rest_any M 48 (by decide) (by decide)
  rw [hK] at HRN hk1
  have HRN' : Hid (∀ w : World, Calls Tryz.prog 18 #[.int .i64 M, .int .i64 48] w fun e w' => e = .returned (.int .i64 (K : Int)) ∧ w' = w) := HRN
  have HWD := words_any (1 + (K : Int)) M (by omega) (by omega) w2
  have u1 : IntKind.i64.wrap (1 + (K : Int)) = 1 + (K : Int) := IntWalk.i64_in _ (by omega)
  clear hm0 hm1 hk hk0 hK HRN
  go_wp2_with fail
  refine HRA.mono ?_
  rintro e w3 ⟨rfl, rfl⟩
  go_wp2_with fail
  refine (HRN'.out _).mono ?_
  rintro e w3 ⟨rfl, rfl⟩
  go_wp2_with fail
  refine HWD.mono ?_
  rintro e w3 ⟨s, rfl, ⟨rs, hts, hrl⟩, rfl⟩
  clear HRA HWD
  have hrn : rs.length = 1 + K := by omega
  have hne : rs ≠ [] := by rintro rfl; rw [List.length_nil] at hrn; omega
  have HP := parts_any (HXW.out.below hB2) R.length (by omega)
  go_wp2_with fail
  refine HP.mono ?_
  rintro e w4 ⟨v4, P1, rfl, ho4, hl4, hn4, hb4⟩
  obtain ⟨a4, c4, rfl⟩ := ho4.shape
  have HM := make_of (ho4.rw_ layP) hl4 hn4 (by omega)
  clear HP ho4 hl4
  go_wp2_with fail
  refine HM.mono ?_
  rintro e w5 ⟨aA, cA, UA, rfl, hA5, hOA, hb5⟩
  have hB5 : Below w3.heap.size w3 w5 := hb4.trans (hb5.mono hb4.size)
  clear HM hb4 hb5
  have HT := through_of hA5 hOA (by omega) k (1 + K) hkR (by omega)
  rw [show (((1 + K : Nat)) : Int) = 1 + (K : Int) by omega] at HT
  go_wp2_with fail
  refine (HRN'.out _).mono ?_
  rintro e w6 ⟨rfl, rfl⟩
  go_wp2_with fail
  refine HT.mono ?_
  rintro e w8 ⟨aB, cB, UB, rfl, hB8, hOB, hLB, hb8⟩
  have hB8' := hB5.trans (hb8.mono hB5.size)
  have hA8 := hA5.below hb8
  have HTWO : Hid (bmp UB 1 0 (putL R k rs 0) = putL (bmp UA 1 0 R) k rs 0) := bmp_put hkR (by rw [hrn, show (((1 + K : Nat)) : Int) = 1 + (K : Int) by omega]; exact hLB)
  have HLS : Hid (Rw pieceV 2 w8 aA UA.length cA UA ∧ Rw pieceV 2 w8 aB UB.length cB UB) := ⟨hA8, hB8⟩
  have HOF : Hid (Of R.length UA ∧ Of (R.length + (1 + K)) UB) := ⟨hOA, hOB⟩
  have HBW : Hid (Below w.heap.size w w8) := hB2.trans (hB8'.mono hB2.size)
  clear HT hA5 hB5 hb8 hA8 hB8 hLB hOA hOB HRN'
  have HF1 := from_any (HLR.out.below hB8') HFM.out (HBAR.out.below HBW.out)
  have HROW8 : Hid (Rw cellV 2 w8 a2 R.length c2 R) := HROW.out.below hB8'
  have HLR8 : Hid (Rw runV 2 w8 a1 L.length c1 L) := HLR.out.below hB8'
  have HB8 : Hid (Bar w8) := HBAR.out.below HBW.out
  clear hB8' HROW HLR hB2
  go_wp2_with fail
  refine HF1.mono ?_
  rintro e w9 ⟨q1, t1, ts1, rfl, k1, k2, k3, hb9, hq9⟩
  have hH9 := HRP.out w8 w9 q1 t1 ts1 k1 k2 k3 hb9
  have hq1 : q1 < w9.heap.size := by obtain ⟨g, hb, _⟩ := k1; exact (Array.getElem?_eq_some_iff.1 hb).1
  clear HF1 k1 k2 k3
  have HF2 := from_any (HLR8.out.below hb9) HFM.out (HBAR.out.below (HBW.out.trans (hb9.mono HBW.out.size)))
  unfold ptr
  go_wp2_with fail
  refine HF2.mono ?_
  rintro e w10 ⟨q2, t2, ts2, rfl, k1, k2, k3, hb10, hq10⟩
  have hS10 := HRP.out w8 w10 q2 t2 ts2 k1 k2 k3 (hb9.trans (hb10.mono hb9.size))
  have hH10 := hH9.still hb10
  have hsz9 := hb9.size
  have HQ : Hid (w8.heap.size ≤ q1 ∧ w8.heap.size ≤ q2 ∧ q1 ≠ q2) := ⟨hq9, by omega, by omega⟩
  clear HF2 k1 k2 k3 hH9 hb9 hb10 hq9 hq10 hq1 hsz9 HRP
  unfold ptr
  have HB1 := ownBumped (HROW8.out.below hH10.below) (HLS.out.1.below hH10.below) HOF.out.1 (by omega) rfl HCN.out (by omega)
  go_wp2_with fail
  refine HB1.mono ?_
  rintro e w11 ⟨ar, cr, rfl, hr11, hb11⟩
  have hH11 := hH10.still hb11
  have hS11 := hS10.still hb11
  clear HB1 hH10 hS10 hb11
  have HBL : Hid ((bmp UA 1 0 R).length = R.length) := bmp_len R 0
  have HB2' := put_any hr11 k (by have := HBL.out; omega) (by have := HBL.out; omega) hts (by omega) 0
  go_wp2_with fail
  refine HB2'.mono ?_
  rintro e w12 ⟨v12, rfl, ho12, hb12⟩
  obtain ⟨ar2, cr2, rfl⟩ := ho12.shape
  have hr12 := ho12.rw_ layC
  have hH12 := hH11.still hb12
  have hS12 := hS11.still hb12
  clear HB2' hH11 hS11 hb12 hr11 ho12
  have T1 := hH12.one HQ.out.1 (HLS.out.1.below hH12.below) HOF.out.1 (by omega) rfl HCN.out (by omega)
  go_wp2_with fail
  refine T1.mono ?_
  rintro e w13 ⟨rfl, hH13, hu13⟩
  have hS13 := hS12.other hH12 HQ.out.2.2.symm HQ.out.1 hu13
  have hr13 := hr12.past hH12 hu13
  clear T1 hH12 hS12 hr12 hu13
  have T2 := hH13.insertU HQ.out.1 k (by have := HBL.out; omega) hts hne 0 (by omega) (by omega) (by have := HBL.out; omega) HB8.out
  go_wp2_with fail
  refine T2.mono ?_
  rintro e w14 ⟨rfl, hH14, hu14⟩
  have hS14 := hS13.other hH13 HQ.out.2.2.symm HQ.out.1 hu14
  have hr14 := hr13.past hH13 hu14
  clear T2 hH13 hS13 hr13 hu14
  have T3 := hS14.insertU HQ.out.2.1 k hkR hts hne 0 (by omega) (by omega) (by omega) HB8.out
  go_wp2_with fail
  refine T3.mono ?_
  rintro e w15 ⟨rfl, hS15, hu15⟩
  have hH15 := hH14.other hS14 HQ.out.2.2 HQ.out.2.1 hu15
  have hr15 := hr14.past hS14 hu15
  clear T3 hH14 hS14 hr14 hu15
  have T4 := hS15.one HQ.out.2.1 (HLS.out.2.below hS15.below) HOF.out.2 (by omega) (by rw [putL_len, hrn]) (HCN.out.put (m := k) (rs := rs) (hid := 0) (by omega) (by omega)) (by omega)
  go_wp2_with fail
  refine T4.mono ?_
  rintro e w16 ⟨rfl, hS16, hu16⟩
  have hH16 := hH15.other hS15 HQ.out.2.2 HQ.out.2.1 hu16
  have hr16 := hr15.past hS15 hu16
  rw [HTWO.out] at hS16
  have HOZ : Hid (∀ c ∈ putL (bmp UA 1 0 R) k rs 0, okR c.1) := putL_ok (okUp1 HO.out UA) hts.ok
  have HLZ : Hid ((putL (bmp UA 1 0 R) k rs 0).length = R.length + (1 + K)) := by show _ = _; rw [putL_len, bmp_len, hrn]
  clear T4 hH15 hS15 hr15 hu16 HTWO HBL
  generalize putL (bmp UA 1 0 R) k rs 0 = Z at *
  have I1 := is_any hH16.self hr16 HOZ.out (by have := HLZ.out; omega)
  go_wp2_with fail
  refine I1.mono ?_
  rintro e w17 ⟨rfl, hb17⟩
  have hH17 := hH16.still hb17
  have hS17 := hS16.still hb17
  clear I1 hH16 hS16 hr16 hb17
  have T5 := hH17.runsR HOZ.out
  go_wp2_with fail
  refine T5.mono ?_
  rintro e w18 ⟨a18, c18, rfl, hr18, hH18, hb18⟩
  have hS18 := hS17.still hb18
  clear T5 hH17 hS17 hb18 hH18
  have T6 := hS18.runsR HOZ.out
  go_wp2_with fail
  refine T6.mono ?_
  rintro e w19 ⟨a19, c19, rfl, hr19, hS19, hb19⟩
  have T7 := eqRuns_any (hr18.below hb19) hr19 (by have := HLZ.out; have := rowRuns_len Z; omega)
  clear T6 hS18 hr18 hr19 hb19
  go_wp2_with fail
  refine T7.mono ?_
  rintro e w20 ⟨rfl, hb20⟩
  have hS20 := hS19.still hb20
  clear T7 hS19 hb20
  go_wp2_with fail
  go_ret
  exact ⟨rfl, HBW.out.trans (hS20.below.mono HBW.out.size)⟩
end Go.Proofs.YtffkncohliollaaGreatDoor
