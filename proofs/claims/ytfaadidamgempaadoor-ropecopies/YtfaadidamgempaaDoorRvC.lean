import Derived.Test.YtfaadidamgempaaDoorRvB
import Derived.Test.YtfaadidamgempaaDoorRuDF
/-! RopeCopies. -/
namespace Go.Proofs.YtfaadidamgempaaDoor
open Go.RowKit Go.Lib
set_option maxRecDepth 100000

set_option maxHeartbeats 32000000 in
theorem ropeCopies_any {w : World} {a : Option Addr} {n cap : Nat} {l : List (Int × Int)} (h : Rw pieceV 2 w a n cap l) {b : Option Addr} {m capb : Nat} {S : List (Int × Int × Int × Int)} (hs : Rw actV 4 w b m capb S) {bo : Option Addr} {mo capo : Nat} {So : List (Int × Int × Int × Int)} (hso : Rw actV 4 w bo mo capo So) (hBar : Bar w) :
    Calls Tryd.prog 3 #[.slice a n cap, .slice b m capb, .slice bo mo capo] w fun e w' => e = .returned (.bool true) ∧ Below w.heap.size w w' := by
  have hsr := hs.room
  have hsro := hso.room
  go_enter Tryd.func3, Tryd.ntmps3
  go_wp2_with fail
  refine (runs_any h).mono ?_
  rintro e w1 ⟨v1, L, rfl, ho1, hL, hb1⟩
  have hF := hL.from_
  have hcl := hL.cells_le
  have hlf := hL.few
  obtain ⟨a1, c1, rfl⟩ := ho1.shape
  have HC := cells_any (ho1.rw_ layR) hF.text hF.few
  go_wp2_with fail
  refine HC.mono ?_
  rintro e w2 ⟨v2, rfl, ho2, hb2⟩
  obtain ⟨a2, c2, rfl⟩ := ho2.shape
  have hR2 := ho2.rw_ layC
  have hB2 : Below w.heap.size w w2 := hb1.trans (hb2.mono hb1.size)
  have hBar2 := hBar.below hB2
  have HFR := from_any ((ho1.rw_ layR).below hb2) hF hBar2
  have hO := cellsOf_ok hF.text
  have hnn : (cellsOf L).length ≤ 1152 := by omega
  have hCN : Cnt 2 (cellsOf L) := fun c hc => by
    obtain ⟨x, hx, hc⟩ := List.mem_flatMap.1 hc
    obtain ⟨r, _, rfl⟩ := List.mem_map.1 hc
    exact ⟨(hL.each x hx).lo, (hL.each x hx).hi⟩
  have HLA : Hid (∀ W q, (∃ t ts, RopeAt W q t ∧ Built ts t ∧ Parts L ts) → Below w2.heap.size w2 W → Both w2 q 2 (cellsOf L) a2 c2 W) := fun W q ⟨t, ts, k1, k2, k3⟩ hb => by
    obtain ⟨e1, e2⟩ := from_rp hF k2 k3
    exact ⟨⟨t, k1, e2, e1, hb⟩, hR2.below hb, hO, hCN⟩
  have HBAR : Hid (Bar w2) := hBar2
  have HS : Hid (Rw actV 4 w b m capb S) := hs
  have HSO : Hid (Rw actV 4 w bo mo capo So) := hso
  clear hCN hL hF hcl hlf ho1 HC ho2 hR2 hBar h hO hBar2 hs hso
  generalize hRR : cellsOf L = R at *
  clear hRR
  go_wp2_with fail
  refine HFR.mono ?_
  rintro e w6 ⟨q, t, ts, rfl, hRp, hBt, hPt, hb6, hq6⟩
  have hH0 := HLA.out _ q ⟨t, ts, hRp, hBt, hPt⟩ hb6
  clear HLA HFR hRp hBt hPt hb6
  unfold ptr
  obtain ⟨t0, h01, h02, h03, h04⟩ := hH0.rope
  have HCP := copy_any h01
  go_wp2_with fail
  refine HCP.mono ?_
  rintro e w7 ⟨qc, rfl, hc1, hb7, hqc, hqc2⟩
  have hr7 := h01.below hb7
  have HCP2 := copy_any hr7
  have hH7 := hH0.still hb7
  clear HCP
  go_wp2_with fail
  refine HCP2.mono ?_
  rintro e w8 ⟨qd, rfl, hd1, hb8, hqd, _⟩
  have hH8 := hH7.still hb8
  have hq7 : q < w6.heap.size := by obtain ⟨g, hb, _⟩ := h01; exact (Array.getElem?_eq_some_iff.1 hb).1
  have hs6 := h04.size
  have hs7 := hb7.size
  have hC8 : Both w2 qc 2 R a2 c2 w8 := ⟨⟨t0, hc1.below hb8, h02, h03, hH8.rope.below⟩, hH8.row, hH8.ok, hH8.cnt⟩
  have hD8 : Both w2 qd 2 R a2 c2 w8 := ⟨⟨t0, hd1, h02, h03, hH8.rope.below⟩, hH8.row, hH8.ok, hH8.cnt⟩
  have HQ : Hid (w2.heap.size ≤ q ∧ w2.heap.size ≤ qc ∧ w2.heap.size ≤ qd ∧ q ≠ qc ∧ q ≠ qd ∧ qc ≠ qd) := ⟨hq6, by omega, by omega, by omega, by omega, by omega⟩
  clear HCP2 hc1 hd1 hr7 hH7 hb7 hb8 h01 h02 h03 h04 hqc hqd hqc2 hq7 hs6 hs7 hq6 hH0
  have HB2 : Hid (Below w.heap.size w w2) := hB2
  clear hB2 hb1 hb2
  go_wp2_with fail
  go_loopw [13, 14, 15, 16, 17] (fun v13 v14 v15 _ v17 W => ∃ (i : Nat) (R1 R2 : List (Int × Int)) (a1 a2 a3 : Option Addr) (c1 c2 c3 : Nat), v17 = .int .i64 (i : Int) ∧ v13 = .slice a1 R1.length c1 ∧ v14 = .slice a2 R2.length c2 ∧ v15 = .slice a3 R1.length c3 ∧ i ≤ 24 ∧ R1.length ≤ 1152 + 48 * i ∧ R2.length ≤ 1152 + 48 * i ∧ Both w2 q (2 + (i : Int)) R1 a1 c1 W ∧ Both w2 qc (2 + (i : Int)) R2 a2 c2 W ∧ Both w2 qd (2 + (i : Int)) R1 a3 c3 W) (fun _ _ _ _ v _ => 24 - (RowKit.intOf v).toNat)
  case atStart => exact ⟨0, R, R, a2, a2, a2, c2, c2, c2, rfl, rfl, rfl, rfl, by omega, by omega, by omega, hH8, hC8, hD8⟩
  case round =>
    clear hH8 hC8 hD8 hnn
    obtain ⟨i, R1, R2, s1, s2, s3, z1, z2, z3, rfl, rfl, rfl, rfl, hi, hl1, hl2, hH, hC, hD⟩ := hrel
    have HN : Hid (((i + 1 : Nat) : Int) = (i : Int) + 1) := by show _ = _; omega
    by_cases h24 : i < 24
    · have d0 : decide ((i : Int) < 24) = true := decide_eq_true (by omega)
      by_cases f1 : i < m
      · have d1 : decide ((i : Int) < (m : Int)) = true := decide_eq_true (by omega)
        by_cases f2 : i < mo
        · have d2 : decide ((i : Int) < (mo : Int)) = true := decide_eq_true (by omega)
          obtain ⟨gsS, osS, xS, rfl, hgsS, hxS, hcS⟩ := HS.out.at i f1
          have HKS : Hid (∀ Z, Below w.heap.size w Z → Z.cell? ⟨gsS, osS + i * 4, none⟩ = some (.int .i64 xS.1) ∧ Z.cell? ⟨gsS, osS + i * 4 + 1, none⟩ = some (.int .i64 xS.2.1) ∧ Z.cell? ⟨gsS, osS + i * 4 + 2, none⟩ = some (.int .i64 xS.2.2.1) ∧ Z.cell? ⟨gsS, osS + i * 4 + 3, none⟩ = some (.int .i64 xS.2.2.2)) := fun Z hZ => ⟨(hZ.cell (p := ⟨gsS, osS + i * 4 + 0, none⟩) hgsS).trans (hcS 0 _ rfl), (hZ.cell (p := ⟨gsS, osS + i * 4 + 1, none⟩) hgsS).trans (hcS 1 _ rfl), (hZ.cell (p := ⟨gsS, osS + i * 4 + 2, none⟩) hgsS).trans (hcS 2 _ rfl), (hZ.cell (p := ⟨gsS, osS + i * 4 + 3, none⟩) hgsS).trans (hcS 3 _ rfl)⟩
          clear hxS hcS
          obtain ⟨gsO, osO, xO, rfl, hgsO, hxO, hcO⟩ := HSO.out.at i f2
          have HKO : Hid (∀ Z, Below w.heap.size w Z → Z.cell? ⟨gsO, osO + i * 4, none⟩ = some (.int .i64 xO.1) ∧ Z.cell? ⟨gsO, osO + i * 4 + 1, none⟩ = some (.int .i64 xO.2.1) ∧ Z.cell? ⟨gsO, osO + i * 4 + 2, none⟩ = some (.int .i64 xO.2.2.1) ∧ Z.cell? ⟨gsO, osO + i * 4 + 3, none⟩ = some (.int .i64 xO.2.2.2)) := fun Z hZ => ⟨(hZ.cell (p := ⟨gsO, osO + i * 4 + 0, none⟩) hgsO).trans (hcO 0 _ rfl), (hZ.cell (p := ⟨gsO, osO + i * 4 + 1, none⟩) hgsO).trans (hcO 1 _ rfl), (hZ.cell (p := ⟨gsO, osO + i * 4 + 2, none⟩) hgsO).trans (hcO 2 _ rfl), (hZ.cell (p := ⟨gsO, osO + i * 4 + 3, none⟩) hgsO).trans (hcO 3 _ rfl)⟩
          clear hxO hcO
          have hBW11 : Below w.heap.size w wr := HB2.out.trans (hH.rope.below.mono HB2.out.size)
          obtain ⟨k0, k1, k2, k3⟩ := HKS.out wr hBW11
          have HA11 := acts_is hH HQ.out.1 HBAR.out (by omega) (by omega) (by omega) xS.1 xS.2.1 xS.2.2.1 xS.2.2.2
          have HF11 : Hid ((∀ Z, Upd q wr Z → Both w2 qc (2 + (i : Int)) R2 s2 z2 Z) ∧ (∀ Z, Upd q wr Z → Both w2 qd (2 + (i : Int)) R1 s3 z3 Z)) := ⟨fun Z hZ => hC.upd hH HQ.out.2.2.2.1.symm HQ.out.1 hZ, fun Z hZ => hD.upd hH HQ.out.2.2.2.2.1.symm HQ.out.1 hZ⟩
          clear hH hC hD hBW11
          go_wp2_with fail
          refine HA11.mono ?_
          rintro e w11 ⟨a11, c11, R11, rfl, hH, hl11, hu11, he11⟩
          have HE11 : Hid (R11 = actR _ xS.1 xS.2.1 xS.2.2.1 xS.2.2.2) := he11
          obtain ⟨hC, hD⟩ : Both w2 qc (2 + (i : Int)) R2 s2 z2 w11 ∧ Both w2 qd (2 + (i : Int)) R1 s3 z3 w11 := ⟨HF11.out.1 _ hu11, HF11.out.2 _ hu11⟩
          clear HA11 HF11 hu11 he11 k0 k1 k2 k3
          have hBW12 : Below w.heap.size w w11 := HB2.out.trans (hD.rope.below.mono HB2.out.size)
          obtain ⟨k0, k1, k2, k3⟩ := HKS.out w11 hBW12
          have HA12 := acts_is hD HQ.out.2.2.1 HBAR.out (by omega) (by omega) (by omega) xS.1 xS.2.1 xS.2.2.1 xS.2.2.2
          have HF12 : Hid ((∀ Z, Upd qd w11 Z → Both w2 q (2 + (i : Int) + 1) R11 a11 c11 Z) ∧ (∀ Z, Upd qd w11 Z → Both w2 qc (2 + (i : Int)) R2 s2 z2 Z)) := ⟨fun Z hZ => hH.upd hD HQ.out.2.2.2.2.1 HQ.out.2.2.1 hZ, fun Z hZ => hC.upd hD HQ.out.2.2.2.2.2 HQ.out.2.2.1 hZ⟩
          clear hD hH hC hBW12
          go_wp2_with fail
          refine HA12.mono ?_
          rintro e w12 ⟨a12, c12, R12, rfl, hD, hl12, hu12, he12⟩
          have HE12 : Hid (R12 = actR _ xS.1 xS.2.1 xS.2.2.1 xS.2.2.2) := he12
          obtain ⟨hH, hC⟩ : Both w2 q (2 + (i : Int) + 1) R11 a11 c11 w12 ∧ Both w2 qc (2 + (i : Int)) R2 s2 z2 w12 := ⟨HF12.out.1 _ hu12, HF12.out.2 _ hu12⟩
          clear HA12 HF12 hu12 he12 k0 k1 k2 k3
          obtain rfl : R12 = R11 := HE12.out.trans HE11.out.symm
          have hBW13 : Below w.heap.size w w12 := HB2.out.trans (hC.rope.below.mono HB2.out.size)
          obtain ⟨k0, k1, k2, k3⟩ := HKO.out w12 hBW13
          have HA13 := acts_is hC HQ.out.2.1 HBAR.out (by omega) (by omega) (by omega) xO.1 xO.2.1 xO.2.2.1 xO.2.2.2
          have HF13 : Hid ((∀ Z, Upd qc w12 Z → Both w2 q (2 + (i : Int) + 1) R12 a11 c11 Z) ∧ (∀ Z, Upd qc w12 Z → Both w2 qd (2 + (i : Int) + 1) R12 a12 c12 Z)) := ⟨fun Z hZ => hH.upd hC HQ.out.2.2.2.1 HQ.out.2.1 hZ, fun Z hZ => hD.upd hC HQ.out.2.2.2.2.2.symm HQ.out.2.1 hZ⟩
          clear hC hH hD hBW13
          go_wp2_with fail
          refine HA13.mono ?_
          rintro e w13 ⟨a13, c13, R13, rfl, hC, hl13, hu13, he13⟩
          have HE13 : Hid (R13 = actR _ xO.1 xO.2.1 xO.2.2.1 xO.2.2.2) := he13
          obtain ⟨hH, hD⟩ : Both w2 q (2 + (i : Int) + 1) R12 a11 c11 w13 ∧ Both w2 qd (2 + (i : Int) + 1) R12 a12 c12 w13 := ⟨HF13.out.1 _ hu13, HF13.out.2 _ hu13⟩
          clear HA13 HF13 hu13 he13 k0 k1 k2 k3
          go_wp2_with fail
          exact ⟨⟨i + 1, R12, R13, a11, a13, a12, c11, c13, c12, by simp, rfl, rfl, rfl, by omega, by omega, by omega, by rw [HN.out, ← Int.add_assoc]; exact hH, by rw [HN.out, ← Int.add_assoc]; exact hC, by rw [HN.out, ← Int.add_assoc]; exact hD⟩, by simp [RowKit.intOf]; omega⟩
        · have d2 : decide ((i : Int) < (mo : Int)) = false := decide_eq_false (by omega)
          obtain ⟨gsS, osS, xS, rfl, hgsS, hxS, hcS⟩ := HS.out.at i f1
          have HKS : Hid (∀ Z, Below w.heap.size w Z → Z.cell? ⟨gsS, osS + i * 4, none⟩ = some (.int .i64 xS.1) ∧ Z.cell? ⟨gsS, osS + i * 4 + 1, none⟩ = some (.int .i64 xS.2.1) ∧ Z.cell? ⟨gsS, osS + i * 4 + 2, none⟩ = some (.int .i64 xS.2.2.1) ∧ Z.cell? ⟨gsS, osS + i * 4 + 3, none⟩ = some (.int .i64 xS.2.2.2)) := fun Z hZ => ⟨(hZ.cell (p := ⟨gsS, osS + i * 4 + 0, none⟩) hgsS).trans (hcS 0 _ rfl), (hZ.cell (p := ⟨gsS, osS + i * 4 + 1, none⟩) hgsS).trans (hcS 1 _ rfl), (hZ.cell (p := ⟨gsS, osS + i * 4 + 2, none⟩) hgsS).trans (hcS 2 _ rfl), (hZ.cell (p := ⟨gsS, osS + i * 4 + 3, none⟩) hgsS).trans (hcS 3 _ rfl)⟩
          clear hxS hcS
          have hBW11 : Below w.heap.size w wr := HB2.out.trans (hH.rope.below.mono HB2.out.size)
          obtain ⟨k0, k1, k2, k3⟩ := HKS.out wr hBW11
          have HA11 := acts_is hH HQ.out.1 HBAR.out (by omega) (by omega) (by omega) xS.1 xS.2.1 xS.2.2.1 xS.2.2.2
          have HF11 : Hid ((∀ Z, Upd q wr Z → Both w2 qc (2 + (i : Int)) R2 s2 z2 Z) ∧ (∀ Z, Upd q wr Z → Both w2 qd (2 + (i : Int)) R1 s3 z3 Z)) := ⟨fun Z hZ => hC.upd hH HQ.out.2.2.2.1.symm HQ.out.1 hZ, fun Z hZ => hD.upd hH HQ.out.2.2.2.2.1.symm HQ.out.1 hZ⟩
          clear hH hC hD hBW11
          go_wp2_with fail
          refine HA11.mono ?_
          rintro e w11 ⟨a11, c11, R11, rfl, hH, hl11, hu11, he11⟩
          have HE11 : Hid (R11 = actR _ xS.1 xS.2.1 xS.2.2.1 xS.2.2.2) := he11
          obtain ⟨hC, hD⟩ : Both w2 qc (2 + (i : Int)) R2 s2 z2 w11 ∧ Both w2 qd (2 + (i : Int)) R1 s3 z3 w11 := ⟨HF11.out.1 _ hu11, HF11.out.2 _ hu11⟩
          clear HA11 HF11 hu11 he11 k0 k1 k2 k3
          have hBW12 : Below w.heap.size w w11 := HB2.out.trans (hD.rope.below.mono HB2.out.size)
          obtain ⟨k0, k1, k2, k3⟩ := HKS.out w11 hBW12
          have HA12 := acts_is hD HQ.out.2.2.1 HBAR.out (by omega) (by omega) (by omega) xS.1 xS.2.1 xS.2.2.1 xS.2.2.2
          have HF12 : Hid ((∀ Z, Upd qd w11 Z → Both w2 q (2 + (i : Int) + 1) R11 a11 c11 Z) ∧ (∀ Z, Upd qd w11 Z → Both w2 qc (2 + (i : Int)) R2 s2 z2 Z)) := ⟨fun Z hZ => hH.upd hD HQ.out.2.2.2.2.1 HQ.out.2.2.1 hZ, fun Z hZ => hC.upd hD HQ.out.2.2.2.2.2 HQ.out.2.2.1 hZ⟩
          clear hD hH hC hBW12
          go_wp2_with fail
          refine HA12.mono ?_
          rintro e w12 ⟨a12, c12, R12, rfl, hD, hl12, hu12, he12⟩
          have HE12 : Hid (R12 = actR _ xS.1 xS.2.1 xS.2.2.1 xS.2.2.2) := he12
          obtain ⟨hH, hC⟩ : Both w2 q (2 + (i : Int) + 1) R11 a11 c11 w12 ∧ Both w2 qc (2 + (i : Int)) R2 s2 z2 w12 := ⟨HF12.out.1 _ hu12, HF12.out.2 _ hu12⟩
          clear HA12 HF12 hu12 he12 k0 k1 k2 k3
          obtain rfl : R12 = R11 := HE12.out.trans HE11.out.symm
          go_wp2_with fail
          exact ⟨⟨i + 1, R12, R2, a11, s2, a12, c11, z2, c12, by simp, rfl, rfl, rfl, by omega, by omega, by omega, by rw [HN.out, ← Int.add_assoc]; exact hH, hC.wide (by have := HN.out; omega), by rw [HN.out, ← Int.add_assoc]; exact hD⟩, by simp [RowKit.intOf]; omega⟩
      · have d1 : decide ((i : Int) < (m : Int)) = false := decide_eq_false (by omega)
        by_cases f2 : i < mo
        · have d2 : decide ((i : Int) < (mo : Int)) = true := decide_eq_true (by omega)
          obtain ⟨gsO, osO, xO, rfl, hgsO, hxO, hcO⟩ := HSO.out.at i f2
          have HKO : Hid (∀ Z, Below w.heap.size w Z → Z.cell? ⟨gsO, osO + i * 4, none⟩ = some (.int .i64 xO.1) ∧ Z.cell? ⟨gsO, osO + i * 4 + 1, none⟩ = some (.int .i64 xO.2.1) ∧ Z.cell? ⟨gsO, osO + i * 4 + 2, none⟩ = some (.int .i64 xO.2.2.1) ∧ Z.cell? ⟨gsO, osO + i * 4 + 3, none⟩ = some (.int .i64 xO.2.2.2)) := fun Z hZ => ⟨(hZ.cell (p := ⟨gsO, osO + i * 4 + 0, none⟩) hgsO).trans (hcO 0 _ rfl), (hZ.cell (p := ⟨gsO, osO + i * 4 + 1, none⟩) hgsO).trans (hcO 1 _ rfl), (hZ.cell (p := ⟨gsO, osO + i * 4 + 2, none⟩) hgsO).trans (hcO 2 _ rfl), (hZ.cell (p := ⟨gsO, osO + i * 4 + 3, none⟩) hgsO).trans (hcO 3 _ rfl)⟩
          clear hxO hcO
          have hBW13 : Below w.heap.size w wr := HB2.out.trans (hC.rope.below.mono HB2.out.size)
          obtain ⟨k0, k1, k2, k3⟩ := HKO.out wr hBW13
          have HA13 := acts_is hC HQ.out.2.1 HBAR.out (by omega) (by omega) (by omega) xO.1 xO.2.1 xO.2.2.1 xO.2.2.2
          have HF13 : Hid ((∀ Z, Upd qc wr Z → Both w2 q (2 + (i : Int)) R1 s1 z1 Z) ∧ (∀ Z, Upd qc wr Z → Both w2 qd (2 + (i : Int)) R1 s3 z3 Z)) := ⟨fun Z hZ => hH.upd hC HQ.out.2.2.2.1 HQ.out.2.1 hZ, fun Z hZ => hD.upd hC HQ.out.2.2.2.2.2.symm HQ.out.2.1 hZ⟩
          clear hC hH hD hBW13
          go_wp2_with fail
          refine HA13.mono ?_
          rintro e w13 ⟨a13, c13, R13, rfl, hC, hl13, hu13, he13⟩
          have HE13 : Hid (R13 = actR _ xO.1 xO.2.1 xO.2.2.1 xO.2.2.2) := he13
          obtain ⟨hH, hD⟩ : Both w2 q (2 + (i : Int)) R1 s1 z1 w13 ∧ Both w2 qd (2 + (i : Int)) R1 s3 z3 w13 := ⟨HF13.out.1 _ hu13, HF13.out.2 _ hu13⟩
          clear HA13 HF13 hu13 he13 k0 k1 k2 k3
          go_wp2_with fail
          exact ⟨⟨i + 1, R1, R13, s1, a13, s3, z1, c13, z3, by simp, rfl, rfl, rfl, by omega, by omega, by omega, hH.wide (by have := HN.out; omega), by rw [HN.out, ← Int.add_assoc]; exact hC, hD.wide (by have := HN.out; omega)⟩, by simp [RowKit.intOf]; omega⟩
        · have d2 : decide ((i : Int) < (mo : Int)) = false := decide_eq_false (by omega)
          have HW : Below w.heap.size w wr := HB2.out.trans (hH.rope.below.mono HB2.out.size)
          have I1 := is_any hH.rope.self hH.row hH.ok (by omega)
          go_wp2_with fail
          refine I1.mono ?_
          rintro e w21 ⟨rfl, hb21⟩
          have hH2 := hH.still hb21
          have hC2 := hC.still hb21
          have hD2 := hD.still hb21
          have HW2 := HW.trans (hb21.mono HW.size)
          clear I1 hH hC hD hb21 HW
          have I2 := is_any hC2.rope.self hC2.row hC2.ok (by omega)
          go_wp2_with fail
          refine I2.mono ?_
          rintro e w22 ⟨rfl, hb22⟩
          have hH3 := hH2.still hb22
          have hD3 := hD2.still hb22
          have HW3 := HW2.trans (hb22.mono HW2.size)
          clear I2 hH2 hC2 hD2 hb22 HW2
          have I3 := is_any hD3.rope.self hD3.row hD3.ok (by omega)
          go_wp2_with fail
          refine I3.mono ?_
          rintro e w23 ⟨rfl, hb23⟩
          have hH4 := hH3.still hb23
          have hD4 := hD3.still hb23
          have HW4 := HW3.trans (hb23.mono HW3.size)
          clear I3 hH3 hD3 hb23 HW3
          have HR1 := hH4.rope.runsR hH4.ok
          go_wp2_with fail
          refine HR1.mono ?_
          rintro e w24 ⟨a24, c24, rfl, hr24, _, hb24⟩
          have hD5 := hD4.still hb24
          have HW5 := HW4.trans (hb24.mono HW4.size)
          have HR2 := hD5.rope.runsR hD5.ok
          clear HR1 hH4 hD4 hb24 HW4
          go_wp2_with fail
          refine HR2.mono ?_
          rintro e w25 ⟨a25, c25, rfl, hr25, _, hb25⟩
          have hlr := rowRuns_len R1
          have HEQ := eqRuns_any (hr24.below hb25) hr25 (by omega)
          have HW6 := HW5.trans (hb25.mono HW5.size)
          clear HR2 hr24 hr25 hb25 HW5
          go_wp2_with fail
          refine HEQ.mono ?_
          rintro e w26 ⟨rfl, hb26⟩
          clear HEQ
          go_wp2_with fail
          go_ret
          exact ⟨rfl, HW6.trans (hb26.mono HW6.size)⟩
    · have d0 : decide ((i : Int) < 24) = false := decide_eq_false (by omega)
      have HW : Below w.heap.size w wr := HB2.out.trans (hH.rope.below.mono HB2.out.size)
      have I1 := is_any hH.rope.self hH.row hH.ok (by omega)
      go_wp2_with fail
      refine I1.mono ?_
      rintro e w21 ⟨rfl, hb21⟩
      have hH2 := hH.still hb21
      have hC2 := hC.still hb21
      have hD2 := hD.still hb21
      have HW2 := HW.trans (hb21.mono HW.size)
      clear I1 hH hC hD hb21 HW
      have I2 := is_any hC2.rope.self hC2.row hC2.ok (by omega)
      go_wp2_with fail
      refine I2.mono ?_
      rintro e w22 ⟨rfl, hb22⟩
      have hH3 := hH2.still hb22
      have hD3 := hD2.still hb22
      have HW3 := HW2.trans (hb22.mono HW2.size)
      clear I2 hH2 hC2 hD2 hb22 HW2
      have I3 := is_any hD3.rope.self hD3.row hD3.ok (by omega)
      go_wp2_with fail
      refine I3.mono ?_
      rintro e w23 ⟨rfl, hb23⟩
      have hH4 := hH3.still hb23
      have hD4 := hD3.still hb23
      have HW4 := HW3.trans (hb23.mono HW3.size)
      clear I3 hH3 hD3 hb23 HW3
      have HR1 := hH4.rope.runsR hH4.ok
      go_wp2_with fail
      refine HR1.mono ?_
      rintro e w24 ⟨a24, c24, rfl, hr24, _, hb24⟩
      have hD5 := hD4.still hb24
      have HW5 := HW4.trans (hb24.mono HW4.size)
      have HR2 := hD5.rope.runsR hD5.ok
      clear HR1 hH4 hD4 hb24 HW4
      go_wp2_with fail
      refine HR2.mono ?_
      rintro e w25 ⟨a25, c25, rfl, hr25, _, hb25⟩
      have hlr := rowRuns_len R1
      have HEQ := eqRuns_any (hr24.below hb25) hr25 (by omega)
      have HW6 := HW5.trans (hb25.mono HW5.size)
      clear HR2 hr24 hr25 hb25 HW5
      go_wp2_with fail
      refine HEQ.mono ?_
      rintro e w26 ⟨rfl, hb26⟩
      clear HEQ
      go_wp2_with fail
      go_ret
      exact ⟨rfl, HW6.trans (hb26.mono HW6.size)⟩
end Go.Proofs.YtfaadidamgempaaDoor
