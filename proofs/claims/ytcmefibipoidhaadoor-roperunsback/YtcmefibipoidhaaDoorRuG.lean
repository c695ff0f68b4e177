import Derived.Test.YtcmefibipoidhaaDoorRuF
/-! RopeRunsBack. -/
namespace Go.Proofs.YtcmefibipoidhaaDoor
open Go.RowKit Go.Lib
set_option maxRecDepth 100000

theorem rowRuns_len (R : List (Int × Int)) : (rowRuns R).length ≤ R.length := by
  have h1 := runs_some R
  have h2 : ∀ l : List (List Int × Int), (∀ p ∈ l, p.1 ≠ []) → l.length ≤ (rowOf l).length := fun l => by
    induction l with
    | nil => intro _; exact Nat.le_refl _
    | cons p t ih =>
      intro h
      have h3 := ih fun q hq => h q (by simp [hq])
      have h4 := List.length_pos_iff.2 (h p (by simp))
      rw [rowOf_cons, List.length_append, List.length_map, List.length_cons]
      omega
  have h3 := h2 _ h1
  rw [runs_row] at h3
  unfold rowRuns
  rw [List.length_map]
  exact h3
set_option maxHeartbeats 16000000 in
theorem ropeRunsBack_any {w : World} {a : Option Addr} {n cap : Nat} {l : List (Int × Int)} (h : Rw pieceV 2 w a n cap l) {b : Option Addr} {m capb : Nat} {S : List (Int × Int × Int × Int)} (hs : Rw actV 4 w b m capb S) (hBar : Bar w) :
    Calls Tryd.prog 5 #[.slice a n cap, .slice b m capb] w fun e w' => e = .returned (.bool true) ∧ Below w.heap.size w w' := by
  have hsr := hs.room
  go_enter Tryd.func5, Tryd.ntmps5
  go_wp2_with fail
  refine (runs_any h).mono ?_
  rintro e w1 ⟨v1, L, rfl, ho1, hL, hb1⟩
  have hF := hL.from_
  have hcl := hL.cells_le
  have hlf := hL.few
  obtain ⟨a1, c1, rfl⟩ := ho1.shape
  have HC := cells_any (ho1.rw_ layR) hF.text hF.few
  go_wp2_with fail
  refine HC.mono ?_
  rintro e w2 ⟨v2, rfl, ho2, hb2⟩
  obtain ⟨a2, c2, rfl⟩ := ho2.shape
  have hR2 := ho2.rw_ layC
  have hB2 : Below w.heap.size w w2 := hb1.trans (hb2.mono hb1.size)
  have hBar2 := hBar.below hB2
  have HFR := from_any ((ho1.rw_ layR).below hb2) hF hBar2
  have hO := cellsOf_ok hF.text
  have hnn : (cellsOf L).length ≤ 1152 := by omega
  have hCN : Cnt 2 (cellsOf L) := fun c hc => by
    obtain ⟨x, hx, hc⟩ := List.mem_flatMap.1 hc
    obtain ⟨r, _, rfl⟩ := List.mem_map.1 hc
    exact ⟨(hL.each x hx).lo, (hL.each x hx).hi⟩
  have HLA : Hid (∀ W q, (∃ t ts, RopeAt W q t ∧ Built ts t ∧ Parts L ts) → Below w2.heap.size w2 W → Both w2 q 2 (cellsOf L) a2 c2 W) := fun W q ⟨t, ts, k1, k2, k3⟩ hb => by
    obtain ⟨e1, e2⟩ := from_rp hF k2 k3
    exact ⟨⟨t, k1, e2, e1, hb⟩, hR2.below hb, hO, hCN⟩
  have HBAR : Hid (Bar w2) := hBar2
  have HLR : Hid (Rw runV 2 w2 a1 L.length c1 L) := (ho1.rw_ layR).below hb2
  have HSM : Hid (rowRuns (cellsOf L) = L) := rowRuns_same hF
  have HS : Hid (Rw actV 4 w b m capb S) := hs
  clear hCN hL hF hcl ho1 HC ho2 hR2 hBar h hO hBar2 hs
  generalize hRR : cellsOf L = R at *
  clear hRR
  go_wp2_with fail
  refine HFR.mono ?_
  rintro e w6 ⟨q, t, ts, rfl, hRp, hBt, hPt, hb6, hq6⟩
  have hH0 := HLA.out _ q ⟨t, ts, hRp, hBt, hPt⟩ hb6
  clear HLA HFR hRp hBt hPt hb6
  unfold ptr
  have HRR := hH0.rope.runsR hH0.ok
  rw [HSM.out] at HRR
  go_wp2_with fail
  refine HRR.mono ?_
  rintro e w7 ⟨a7, c7, rfl, hr7, hh7, hb7⟩
  have hH7 := hH0.still hb7
  have HEQ := eqRuns_any hr7 (HLR.out.below hh7.below) (by omega)
  clear HRR hH0 hr7 hh7 hb7
  go_wp2_with fail
  refine HEQ.mono ?_
  rintro e w8 ⟨rfl, hb8⟩
  have hH8 := hH7.still hb8
  clear HEQ hH7 hb8 HLR HSM
  have HB2 : Hid (Below w.heap.size w w2) := hB2
  clear hB2 hb1 hb2
  go_wp2_with fail
  go_loopw [6, 9, 10] (fun v6 _ v10 W => ∃ (i : Nat) (R : List (Int × Int)) (a : Option Addr) (cap : Nat), v10 = .int .i64 (i : Int) ∧ v6 = .slice a R.length cap ∧ i ≤ 24 ∧ i ≤ m ∧ R.length ≤ 1152 + 48 * i ∧ Both w2 q (2 + (i : Int)) R a cap W) (fun _ _ v _ => 24 - (RowKit.intOf v).toNat)
  case atStart => exact ⟨0, R, a2, c2, rfl, rfl, by omega, by omega, by omega, hH8⟩
  case round =>
    clear hH8 hnn
    obtain ⟨i, R1, a3, c3, rfl, rfl, hi, him, hl1, hH⟩ := hrel
    have HW : Below w.heap.size w wr := HB2.out.trans (hH.rope.below.mono HB2.out.size)
    by_cases hgo : i < m ∧ i < 24
    · obtain ⟨g1, g2⟩ := hgo
      obtain ⟨gs, os, x, rfl, hgs, hx, hc⟩ := HS.out.at i g1
      have k0 : wr.cell? ⟨gs, os + i * 4, none⟩ = some (.int .i64 x.1) := (HW.cell (p := ⟨gs, os + i * 4 + 0, none⟩) hgs).trans (hc 0 _ rfl)
      have k1 : wr.cell? ⟨gs, os + i * 4 + 1, none⟩ = some (.int .i64 x.2.1) := (HW.cell (p := ⟨gs, os + i * 4 + 1, none⟩) hgs).trans (hc 1 _ rfl)
      have k2 : wr.cell? ⟨gs, os + i * 4 + 2, none⟩ = some (.int .i64 x.2.2.1) := (HW.cell (p := ⟨gs, os + i * 4 + 2, none⟩) hgs).trans (hc 2 _ rfl)
      have k3 : wr.cell? ⟨gs, os + i * 4 + 3, none⟩ = some (.int .i64 x.2.2.2) := (HW.cell (p := ⟨gs, os + i * 4 + 3, none⟩) hgs).trans (hc 3 _ rfl)
      have HA := acts_any hH hq6 HBAR.out (by omega) (by omega) (by omega) x.1 x.2.1 x.2.2.1 x.2.2.2
      have d1 : decide ((i : Int) < (m : Int)) = true := decide_eq_true (by omega)
      have d2 : decide ((i : Int) < 24) = true := decide_eq_true (by omega)
      clear hc hx
      go_wp2_with fail
      refine HA.mono ?_
      rintro e w9 ⟨a4, c4, R4, rfl, hH9, hl9⟩
      clear HA k0 k1 k2 k3 d1 d2
      go_wp2_with fail
      exact ⟨⟨i + 1, R4, a4, c4, by simp, rfl, by omega, by omega, by omega, by rw [show (2 : Int) + ((i + 1 : Nat) : Int) = 2 + (i : Int) + 1 by omega]; exact hH9⟩, by simp [RowKit.intOf]; omega⟩
    · by_cases p1 : i < m
      · have p2 : ¬ i < 24 := fun e => hgo ⟨p1, e⟩
        have d1 : decide ((i : Int) < (m : Int)) = true := decide_eq_true (by omega)
        have d2 : decide ((i : Int) < 24) = false := decide_eq_false (by omega)
        have HFM : Hid (FromOk (rowRuns R1)) := rowRuns_from hH.ok hH.cnt (by omega) (by omega)
        have HC1 : Hid (cellsOf (rowRuns R1) = R1) := rowRuns_cells R1
        have HS1 : Hid (rowRuns R1 = rowRuns R1) := rfl
        have hlm := rowRuns_len R1
        have HRR := hH.rope.runsR hH.ok
        go_wp2_with fail
        refine HRR.mono ?_
        rintro e w9 ⟨a9, c9, rfl, hr9, _, hb9⟩
        have hH9 := hH.still hb9
        have hBw9 : Below w.heap.size w w9 := HW.trans (hb9.mono HW.size)
        clear HRR hH HW hb9
        obtain ⟨L1, eL1⟩ : ∃ L1, L1 = rowRuns R1 := ⟨_, rfl⟩
        rw [← eL1] at HFM HC1 hlm hr9
        rw [← eL1]
        have HL1 : Hid (L1 = rowRuns R1) := eL1
        have HH9 : Hid (Both w2 q (2 + (i : Int)) R1 a3 c3 w9) := hH9
        have HR9 : Hid (Rw runV 2 w9 a9 L1.length c9 L1) := hr9
        clear hH9 hr9 eL1 HS1
        go_wp2_with fail
        go_loopw [12] (fun v W => ∃ j : Nat, v = .int .i64 (j : Int) ∧ j ≤ L1.length ∧ Below w9.heap.size w9 W) (fun v _ => L1.length - (RowKit.intOf v).toNat)
        case atStart => exact ⟨0, rfl, Nat.zero_le _, Below.refl _ _⟩
        case round =>
          obtain ⟨j, rfl, hj, hB⟩ := hrel
          by_cases hjl : j < L1.length
          · obtain ⟨g, off, x, rfl, hg, hx, hc⟩ := (HR9.out.below hB).at j hjl
            have c0 := hc 0 _ rfl
            have c1 := hc 1 _ rfl
            simp only [Nat.add_zero] at c0
            have hmem := List.mem_of_getElem? hx
            have hse := isText_ne (HFM.out.text x hmem) (HFM.out.some_ x hmem)
            have dj : decide ((j : Int) < (L1.length : Int)) = true := decide_eq_true (by omega)
            clear hc hmem
            by_cases hj0 : j = 0
            · subst hj0
              simp only [Nat.zero_mul, Nat.add_zero] at c0 c1
              clear hx
              go_wp2_with fail
              go_quiet (fail)
              have hB2 := below_drewN hB nq
              generalize wr.drewN nq = wn at *
              go_wp2_with fail
              exact ⟨⟨1, rfl, by omega, hB2⟩, by simp [RowKit.intOf]; omega⟩
            · obtain ⟨j, rfl⟩ : ∃ j', j = j' + 1 := ⟨j - 1, by omega⟩
              obtain ⟨g', off', y, hga, _, hy, hcy⟩ := (HR9.out.below hB).at j (by omega)
              cases hga
              have e1 := hcy 1 _ rfl
              have hne : (x.h == y.h) = false := by rw [beq_eq_false_iff_ne]; exact fun e => HFM.out.apart j y x hy hx e.symm
              clear hcy hx hy hj0
              generalize y.h = yh at *
              go_wp2_with fail
              go_quiet (fail)
              have hB2 := below_drewN hB nq
              generalize wr.drewN nq = wn at *
              go_wp2_with fail
              exact ⟨⟨j + 1 + 1, by simp, by omega, hB2⟩, by simp [RowKit.intOf]; omega⟩
          · have dj : decide ((j : Int) < (L1.length : Int)) = false := decide_eq_false (by omega)
            have HCE := cells_any (HR9.out.below hB) HFM.out.text HFM.out.few
            rw [HC1.out] at HCE
            go_wp2_with fail
            refine HCE.mono ?_
            rintro e w11 ⟨v11, rfl, ho11, hb11⟩
            obtain ⟨a11, c11, rfl⟩ := ho11.shape
            have hB11 : Below w9.heap.size w9 w11 := hB.trans (hb11.mono hB.size)
            have HR11 : Hid (Rw cellV 2 w11 a11 R1.length c11 R1) := ho11.rw_ layC
            clear HCE ho11 hb11 hB dj hjl hj
            have q5 : ((R1.length : Int) != (R1.length : Int)) = false := by simp
            go_wp2_with fail
            go_loopw [14] (fun v W => ∃ k : Nat, v = .int .i64 (k : Int) ∧ k ≤ R1.length ∧ Below w11.heap.size w11 W) (fun v _ => R1.length - (RowKit.intOf v).toNat)
            case atStart => exact ⟨0, rfl, Nat.zero_le _, Below.refl _ _⟩
            case round =>
              obtain ⟨k, rfl, hk, hB⟩ := hrel
              have hBk : Below w9.heap.size w9 wr := hB11.trans (hB.mono hB11.size)
              by_cases hkl : k < R1.length
              · obtain ⟨g, off, x, rfl, hg, hx, hc⟩ := (HR11.out.below hB).at k hkl
                obtain ⟨g2, off2, x2, rfl, hg2, hx2, hc2⟩ := (HH9.out.row.below hBk).at k hkl
                rw [hx] at hx2
                cases hx2
                have c0 := hc 0 _ rfl
                have c1 := hc 1 _ rfl
                have e0 := hc2 0 _ rfl
                have e1 := hc2 1 _ rfl
                simp only [Nat.add_zero] at c0 e0
                have dk : decide ((k : Int) < (R1.length : Int)) = true := decide_eq_true (by omega)
                clear hc hc2 hx
                go_wp2_with fail
                go_quiet (fail)
                have hB2 := below_drewN hB nq
                generalize wr.drewN nq = wn at *
                go_wp2_with fail
                exact ⟨⟨k + 1, by simp, by omega, hB2⟩, by simp [RowKit.intOf]; omega⟩
              · have dk : decide ((k : Int) < (R1.length : Int)) = false := decide_eq_false (by omega)
                have hBw : Below w.heap.size w wr := hBw9.trans (hBk.mono hBw9.size)
                have HFR := from_any (HR9.out.below hBk) HFM.out (HBAR.out.below (HH9.out.rope.below.trans (hBk.mono HH9.out.rope.below.size)))
                clear hB
                go_wp2_with fail
                refine HFR.mono ?_
                rintro e w13 ⟨q2, t2, ts2, rfl, hRp2, hBt2, hPt2, hb13, hq13⟩
                obtain ⟨er, hRp⟩ := from_rp HFM.out hBt2 hPt2
                rw [HC1.out] at er
                have hS : Holds wr q2 R1 w13 := ⟨t2, hRp2, hRp, er, hb13⟩
                clear HFR hRp2 hBt2 hPt2 er hRp
                unfold ptr
                have HR2 := hS.runsR HH9.out.ok
                rw [← HL1.out] at HR2
                go_wp2_with fail
                refine HR2.mono ?_
                rintro e w14 ⟨a14, c14, rfl, hr14, hh14, hb14⟩
                have HEQ := eqRuns_any hr14 (HR9.out.below (hBk.trans (hh14.below.mono hBk.size))) (by omega)
                clear HR2 hr14 hb14 hS hb13
                go_wp2_with fail
                refine HEQ.mono ?_
                rintro e w15 ⟨rfl, hb15⟩
                have h15 := hh14.still hb15
                clear HEQ hb15 hh14
                have HT := h15.text HH9.out.ok
                obtain ⟨whole, ewh⟩ : ∃ x, x = strOf (visR R1) := ⟨_, rfl⟩
                rw [← ewh] at HT
                have EW : Hid (whole = strOf (visR R1)) := ewh
                clear ewh
                go_wp2_with fail
                refine HT.mono ?_
                rintro e w16 ⟨rfl, h16⟩
                have h9 := HH9.out
                have HTX : Calls Tryd.prog 25 #[.slice a3 R1.length c3, .int .i64 0, .int .i64 (R1.length : Int)] w16 fun e w' => e = .returned (.string whole) ∧ w' = w16 := (lawText_any (h9.row.below (hBk.trans (h16.below.mono hBk.size))) (by omega) h9.rope.nonneg h9.ok).mono fun e w' ⟨s, he, hs, hw⟩ => ⟨by rw [he, tx_eq hs.bytes, EW.out], hw⟩
                clear HT h15 h9
                go_wp2_with fail
                refine HTX.mono ?_
                rintro e w17 ⟨rfl, rfl⟩
                clear HTX EW
                go_wp2_with fail
                go_ret
                exact ⟨rfl, hBw.trans (h16.below.mono hBw.size)⟩
      · have d1 : decide ((i : Int) < (m : Int)) = false := decide_eq_false (by omega)
        have HFM : Hid (FromOk (rowRuns R1)) := rowRuns_from hH.ok hH.cnt (by omega) (by omega)
        have HC1 : Hid (cellsOf (rowRuns R1) = R1) := rowRuns_cells R1
        have HS1 : Hid (rowRuns R1 = rowRuns R1) := rfl
        have hlm := rowRuns_len R1
        have HRR := hH.rope.runsR hH.ok
        go_wp2_with fail
        refine HRR.mono ?_
        rintro e w9 ⟨a9, c9, rfl, hr9, _, hb9⟩
        have hH9 := hH.still hb9
        have hBw9 : Below w.heap.size w w9 := HW.trans (hb9.mono HW.size)
        clear HRR hH HW hb9
        obtain ⟨L1, eL1⟩ : ∃ L1, L1 = rowRuns R1 := ⟨_, rfl⟩
        rw [← eL1] at HFM HC1 hlm hr9
        rw [← eL1]
        have HL1 : Hid (L1 = rowRuns R1) := eL1
        have HH9 : Hid (Both w2 q (2 + (i : Int)) R1 a3 c3 w9) := hH9
        have HR9 : Hid (Rw runV 2 w9 a9 L1.length c9 L1) := hr9
        clear hH9 hr9 eL1 HS1
        go_wp2_with fail
        go_loopw [12] (fun v W => ∃ j : Nat, v = .int .i64 (j : Int) ∧ j ≤ L1.length ∧ Below w9.heap.size w9 W) (fun v _ => L1.length - (RowKit.intOf v).toNat)
        case atStart => exact ⟨0, rfl, Nat.zero_le _, Below.refl _ _⟩
        case round =>
          obtain ⟨j, rfl, hj, hB⟩ := hrel
          by_cases hjl : j < L1.length
          · obtain ⟨g, off, x, rfl, hg, hx, hc⟩ := (HR9.out.below hB).at j hjl
            have c0 := hc 0 _ rfl
            have c1 := hc 1 _ rfl
            simp only [Nat.add_zero] at c0
            have hmem := List.mem_of_getElem? hx
            have hse := isText_ne (HFM.out.text x hmem) (HFM.out.some_ x hmem)
            have dj : decide ((j : Int) < (L1.length : Int)) = true := decide_eq_true (by omega)
            clear hc hmem
            by_cases hj0 : j = 0
            · subst hj0
              simp only [Nat.zero_mul, Nat.add_zero] at c0 c1
              clear hx
              go_wp2_with fail
              go_quiet (fail)
              have hB2 := below_drewN hB nq
              generalize wr.drewN nq = wn at *
              go_wp2_with fail
              exact ⟨⟨1, rfl, by omega, hB2⟩, by simp [RowKit.intOf]; omega⟩
            · obtain ⟨j, rfl⟩ : ∃ j', j = j' + 1 := ⟨j - 1, by omega⟩
              obtain ⟨g', off', y, hga, _, hy, hcy⟩ := (HR9.out.below hB).at j (by omega)
              cases hga
              have e1 := hcy 1 _ rfl
              have hne : (x.h == y.h) = false := by rw [beq_eq_false_iff_ne]; exact fun e => HFM.out.apart j y x hy hx e.symm
              clear hcy hx hy hj0
              generalize y.h = yh at *
              go_wp2_with fail
              go_quiet (fail)
              have hB2 := below_drewN hB nq
              generalize wr.drewN nq = wn at *
              go_wp2_with fail
              exact ⟨⟨j + 1 + 1, by simp, by omega, hB2⟩, by simp [RowKit.intOf]; omega⟩
          · have dj : decide ((j : Int) < (L1.length : Int)) = false := decide_eq_false (by omega)
            have HCE := cells_any (HR9.out.below hB) HFM.out.text HFM.out.few
            rw [HC1.out] at HCE
            go_wp2_with fail
            refine HCE.mono ?_
            rintro e w11 ⟨v11, rfl, ho11, hb11⟩
            obtain ⟨a11, c11, rfl⟩ := ho11.shape
            have hB11 : Below w9.heap.size w9 w11 := hB.trans (hb11.mono hB.size)
            have HR11 : Hid (Rw cellV 2 w11 a11 R1.length c11 R1) := ho11.rw_ layC
            clear HCE ho11 hb11 hB dj hjl hj
            have q5 : ((R1.length : Int) != (R1.length : Int)) = false := by simp
            go_wp2_with fail
            go_loopw [14] (fun v W => ∃ k : Nat, v = .int .i64 (k : Int) ∧ k ≤ R1.length ∧ Below w11.heap.size w11 W) (fun v _ => R1.length - (RowKit.intOf v).toNat)
            case atStart => exact ⟨0, rfl, Nat.zero_le _, Below.refl _ _⟩
            case round =>
              obtain ⟨k, rfl, hk, hB⟩ := hrel
              have hBk : Below w9.heap.size w9 wr := hB11.trans (hB.mono hB11.size)
              by_cases hkl : k < R1.length
              · obtain ⟨g, off, x, rfl, hg, hx, hc⟩ := (HR11.out.below hB).at k hkl
                obtain ⟨g2, off2, x2, rfl, hg2, hx2, hc2⟩ := (HH9.out.row.below hBk).at k hkl
                rw [hx] at hx2
                cases hx2
                have c0 := hc 0 _ rfl
                have c1 := hc 1 _ rfl
                have e0 := hc2 0 _ rfl
                have e1 := hc2 1 _ rfl
                simp only [Nat.add_zero] at c0 e0
                have dk : decide ((k : Int) < (R1.length : Int)) = true := decide_eq_true (by omega)
                clear hc hc2 hx
                go_wp2_with fail
                go_quiet (fail)
                have hB2 := below_drewN hB nq
                generalize wr.drewN nq = wn at *
                go_wp2_with fail
                exact ⟨⟨k + 1, by simp, by omega, hB2⟩, by simp [RowKit.intOf]; omega⟩
              · have dk : decide ((k : Int) < (R1.length : Int)) = false := decide_eq_false (by omega)
                have hBw : Below w.heap.size w wr := hBw9.trans (hBk.mono hBw9.size)
                have HFR := from_any (HR9.out.below hBk) HFM.out (HBAR.out.below (HH9.out.rope.below.trans (hBk.mono HH9.out.rope.below.size)))
                clear hB
                go_wp2_with fail
                refine HFR.mono ?_
                rintro e w13 ⟨q2, t2, ts2, rfl, hRp2, hBt2, hPt2, hb13, hq13⟩
                obtain ⟨er, hRp⟩ := from_rp HFM.out hBt2 hPt2
                rw [HC1.out] at er
                have hS : Holds wr q2 R1 w13 := ⟨t2, hRp2, hRp, er, hb13⟩
                clear HFR hRp2 hBt2 hPt2 er hRp
                unfold ptr
                have HR2 := hS.runsR HH9.out.ok
                rw [← HL1.out] at HR2
                go_wp2_with fail
                refine HR2.mono ?_
                rintro e w14 ⟨a14, c14, rfl, hr14, hh14, hb14⟩
                have HEQ := eqRuns_any hr14 (HR9.out.below (hBk.trans (hh14.below.mono hBk.size))) (by omega)
                clear HR2 hr14 hb14 hS hb13
                go_wp2_with fail
                refine HEQ.mono ?_
                rintro e w15 ⟨rfl, hb15⟩
                have h15 := hh14.still hb15
                clear HEQ hb15 hh14
                have HT := h15.text HH9.out.ok
                obtain ⟨whole, ewh⟩ : ∃ x, x = strOf (visR R1) := ⟨_, rfl⟩
                rw [← ewh] at HT
                have EW : Hid (whole = strOf (visR R1)) := ewh
                clear ewh
                go_wp2_with fail
                refine HT.mono ?_
                rintro e w16 ⟨rfl, h16⟩
                have h9 := HH9.out
                have HTX : Calls Tryd.prog 25 #[.slice a3 R1.length c3, .int .i64 0, .int .i64 (R1.length : Int)] w16 fun e w' => e = .returned (.string whole) ∧ w' = w16 := (lawText_any (h9.row.below (hBk.trans (h16.below.mono hBk.size))) (by omega) h9.rope.nonneg h9.ok).mono fun e w' ⟨s, he, hs, hw⟩ => ⟨by rw [he, tx_eq hs.bytes, EW.out], hw⟩
                clear HT h15 h9
                go_wp2_with fail
                refine HTX.mono ?_
                rintro e w17 ⟨rfl, rfl⟩
                clear HTX EW
                go_wp2_with fail
                go_ret
                exact ⟨rfl, hBw.trans (h16.below.mono hBw.size)⟩
end Go.Proofs.YtcmefibipoidhaaDoor
