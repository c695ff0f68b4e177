import Derived.Test.YtaphkaodcdpcaaaDoorPgT
import Derived.Test.YtaphkaodcdpcaaaDoorPgL
/-! PageSpots. -/
namespace Go.Proofs.YtaphkaodcdpcaaaDoor
open Go.RowKit Go.Lib Go.Shelf
set_option maxRecDepth 100000

theorem FindP.back {rs : List Int} {lo hi at' q : Nat} {hard : Bool} (h : FindP rs lo hi hard ((wd rs lo at' : Nat) : Int) q) (h1 : lo ≤ at') (h2 : at' ≤ lastP hi hard) : at' ≤ q ∧ wd rs lo q = wd rs lo at' := by
  have hq : at' ≤ q := by
    rcases Nat.lt_or_ge q at' with h3 | h3
    · have h4 := h.next (by omega)
      have h5 := wd_mono rs (a := lo) (b := q + 1) (c := at') (by have := h.ge; omega) (by omega)
      omega
    · exact h3
  have h6 := wd_mono rs h1 hq
  have h7 := h.at_
  exact ⟨hq, by omega⟩
set_option maxHeartbeats 32000000 in
theorem pageSpots_any {w : World} {a : Option Addr} {n cap : Nat} {l : List Int} (h : Rw int1 1 w a n cap l) (wide rr cc : Int) (hP : PTab w) (hG : Glob w.heap.size) :
    Calls Tryd.prog 6 #[.slice a n cap, .int .i64 wide, .int .i64 rr, .int .i64 cc] w fun e w' => e = .returned (.bool true) ∧ Below w.heap.size w w' := by
  have HMa := made_any h
  have HT : Hid (PTab w ∧ Glob w.heap.size) := ⟨hP, hG⟩
  have hok := madeR_ok l
  have hml := madeR_len l
  have HRe : Hid (∀ V, Calls Tryd.prog 9 #[.int .i64 wide, .int .i64 40] V fun e w' => e = .returned (.int .i64 (wide % 40)) ∧ w' = V) := fun V => rest_any wide 40 (by decide) (by decide) V
  have hw0 : 0 ≤ wide % 40 := Int.emod_nonneg _ (by decide)
  have hw1 : wide % 40 < 40 := Int.emod_lt_of_pos _ (by decide)
  obtain ⟨W, hW⟩ : ∃ W : Nat, 1 + wide % 40 = (W : Int) := ⟨(1 + wide % 40).toNat, by omega⟩
  have hWb : 1 ≤ W ∧ W ≤ 40 := by omega
  generalize wide % 40 = wi at *
  generalize madeR l = rs at *
  clear h hP hG
  go_enter Tryd.func6, Tryd.ntmps6
  go_wp2_with fail
  refine HMa.mono ?_
  rintro e w1 ⟨v, rfl, ho1, hb1⟩
  obtain ⟨sa, caps, ev⟩ := ho1.shape
  obtain ⟨m, hm⟩ : ∃ m, rs.length = m := ⟨_, rfl⟩
  rw [hm] at ev hml
  subst ev
  have hR1 := ho1.rw_ layRu
  have HLd := laid_any hR1 hok (by omega) W ⟨by omega, by omega⟩ (HT.out.1.below hb1) (HT.out.2.mono hb1.size)
  have HB1 : Hid (Below w.heap.size w w1) := hb1
  clear HMa ho1 hb1
  go_wp2_with fail
  refine (HRe.out _).mono ?_
  rintro e w' ⟨rfl, hwe⟩
  obtain rfl := hwe.symm
  clear hwe HRe
  have hWw : IntKind.i64.wrap (1 + wi) = (W : Int) := by rw [hW]; exact IntWalk.i64_in _ (by omega)
  go_wp2_with fail
  refine HLd.mono ?_
  rintro e w2 ⟨v2, rfl, ho2, hb2⟩
  obtain ⟨al, capl, ev⟩ := ho2.shape
  obtain ⟨k, hk⟩ : ∃ k, (rowsP rs W).length = k := ⟨_, rfl⟩
  rw [rowsL_len, hk] at ev
  subst ev
  have hR2 := ho2.rw_ layL4
  have hfw := rowsP_few rs W
  have hne : (rowsP rs W).length ≠ 0 := fun e => rowsP_ne rs W (List.length_eq_zero_iff.1 e)
  rw [hk] at hfw hne
  rw [hm] at hfw
  have HB2 : Hid (Below w1.heap.size w1 w2) := hb2
  have HM : Hid (rs.length = m ∧ (rowsP rs W).length = k) := ⟨hm, hk⟩
  obtain ⟨S, hS⟩ : ∃ S, strOf rs = S := ⟨_, rfl⟩
  have HTx : Hid (IsText S rs) := by rw [← hS]; exact strOf_text hok
  have hWW : 1 ≤ W ∧ W ≤ 1024 := by omega
  have hrl : rs.length ≤ 4294967000 := by omega
  obtain ⟨g, off, x, eal, hg, -, -⟩ := hR2.at 0 (by omega)
  subst eal
  have HCv : Hid (∀ V, Below w2.heap.size w2 V → (convert 23 9 (.slice sa m caps)).run Tryd.prog V = .ok (.string S) V) := fun V hV => by rw [← hS]; exact conv_rw (hR1.below (HB2.out.trans (hV.mono HB2.out.size)))
  have HRow : Hid (∀ i, i < k → ∃ lo hi hard, (rowsP rs W)[i]? = some ⟨lo, hi, hard⟩ ∧ lo ≤ hi ∧ hi ≤ m ∧ ∀ V, Below w2.heap.size w2 V → V.cell? ⟨g, off + i * 4, none⟩ = some (.int .i64 (lo : Int)) ∧ V.cell? ⟨g, off + i * 4 + 1, none⟩ = some (.int .i64 (hi : Int)) ∧ V.cell? ⟨g, off + i * 4 + 3, none⟩ = some (.bool hard)) := fun i hi_ => by
    obtain ⟨lo, hi, hard, hI⟩ := rowI rs W (i := i) (by rw [hk]; exact hi_)
    obtain ⟨g', off', x, eal, hg', hx, hc⟩ := hR2.at i hi_
    simp only [Option.some.injEq, Addr.mk.injEq, and_true] at eal
    obtain ⟨rfl, rfl⟩ := eal
    rw [rowsL_get rs W hI.get] at hx
    obtain rfl := Option.some.inj hx
    exact ⟨lo, hi, hard, hI.get, hI.le, by have := hI.len; omega, fun V hV => ⟨(hV.cell (p := ⟨g, off + i * 4, none⟩) hg).trans (hc 0 _ rfl), (hV.cell (p := ⟨g, off + i * 4 + 1, none⟩) hg).trans (hc 1 _ rfl), (hV.cell (p := ⟨g, off + i * 4 + 3, none⟩) hg).trans (hc 3 _ rfl)⟩⟩
  have HTb : Hid (∀ V, Below w2.heap.size w2 V → PTab V ∧ Glob V.heap.size) := fun V hV => ⟨(HT.out.1.below HB1.out).below (HB2.out.trans (hV.mono HB2.out.size)), HT.out.2.mono (by have := HB1.out.size; have := HB2.out.size; have := hV.size; omega)⟩
  have HCut : Hid (∀ V, Below w2.heap.size w2 V → ∀ i j, i ≤ j → j ≤ m → ∃ a' cap', (∀ W : World, (Instr.slice 23 (.slice sa m caps) (some (.int .i64 (i : Int))) (some (.int .i64 (j : Int))) none).run Tryd.prog W = .ok (.slice a' (j - i) cap') W) ∧ Calls Tryd.prog 11 #[.slice a' (j - i) cap'] V fun e w' => e = .returned (.int .i64 ((wd rs i j : Nat) : Int)) ∧ Below V.heap.size V w') := fun V hV i j hij hj => by
    obtain ⟨a', cap', h1, h2⟩ := cut_runes (hR1.below (HB2.out.trans (hV.mono HB2.out.size))) i j hij hj
    exact ⟨a', cap', h1, cols_any h2 (by omega) (HTb.out V hV).1⟩
  have HSp : Hid (∀ V, Below w2.heap.size w2 V → ∀ at', at' ≤ m → Calls Tryd.prog 13 #[.string S, .int .i64 (W : Int), .int .i64 (at' : Int)] V fun e w' => ∃ r c : Nat, e = .returned (.tuple #[.int .i64 (r : Int), .int .i64 (c : Int), .int .i64 0]) ∧ SpotP rs W at' r c ∧ Below V.heap.size V w') := fun V hV at' ha => Spot_ok HTx.out W hWW hrl (HTb.out V hV).1 (HTb.out V hV).2 at' (by rw [HM.out.1]; exact ha)
  have HFi : Hid (∀ V, Below w2.heap.size w2 V → ∀ (r lo hi : Nat) (hard : Bool), (rowsP rs W)[r]? = some ⟨lo, hi, hard⟩ → ∀ col : Int, 0 ≤ col → Calls Tryd.prog 16 #[.string S, .int .i64 (W : Int), .int .i64 (r : Int), .int .i64 col] V fun e w' => ∃ q : Nat, e = .returned (.tuple #[.int .i64 (q : Int), .int .i64 0]) ∧ FindP rs lo hi hard col q ∧ Below V.heap.size V w') := fun V hV r lo hi hard hr col hc => Find_ok HTx.out W hWW hrl (HTb.out V hV).1 (HTb.out V hV).2 hr col hc
  clear HLd ho2 hb2 hok hm hW hk hR1 hS hWW hrl
  go_wp2_with fail
  go_loopw [13, 14] (fun vk va w' => ∃ q at' : Nat, vk = .int .i64 (q : Int) ∧ va = .int .i64 (at' : Int) ∧ q < k ∧ at' ≤ m + 1 ∧ Hid (∀ x, (rowsP rs W)[q]? = some x → x.lo ≤ at') ∧ Below w2.heap.size w2 w') (fun _ va _ => m + 1 - (intOf va).toNat)
  case atStart =>
    refine ⟨0, 0, rfl, rfl, by omega, by omega, fun x hx => ?_, Below.refl _ _⟩
    have := (rowsP_ok rs W).2.lo 0 x hx
    have this : x.lo = 0 := this
    omega
  case round =>
    obtain ⟨q0, at', rfl, rfl, hq0, hat1, hlo0, hb⟩ := hrel
    by_cases hat : at' ≤ m
    · have hla : decide ((at' : Int) ≤ m) = true := decide_eq_true (by omega)
      go_wp2_with fail
      go_loopw [13] (fun vk w' => ∃ q : Nat, vk = .int .i64 (q : Int) ∧ q < k ∧ Hid (∀ x, (rowsP rs W)[q]? = some x → x.lo ≤ at') ∧ Below w2.heap.size w2 w') (fun vk _ => k - (intOf vk).toNat)
      case atStart => exact ⟨q0, rfl, hq0, hlo0, hb⟩
      case round =>
        clear hlo0 hb hq0
        obtain ⟨q, rfl, hqk, hlo, hb⟩ := hrel
        have y1 : IntKind.i64.wrap ((q : Int) + 1) = ((q + 1 : Nat) : Int) := by rw [IntWalk.i64_in _ (by omega)]; omega
        have HD : Hid (∀ (hnx : ∀ x, (rowsP rs W)[q + 1]? = some x → at' < x.lo), ∃ lo hi hard, Stands rs W at' q lo hi hard ∧ (rowsP rs W)[q]? = some ⟨lo, hi, hard⟩ ∧ lo ≤ hi ∧ hi ≤ m ∧ at' ≤ lastP hi hard ∧ lo ≤ at' ∧ ∀ V, Below w2.heap.size w2 V → V.cell? ⟨g, off + q * 4, none⟩ = some (.int .i64 (lo : Int)) ∧ V.cell? ⟨g, off + q * 4 + 1, none⟩ = some (.int .i64 (hi : Int)) ∧ V.cell? ⟨g, off + q * 4 + 3, none⟩ = some (.bool hard)) := fun hnx => by
          obtain ⟨lo, hi, hard, h1, h2, h3, h4⟩ := HRow.out q hqk
          have hst : Stands rs W at' q lo hi hard := ⟨h1, hlo.out _ h1, hnx⟩
          exact ⟨lo, hi, hard, hst, h1, h2, h3, hst.last (by have := HM.out.1; omega), hst.le, h4⟩
        obtain ⟨q1, hq1⟩ : ∃ q1, q + 1 = q1 := ⟨_, rfl⟩
        rw [hq1] at y1
        have hqq : q < q1 := by omega
        by_cases hqn : q1 < k
        · obtain ⟨lo1, hi1, hard1, g1, g2, g3, g4⟩ := HRow.out q1 hqn
          obtain ⟨d0, d1, d3⟩ := g4 wr hb
          by_cases hle : lo1 ≤ at'
          · have HN : Hid (∀ x, (rowsP rs W)[q1]? = some x → x.lo ≤ at') := fun x hx => by rw [g1] at hx; rw [← Option.some.inj hx]; exact hle
            have z1 : decide ((lo1 : Int) ≤ at') = true := decide_eq_true (by omega)
            have z2 : decide (lo1 ≤ at') = true := decide_eq_true hle
            have z3 : decide ((q1 : Int) < k) = true := decide_eq_true (by omega)
            clear g1 g2 g3 g4 HD hlo hq1
            go_wp2_with fail
            exact ⟨⟨q1, rfl, hqn, HN.out, hb⟩, by simp [intOf]; omega⟩
          · obtain ⟨lo, hi, hard, hst, hr, hlh, hhm, hlp, hla', hcl⟩ := HD.out (fun x hx => by rw [hq1, g1] at hx; rw [← Option.some.inj hx]; show at' < lo1; omega)
            have z1 : decide ((lo1 : Int) ≤ at') = false := decide_eq_false (by omega)
            have z2 : decide (lo1 ≤ at') = false := decide_eq_false hle
            have z3 : decide ((q1 : Int) < k) = true := decide_eq_true (by omega)
            clear g1 g2 g3 g4 HD hlo hq1 hle
            have hcv := HCv.out _ hb
            go_wp2_with fail
            refine (HSp.out _ hb at' hat).mono ?_
            rintro e w3 ⟨r, c, rfl, hsp, hb3⟩
            obtain ⟨lo', hi', hard', hst', hcw⟩ := hsp
            obtain rfl := hst.unique hst'
            have := hst'.get
            rw [hr] at this
            simp only [Option.some.injEq, Rv.mk.injEq] at this
            obtain ⟨rfl, rfl, rfl⟩ := this
            have hbw3 := hb.trans (hb3.mono hb.size)
            obtain ⟨d0', d1', d3'⟩ := hcl w3 hbw3
            obtain ⟨a', cap', hcut, HCo⟩ := HCut.out w3 hbw3 lo at' hla' hat
            rw [← hcw] at HCo
            have HRr : Hid ((rowsP rs W)[q]? = some ⟨lo, hi, hard⟩ ∧ c = wd rs lo at' ∧ at' ≤ lastP hi hard ∧ ∀ V, Below w2.heap.size w2 V → V.cell? ⟨g, off + q * 4, none⟩ = some (.int .i64 (lo : Int)) ∧ V.cell? ⟨g, off + q * 4 + 1, none⟩ = some (.int .i64 (hi : Int)) ∧ V.cell? ⟨g, off + q * 4 + 3, none⟩ = some (.bool hard)) := ⟨hr, hcw, hlp, hcl⟩
            have HNx : Hid (∀ x, (rowsP rs W)[q]? = some x → x.lo ≤ at' + 1) := fun x hx => by rw [hr] at hx; rw [← Option.some.inj hx]; show lo ≤ at' + 1; omega
            have x1 : decide ((lo : Int) > at') = false := decide_eq_false (by omega)
            have x2 : decide (at' < lo) = false := decide_eq_false (by omega)
            have hwb : c ≤ 800 := by rw [hcw]; have := wd_le rs lo at'; omega
            have HB3 : Hid (Below w2.heap.size w2 w3) := hbw3
            clear hst hst' hcl hr hlp hb hb3 hcw hcv hbw3
            go_wp2_with fail
            refine HCo.mono ?_
            rintro e w4 ⟨rfl, hb4⟩
            have hbw4 := HB3.out.trans (hb4.mono HB3.out.size)
            have hcv := HCv.out _ hbw4
            have HF := HFi.out w4 hbw4 q lo hi hard HRr.out.1 (c : Int) (by omega)
            have HB4 : Hid (Below w2.heap.size w2 w4) := hbw4
            clear HCo hb4 hcut d0' d1' d3' hbw4
            go_wp2_with fail
            refine HF.mono ?_
            rintro e w5 ⟨p, rfl, hfp, hb5⟩
            have hbw5 := HB4.out.trans (hb5.mono HB4.out.size)
            have hlast := hfp.last
            have hlph : lastP hi hard ≤ hi := by unfold lastP; split <;> omega
            have hcq := HRr.out.2.1
            rw [hcq] at hfp
            obtain ⟨hap, hwp⟩ := hfp.back hla' HRr.out.2.2.1
            obtain ⟨d0', d1', d3'⟩ := HRr.out.2.2.2 w5 hbw5
            obtain ⟨a', cap', hcut, HCo⟩ := HCut.out w5 hbw5 lo p (by omega) (by omega)
            rw [hwp, ← hcq] at HCo
            have x3 : decide ((p : Int) < at') = false := decide_eq_false (by omega)
            have x4 : decide (p < at') = false := decide_eq_false (by omega)
            have x5 : decide ((p : Int) > m) = false := decide_eq_false (by omega)
            have x6 : decide (m < p) = false := decide_eq_false (by omega)
            have HB5 : Hid (Below w2.heap.size w2 w5) := hbw5
            clear hcv HF hfp hb5 hbw5 hcq hwp hlast hlph
            go_wp2_with fail
            refine HCo.mono ?_
            rintro e w6 ⟨rfl, hb6⟩
            have HB6 : Hid (Below w2.heap.size w2 w6) := HB5.out.trans (hb6.mono HB5.out.size)
            clear HCo hb6 hcut d0' d1' d3'
            go_wp2_with fail
            exact ⟨⟨q, at' + 1, rfl, by go_num, by omega, by omega, HNx.out, HB6.out⟩, by simp [intOf]; omega⟩
        · obtain ⟨lo, hi, hard, hst, hr, hlh, hhm, hlp, hla', hcl⟩ := HD.out (fun x hx => absurd (List.getElem?_eq_some_iff.1 hx).1 (by have := HM.out.2; omega))
          have z3 : decide ((q1 : Int) < k) = false := decide_eq_false (by omega)
          have z4 : decide (q1 < k) = false := decide_eq_false hqn
          clear HD hlo hq1
          have hcv := HCv.out _ hb
          go_wp2_with fail
          refine (HSp.out _ hb at' hat).mono ?_
          rintro e w3 ⟨r, c, rfl, hsp, hb3⟩
          obtain ⟨lo', hi', hard', hst', hcw⟩ := hsp
          obtain rfl := hst.unique hst'
          have := hst'.get
          rw [hr] at this
          simp only [Option.some.injEq, Rv.mk.injEq] at this
          obtain ⟨rfl, rfl, rfl⟩ := this
          have hbw3 := hb.trans (hb3.mono hb.size)
          obtain ⟨d0', d1', d3'⟩ := hcl w3 hbw3
          obtain ⟨a', cap', hcut, HCo⟩ := HCut.out w3 hbw3 lo at' hla' hat
          rw [← hcw] at HCo
          have HRr : Hid ((rowsP rs W)[q]? = some ⟨lo, hi, hard⟩ ∧ c = wd rs lo at' ∧ at' ≤ lastP hi hard ∧ ∀ V, Below w2.heap.size w2 V → V.cell? ⟨g, off + q * 4, none⟩ = some (.int .i64 (lo : Int)) ∧ V.cell? ⟨g, off + q * 4 + 1, none⟩ = some (.int .i64 (hi : Int)) ∧ V.cell? ⟨g, off + q * 4 + 3, none⟩ = some (.bool hard)) := ⟨hr, hcw, hlp, hcl⟩
          have HNx : Hid (∀ x, (rowsP rs W)[q]? = some x → x.lo ≤ at' + 1) := fun x hx => by rw [hr] at hx; rw [← Option.some.inj hx]; show lo ≤ at' + 1; omega
          have x1 : decide ((lo : Int) > at') = false := decide_eq_false (by omega)
          have x2 : decide (at' < lo) = false := decide_eq_false (by omega)
          have hwb : c ≤ 800 := by rw [hcw]; have := wd_le rs lo at'; omega
          have HB3 : Hid (Below w2.heap.size w2 w3) := hbw3
          clear hst hst' hcl hr hlp hb hb3 hcw hcv hbw3
          go_wp2_with fail
          refine HCo.mono ?_
          rintro e w4 ⟨rfl, hb4⟩
          have hbw4 := HB3.out.trans (hb4.mono HB3.out.size)
          have hcv := HCv.out _ hbw4
          have HF := HFi.out w4 hbw4 q lo hi hard HRr.out.1 (c : Int) (by omega)
          have HB4 : Hid (Below w2.heap.size w2 w4) := hbw4
          clear HCo hb4 hcut d0' d1' d3' hbw4
          go_wp2_with fail
          refine HF.mono ?_
          rintro e w5 ⟨p, rfl, hfp, hb5⟩
          have hbw5 := HB4.out.trans (hb5.mono HB4.out.size)
          have hlast := hfp.last
          have hlph : lastP hi hard ≤ hi := by unfold lastP; split <;> omega
          have hcq := HRr.out.2.1
          rw [hcq] at hfp
          obtain ⟨hap, hwp⟩ := hfp.back hla' HRr.out.2.2.1
          obtain ⟨d0', d1', d3'⟩ := HRr.out.2.2.2 w5 hbw5
          obtain ⟨a', cap', hcut, HCo⟩ := HCut.out w5 hbw5 lo p (by omega) (by omega)
          rw [hwp, ← hcq] at HCo
          have x3 : decide ((p : Int) < at') = false := decide_eq_false (by omega)
          have x4 : decide (p < at') = false := decide_eq_false (by omega)
          have x5 : decide ((p : Int) > m) = false := decide_eq_false (by omega)
          have x6 : decide (m < p) = false := decide_eq_false (by omega)
          have HB5 : Hid (Below w2.heap.size w2 w5) := hbw5
          clear hcv HF hfp hb5 hbw5 hcq hwp hlast hlph
          go_wp2_with fail
          refine HCo.mono ?_
          rintro e w6 ⟨rfl, hb6⟩
          have HB6 : Hid (Below w2.heap.size w2 w6) := HB5.out.trans (hb6.mono HB5.out.size)
          clear HCo hb6 hcut d0' d1' d3'
          go_wp2_with fail
          exact ⟨⟨q, at' + 1, rfl, by go_num, by omega, by omega, HNx.out, HB6.out⟩, by simp [intOf]; omega⟩
    · have hla : decide ((at' : Int) ≤ m) = false := decide_eq_false (by omega)
      have hla2 : decide (at' ≤ m) = false := decide_eq_false hat
      clear hlo0
      go_wp2_with fail
      have hr0 : 0 ≤ rr % (k : Int) := Int.emod_nonneg _ (by omega)
      have hr1 : rr % (k : Int) < k := Int.emod_lt_of_pos _ (by omega)
      obtain ⟨row, hrow⟩ : ∃ row : Nat, rr % (k : Int) = (row : Int) := ⟨(rr % (k : Int)).toNat, by omega⟩
      have hrk : row < k := by omega
      have hc0 : 0 ≤ cc % 80 := Int.emod_nonneg _ (by decide)
      have hc1 : cc % 80 < 80 := Int.emod_lt_of_pos _ (by decide)
      obtain ⟨cl, hcl0⟩ : ∃ cl : Nat, cc % 80 = (cl : Int) := ⟨(cc % 80).toNat, by omega⟩
      have HRa := rest_any rr (k : Int) (by omega) (by omega) wr
      have HRb := rest_any cc 80 (by decide) (by decide) wr
      rw [hrow] at HRa
      rw [hcl0] at HRb
      have hclb : cl < 80 := by omega
      obtain ⟨lo, hi, hard, hR, hlh, hhm, hcl⟩ := HRow.out row hrk
      have HSo : Hid (hard = false → lo < hi) := (rowP_ok hR).2.2.1
      have HWk : Hid (Below w.heap.size w w2) := HB1.out.trans (HB2.out.mono HB1.out.size)
      clear hr0 hr1 hrow hc0 hc1 hcl0 hla hla2 hat
      go_wp2_with fail
      refine HRa.mono ?_
      rintro e w' ⟨rfl, hwe⟩
      obtain rfl := hwe.symm
      clear hwe HRa
      go_wp2_with fail
      refine HRb.mono ?_
      rintro e w' ⟨rfl, hwe⟩
      obtain rfl := hwe.symm
      clear hwe HRb
      have hcv := HCv.out _ hb
      have HF := HFi.out wr hb row lo hi hard hR (cl : Int) (by omega)
      have HB : Hid (Below w2.heap.size w2 wr) := hb
      have HR2 : Hid ((rowsP rs W)[row]? = some ⟨lo, hi, hard⟩) := hR
      have HCl : Hid (∀ V, Below w2.heap.size w2 V → V.cell? ⟨g, off + row * 4, none⟩ = some (.int .i64 (lo : Int)) ∧ V.cell? ⟨g, off + row * 4 + 1, none⟩ = some (.int .i64 (hi : Int)) ∧ V.cell? ⟨g, off + row * 4 + 3, none⟩ = some (.bool hard)) := hcl
      clear hb hR hcl
      go_wp2_with fail
      refine HF.mono ?_
      rintro e w5 ⟨p, rfl, hfp, hb5⟩
      have hbw5 := HB.out.trans (hb5.mono HB.out.size)
      have hlast := hfp.last
      have hlph : lastP hi hard ≤ hi := by unfold lastP; split <;> omega
      have hst : Stands rs W p row lo hi hard := Stands.of HR2.out hfp.ge hfp.last
      have HSt : Hid (Stands rs W p row lo hi hard ∧ FindP rs lo hi hard (cl : Int) p) := ⟨hst, hfp⟩
      have hcv := HCv.out _ hbw5
      have HS := HSp.out w5 hbw5 p (by omega)
      have HB5 : Hid (Below w2.heap.size w2 w5) := hbw5
      have hge := hfp.ge
      clear HF hb5 hst hfp hbw5
      go_wp2_with fail
      refine HS.mono ?_
      rintro e w6 ⟨r', c', rfl, hsp, hb6⟩
      obtain ⟨lo', hi', hard', hst', hcw⟩ := hsp
      obtain rfl := HSt.out.1.unique hst'
      have hgg := hst'.get
      rw [HR2.out] at hgg
      simp only [Option.some.injEq, Rv.mk.injEq] at hgg
      obtain ⟨rfl, rfl, rfl⟩ := hgg
      have hbw6 := HB5.out.trans (hb6.mono HB5.out.size)
      obtain ⟨d0', d1', d3'⟩ := HCl.out w6 hbw6
      have hat2 := HSt.out.2.at_
      rw [← hcw] at hat2
      have x1 : decide ((c' : Int) > cl) = false := decide_eq_false (by omega)
      have x2 : decide (cl < c') = false := decide_eq_false (by omega)
      have HB6 : Hid (Below w.heap.size w w6) := HWk.out.trans (hbw6.mono HWk.out.size)
      have HB26 : Hid (Below w2.heap.size w2 w6) := hbw6
      obtain ⟨p1, hp1⟩ : ∃ p1, p + 1 = p1 := ⟨_, rfl⟩
      have y1 : IntKind.i64.wrap ((p : Int) + 1) = (p1 : Int) := by rw [IntWalk.i64_in _ (by omega)]; omega
      have hnx := HSt.out.2.next
      clear HS hb6 hst' hcw hcv hbw6 hat2
      by_cases hpl : p = lastP hi hard
      · cases hard with
        | true =>
          have hph : p = hi := hpl
          have b2 : ((p1 : Int) == (hi : Int)) = false := by rw [beq_eq_false_iff_ne]; omega
          have b3 : ((p : Int) == (hi : Int)) = true := by rw [beq_iff_eq]; omega
          by_cases hpm : p = m
          · have b1 : ((p : Int) == (m : Int)) = true := by rw [beq_iff_eq]; omega
            clear hpl hph hpm hp1 hnx hlast hlph
            go_wp2_with fail
            go_ret
            exact ⟨rfl, HB6.out⟩
          · have b1 : ((p : Int) == (m : Int)) = false := by rw [beq_eq_false_iff_ne]; omega
            clear hpl hph hpm hp1 hnx hlast hlph
            go_wp2_with fail
            go_ret
            exact ⟨rfl, HB6.out⟩
        | false =>
          have hph : p = hi - 1 := hpl
          have hsf := HSo.out rfl
          have b1 : ((p : Int) == (m : Int)) = false := by rw [beq_eq_false_iff_ne]; omega
          have b2 : ((p1 : Int) == (hi : Int)) = true := by rw [beq_iff_eq]; omega
          clear hpl hph hp1 hnx hlast hlph
          go_wp2_with fail
          go_ret
          exact ⟨rfl, HB6.out⟩
      · have hpl2 : p < lastP hi hard := by omega
        have hgt := hnx hpl2
        obtain ⟨a', cap', hcut, HCo⟩ := HCut.out w6 HB26.out lo p1 (by omega) (by omega)
        rw [hp1] at hgt
        have b1 : ((p : Int) == (m : Int)) = false := by rw [beq_eq_false_iff_ne]; omega
        have b3 : ((p : Int) == (hi : Int)) = false := by rw [beq_eq_false_iff_ne]; omega
        generalize wd rs lo p1 = cw at *
        have x3 : decide ((cw : Int) > cl) = true := decide_eq_true (by omega)
        have x4 : decide (cl < cw) = true := decide_eq_true (by omega)
        have HLp : Hid (hard = false → p + 1 ≠ hi) := fun e => by
          subst e
          have : lastP hi false = hi - 1 := rfl
          omega
        clear hpl hpl2 hnx hlast hlph hgt
        cases hard with
        | true =>
          by_cases hph : p1 = hi
          · have b2 : ((p1 : Int) == (hi : Int)) = true := by rw [beq_iff_eq]; omega
            clear hph hp1
            go_wp2_with fail
            refine HCo.mono ?_
            rintro e w7 ⟨rfl, hb7⟩
            have HB7 : Hid (Below w.heap.size w w7) := HB6.out.trans (hb7.mono HB6.out.size)
            clear HCo hb7
            go_wp2_with fail
            go_ret
            exact ⟨rfl, HB7.out⟩
          · have b2 : ((p1 : Int) == (hi : Int)) = false := by rw [beq_eq_false_iff_ne]; omega
            clear hph hp1
            go_wp2_with fail
            refine HCo.mono ?_
            rintro e w7 ⟨rfl, hb7⟩
            have HB7 : Hid (Below w.heap.size w w7) := HB6.out.trans (hb7.mono HB6.out.size)
            clear HCo hb7
            go_wp2_with fail
            go_ret
            exact ⟨rfl, HB7.out⟩
        | false =>
          have hn := HLp.out rfl
          have b2 : ((p1 : Int) == (hi : Int)) = false := by rw [beq_eq_false_iff_ne]; omega
          clear hn hp1
          go_wp2_with fail
          refine HCo.mono ?_
          rintro e w7 ⟨rfl, hb7⟩
          have HB7 : Hid (Below w.heap.size w w7) := HB6.out.trans (hb7.mono HB6.out.size)
          clear HCo hb7
          go_wp2_with fail
          go_ret
          exact ⟨rfl, HB7.out⟩
end Go.Proofs.YtaphkaodcdpcaaaDoor
