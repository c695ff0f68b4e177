import Derived.Test.YtfnpmncmceocdaaDoorPgN5
import Derived.Deep.Cut
import Derived.Deep.DeepCutAuto
import Derived.Deep.CutBlock
/-! PageShows. -/
namespace Go.Proofs.YtfnpmncmceocdaaDoor
open Go.RowKit Go.Lib Go.Shelf
set_option maxRecDepth 100000

set_option maxHeartbeats 64000000 in
theorem pageShows_any {w : World} {a : Option Addr} {n cap : Nat} {l : List Int} (h : Rw int1 1 w a n cap l) (wide high place old : Int) (hP : PTab w) (hG : Glob w.heap.size) :
    Calls Tryd.prog 3 #[.slice a n cap, .int .i64 wide, .int .i64 high, .int .i64 place, .int .i64 old] w fun e w' => e = .returned (.bool true) ∧ Below w.heap.size w w' := by
  have HMa := made_any h
  have HT : Hid (PTab w ∧ Glob w.heap.size) := ⟨hP, hG⟩
  have hok := madeR_ok l
  have hno := made_nobar l
  have hml := madeR_len l
  have HRe : Hid (∀ (x m : Int) V, 0 < m → m ≤ 1099511627776 → Calls Tryd.prog 5 #[.int .i64 x, .int .i64 m] V fun e w' => e = .returned (.int .i64 (x % m)) ∧ w' = V) := fun x m V h1 h2 => rest_any x m h1 h2 V
  have hw0 : 0 ≤ wide % 40 := Int.emod_nonneg _ (by decide)
  have hw1 : wide % 40 < 40 := Int.emod_lt_of_pos _ (by decide)
  have hh0 : 0 ≤ high % 12 := Int.emod_nonneg _ (by decide)
  have hh1 : high % 12 < 12 := Int.emod_lt_of_pos _ (by decide)
  obtain ⟨W, hW⟩ : ∃ W : Nat, 1 + wide % 40 = (W : Int) := ⟨(1 + wide % 40).toNat, by omega⟩
  obtain ⟨H, hH⟩ : ∃ H : Nat, 1 + high % 12 = (H : Int) := ⟨(1 + high % 12).toNat, by omega⟩
  have hWb : 1 ≤ W ∧ W ≤ 40 := by omega
  have hHb : 1 ≤ H ∧ H ≤ 12 := by omega
  have HR1 : Hid (∀ V, Calls Tryd.prog 5 #[.int .i64 wide, .int .i64 40] V fun e w' => e = .returned (.int .i64 (wide % 40)) ∧ w' = V) := fun V => rest_any wide 40 (by decide) (by decide) V
  have HR2 : Hid (∀ V, Calls Tryd.prog 5 #[.int .i64 high, .int .i64 12] V fun e w' => e = .returned (.int .i64 (high % 12)) ∧ w' = V) := fun V => rest_any high 12 (by decide) (by decide) V
  generalize wide % 40 = wi at *
  generalize high % 12 = hj at *
  generalize madeR l = rs at *
  clear h hP hG
  go_enter Tryd.func3, Tryd.ntmps3
  go_wp2_with fail
  refine HMa.mono ?_
  rintro e w1 ⟨v, rfl, ho1, hb1⟩
  obtain ⟨sa, caps, ev⟩ := ho1.shape
  obtain ⟨m, hm⟩ : ∃ m, rs.length = m := ⟨_, rfl⟩
  rw [hm] at ev hml
  subst ev
  have hR1 := ho1.rw_ layRu
  have HLd := laid_any hR1 hok (by omega) W ⟨by omega, by omega⟩ (HT.out.1.below hb1) (HT.out.2.mono hb1.size)
  have HB1 : Hid (Below w.heap.size w w1) := hb1
  clear HMa ho1 hb1
  go_wp2_with fail
  refine (HR1.out _).mono ?_
  rintro e w' ⟨rfl, hwe⟩
  obtain rfl := hwe.symm
  clear hwe HR1
  have hWw : IntKind.i64.wrap (1 + wi) = (W : Int) := by rw [hW]; exact IntWalk.i64_in _ (by omega)
  go_wp2_with fail
  refine (HR2.out _).mono ?_
  rintro e w' ⟨rfl, hwe⟩
  obtain rfl := hwe.symm
  clear hwe HR2
  have hHw : IntKind.i64.wrap (1 + hj) = (H : Int) := by rw [hH]; exact IntWalk.i64_in _ (by omega)
  go_wp2_with fail
  refine HLd.mono ?_
  rintro e w2 ⟨v2, rfl, ho2, hb2⟩
  obtain ⟨al, capl, ev⟩ := ho2.shape
  obtain ⟨k, hk⟩ : ∃ k, (rowsP rs W).length = k := ⟨_, rfl⟩
  rw [rowsL_len, hk] at ev
  subst ev
  have hR2 := ho2.rw_ layL4
  have hfw := rowsP_few rs W
  have hne : (rowsP rs W).length ≠ 0 := fun e => rowsP_ne rs W (List.length_eq_zero_iff.1 e)
  rw [hk] at hfw hne
  rw [hm] at hfw
  have HB2 : Hid (Below w1.heap.size w1 w2) := hb2
  have HM : Hid (rs.length = m ∧ (rowsP rs W).length = k ∧ m ≤ 200) := ⟨hm, hk, hml⟩
  obtain ⟨S, hS⟩ : ∃ S, strOf rs = S := ⟨_, rfl⟩
  have HTx : Hid (IsText S rs) := by rw [← hS]; exact strOf_text hok
  have hWW : 1 ≤ W ∧ W ≤ 1024 := by omega
  have hHH : 1 ≤ H ∧ H ≤ 1024 := by omega
  have hrl : rs.length ≤ 4294967000 := by omega
  obtain ⟨g, off, x, eal, hg, -, -⟩ := hR2.at 0 (by omega)
  subst eal
  have HCv : Hid (∀ V, Below w2.heap.size w2 V → (convert 23 9 (.slice sa m caps)).run Tryd.prog V = .ok (.string S) V) := fun V hV => by rw [← hS]; exact conv_rw (hR1.below (HB2.out.trans (hV.mono HB2.out.size)))
  have HTb : Hid (∀ V, Below w2.heap.size w2 V → PTab V ∧ Glob V.heap.size) := fun V hV => ⟨(HT.out.1.below HB1.out).below (HB2.out.trans (hV.mono HB2.out.size)), HT.out.2.mono (by have := HB1.out.size; have := HB2.out.size; have := hV.size; omega)⟩
  have HCut : Hid (∀ V, Below w2.heap.size w2 V → ∀ i j, i ≤ j → j ≤ m → ∃ a' cap', (∀ W : World, (Instr.slice 23 (.slice sa m caps) (some (.int .i64 (i : Int))) (some (.int .i64 (j : Int))) none).run Tryd.prog W = .ok (.slice a' (j - i) cap') W) ∧ Calls Tryd.prog 12 #[.slice a' (j - i) cap'] V fun e w' => e = .returned (.int .i64 ((wd rs i j : Nat) : Int)) ∧ Below V.heap.size V w') := fun V hV i j hij hj => by
    obtain ⟨a', cap', h1, h2⟩ := cut_runes (hR1.below (HB2.out.trans (hV.mono HB2.out.size))) i j hij hj
    exact ⟨a', cap', h1, cols_any h2 (by omega) (HTb.out V hV).1⟩
  have HRs : Hid (∀ K x, rs[K]? = some x → ∃ gs os, sa = some ⟨gs, os, none⟩ ∧ ∀ V, Below w2.heap.size w2 V → V.cell? ⟨gs, os + K, none⟩ = some (.int .i32 x)) := fun K x hx => by
    obtain ⟨gs, os, x', ea, hgs, hx', hc⟩ := hR1.at K (by rw [← hm]; exact (List.getElem?_eq_some_iff.1 hx).1)
    rw [hx] at hx'
    obtain rfl := Option.some.inj hx'
    refine ⟨gs, os, ea, fun V hV => ?_⟩
    have h1 := ((HB2.out.trans (hV.mono HB2.out.size)).cell (p := ⟨gs, os + K * 1, none⟩) hgs).trans (hc 0 _ rfl)
    rw [Nat.mul_one] at h1
    exact h1
  have HRw : Hid (Rw l4V 4 w2 (some ⟨g, off, none⟩) k capl (rowsL rs W)) := hR2
  have HOk : Hid ((∀ r ∈ rs, okR r) ∧ (124 : Int) ∉ rs) := ⟨hok, hno⟩
  have HSp : Hid (∀ V, Below w2.heap.size w2 V → ∀ at', at' ≤ m → Calls Tryd.prog 7 #[.string S, .int .i64 (W : Int), .int .i64 (at' : Int)] V fun e w' => ∃ r c : Nat, e = .returned (.tuple #[.int .i64 (r : Int), .int .i64 (c : Int), .int .i64 0]) ∧ SpotP rs W at' r c ∧ Below V.heap.size V w') := fun V hV at' ha => Spot_ok HTx.out W hWW hrl (HTb.out V hV).1 (HTb.out V hV).2 at' (by rw [HM.out.1]; exact ha)
  have HTo : Hid (∀ V, Below w2.heap.size w2 V → ∀ (od at' : Nat), od ≤ 1000 → at' ≤ m → Calls Tryd.prog 8 #[.string S, .int .i64 (W : Int), .int .i64 (H : Int), .int .i64 (od : Int), .int .i64 (at' : Int)] V fun e w' => ∃ q : Int, e = .returned (.tuple #[.int .i64 q, .int .i64 0]) ∧ TopP rs W at' od H q ∧ Below V.heap.size V w') := fun V hV od at' ho ha => Top_ok HTx.out W H hWW hHH hrl (HTb.out V hV).1 (HTb.out V hV).2 (od : Int) (by omega) at' (by rw [HM.out.1]; exact ha)
  have HSh : Hid (∀ V, Below w2.heap.size w2 V → ∀ (top : Nat) (car : Int) (n : Nat), top < k → n = min H (k - top) → (car = -1 ∨ ∃ at' : Nat, at' ≤ m ∧ car = at') → Calls Tryd.prog 9 #[.string S, .int .i64 (W : Int), .int .i64 (H : Int), .int .i64 (top : Int), .int .i64 car] V fun e w' => ∃ g o cap, e = .returned (.tuple #[.slice (some ⟨g, o, none⟩) n cap, .int .i64 0]) ∧ Rw str1 1 w' (some ⟨g, o, none⟩) n cap (shownL rs W H top car) ∧ Below V.heap.size V w') := fun V hV top car n h1 h2 h3 => by
    have hc := Show_ok HTx.out W H hWW hHH hrl (HTb.out V hV).1 (HTb.out V hV).2 top (by rw [HM.out.2.1]; exact h1) car (by rw [HM.out.1]; exact h3)
    have hl := shownL_len rs W H top car
    rw [HM.out.2.1, ← h2] at hl
    rw [hl] at hc
    refine hc.mono ?_
    rintro e w' ⟨a, cap, rfl, hrw, hb⟩
    obtain ⟨g, o, x, rfl, -, -, -⟩ := hrw.at 0 (by omega)
    exact ⟨g, o, cap, rfl, hrw, hb⟩
  obtain ⟨at', hat⟩ : ∃ at' : Nat, place % ((m : Int) + 1) = (at' : Int) := ⟨(place % ((m : Int) + 1)).toNat, by have := Int.emod_nonneg place (show ((m : Int) + 1) ≠ 0 by omega); omega⟩
  have hatm : at' ≤ m := by have := Int.emod_lt_of_pos place (show (0 : Int) < (m : Int) + 1 by omega); omega
  obtain ⟨od, hod⟩ : ∃ od : Nat, old % (2 * (k : Int)) = (od : Int) := ⟨(old % (2 * (k : Int))).toNat, by have := Int.emod_nonneg old (show (2 * (k : Int)) ≠ 0 by omega); omega⟩
  have hodm : od ≤ 1000 := by have := Int.emod_lt_of_pos old (show (0 : Int) < 2 * (k : Int) by omega); omega
  have HR3 : Hid (∀ V, Calls Tryd.prog 5 #[.int .i64 place, .int .i64 ((m : Int) + 1)] V fun e w' => e = .returned (.int .i64 (at' : Int)) ∧ w' = V) := fun V => by
    have := rest_any place ((m : Int) + 1) (by omega) (by omega) V
    rw [hat] at this
    exact this
  have HR4 : Hid (∀ V, Calls Tryd.prog 5 #[.int .i64 old, .int .i64 (2 * (k : Int))] V fun e w' => e = .returned (.int .i64 (od : Int)) ∧ w' = V) := fun V => by
    have := rest_any old (2 * (k : Int)) (by omega) (by omega) V
    rw [hod] at this
    exact this
  clear HLd ho2 hb2 hok hno hm hW hH hk hR1 hR2 hS hWW hHH hrl hat hod HRe hw0 hw1 hh0 hh1 hg
  have y1 : IntKind.i64.wrap ((m : Int) + 1) = (m : Int) + 1 := IntWalk.i64_in _ (by omega)
  go_wp2_with fail
  refine (HR3.out _).mono ?_
  rintro e w' ⟨rfl, hwe⟩
  obtain rfl := hwe.symm
  clear hwe HR3
  go_wp2_with fail
  refine (HR4.out _).mono ?_
  rintro e w' ⟨rfl, hwe⟩
  obtain rfl := hwe.symm
  clear hwe HR4
  have hcv := HCv.out w2 (Below.refl _ _)
  go_wp2_with fail
  refine (HSp.out w2 (Below.refl _ _) at' hatm).mono ?_
  rintro e w3 ⟨r, c, rfl, hsp, hb3⟩
  have HB3 : Hid (Below w2.heap.size w2 w3) := hb3
  clear hcv
  have hcv := HCv.out w3 hb3
  clear hb3
  go_wp2_with fail
  refine (HTo.out w3 HB3.out od at' hodm hatm).mono ?_
  rintro e w4 ⟨q, rfl, htp, hb4⟩
  have HB4 : Hid (Below w2.heap.size w2 w4) := HB3.out.trans (hb4.mono HB3.out.size)
  obtain ⟨lo0, hi0, hard0, hst, -⟩ := hsp
  obtain ⟨r', lo1, hi1, hard1, hst', rfl⟩ := htp
  obtain rfl := Stands.unique hst' hst
  obtain ⟨tp, d, htr, htd, hdH, h3⟩ := topR_is r' od H hHb.1
  rw [htr]
  have hrk : r' < k := by rw [← HM.out.2.1]; exact (List.getElem?_eq_some_iff.1 hst.get).1
  have HSt : Hid (Stands rs W at' r' lo0 hi0 hard0) := hst
  have H3 : Hid ((od ≤ r' ∧ r' < od + H ∧ tp = od) ∨ (r' < od ∧ tp = r') ∨ (od + H ≤ r' ∧ d + 1 = H)) := h3
  have z1 : decide ((tp : Int) < 0) = false := decide_eq_false (by omega)
  have z2 : decide ((r' : Int) < (tp : Int)) = false := decide_eq_false (by omega)
  have z2' : decide (r' < tp) = false := decide_eq_false (by omega)
  have y3 : IntKind.i64.wrap ((r' : Int) - (tp : Int)) = (d : Int) := by rw [IntWalk.i64_in _ (by omega)]; omega
  have y4 : (r' : Int) - (tp : Int) = (d : Int) := by omega
  have z3 : decide ((d : Int) ≥ (H : Int)) = false := decide_eq_false (by omega)
  have z3' : decide ((H : Int) ≤ (d : Int)) = false := decide_eq_false (by omega)
  have z3'' : decide (H ≤ d) = false := decide_eq_false (by omega)
  clear hcv hb4 hst hst' htr h3 y1
  go_upto_region 13 with fail
  rename_i K8 hK8 K9 hK9
  obtain ⟨b, hb⟩ : ∃ b, decide (od ≤ r' ∧ r' < od + H) = b := ⟨_, rfl⟩
  have HB : Hid (decide (od ≤ r' ∧ r' < od + H) = b) := hb
  clear hb
  go_cut [108] (fun v108 wx => v108 = .bool b ∧ wx = w4)
  case first =>
    clear HSp HTo HSh HCv HTb HCut HRs HRw HOk HTx HM HT HB1 HB2 HB3 HB4 HSt
    by_cases h1 : od ≤ r'
    · have a1 : decide ((od : Int) ≤ (r' : Int)) = true := decide_eq_true (by omega)
      have a1' : decide (od ≤ r') = true := decide_eq_true h1
      have y5 : IntKind.i64.wrap ((r' : Int) - (od : Int)) = (r' : Int) - (od : Int) := IntWalk.i64_in _ (by omega)
      by_cases h2 : r' < od + H
      · have a2 : decide ((r' : Int) - (od : Int) < (H : Int)) = true := decide_eq_true (by omega)
        obtain rfl : b = true := by rw [← HB.out]; exact decide_eq_true ⟨h1, h2⟩
        go_wp2_with fail
        go_meet
        exact ⟨rfl, rfl⟩
      · have a2 : decide ((r' : Int) - (od : Int) < (H : Int)) = false := decide_eq_false (by omega)
        obtain rfl : b = false := by rw [← HB.out]; exact decide_eq_false (fun h => h2 h.2)
        go_wp2_with fail
        go_meet
        exact ⟨rfl, rfl⟩
    · have a1 : decide ((od : Int) ≤ (r' : Int)) = false := decide_eq_false (by omega)
      have a1' : decide (od ≤ r') = false := decide_eq_false h1
      obtain rfl : b = false := by rw [← HB.out]; exact decide_eq_false (fun h => h1 h.1)
      go_wp2_with fail
      go_meet
      exact ⟨rfl, rfl⟩
  case rest =>
   obtain ⟨rfl, hwc⟩ := hcut
   obtain rfl := hwc.symm
   clear hwc
   go_upto_if 108 with fail
   go_cut [] (fun wx => wx = w4)
   case first =>
    clear HSp HTo HSh HCv HTb HCut HRs HRw HOk HTx HM HT HB1 HB2 HB3 HB4 HSt
    cases b with
    | true =>
      obtain ⟨h1, h2⟩ := of_decide_eq_true HB.out
      obtain rfl : tp = od := by have := H3.out; omega
      go_wp2_with fail
      go_meet
      rfl
    | false =>
      have h1 := of_decide_eq_false HB.out
      have y6 : IntKind.i64.wrap ((H : Int) - 1) = (H : Int) - 1 := IntWalk.i64_in _ (by omega)
      by_cases h4 : r' = tp
      · obtain rfl := h4
        go_wp2_with fail
        go_meet
        rfl
      · have a3 : ((r' : Int) == (tp : Int)) = false := beq_eq_false_iff_ne.2 (by omega)
        have y7 : (H : Int) - 1 = (d : Int) := by have := H3.out; omega
        go_wp2_with fail
        go_meet
        rfl
   case rest =>
    obtain rfl := hcut.symm
    refine hK8 _ _ ?_
    exact shows_mid (hard0 := hard0) (HB1.out.trans (HB2.out.mono HB1.out.size)) HB4 htd hrk (by have := HM.out.2.2; omega) hHb hatm HM HOk HSt HRw HCv HTb HSh HCut HRs
end Go.Proofs.YtfnpmncmceocdaaDoor
