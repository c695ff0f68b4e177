import Derived.Test.YtohfckcikincoacSpBp
namespace Go.Proofs.Ytohfckcikincoac
open Go.RowKit Go.Lib
set_option maxRecDepth 100000

theorem bko1_length (at_ : Int) (r : Int × Int) : (bko1 at_ r).length ≤ 1 := by unfold bko1; split <;> simp
/-- Two rows of one's own that share no block. -/
def TwoR (w : World) (B : Nat) (v1 v2 : Value) (X Y : List (Int × Int)) : Prop :=
  ∃ o no co i ni ci, v1 = .slice o no co ∧ v2 = .slice i ni ci ∧ Own w B (.slice o no co) X ∧ Own w B (.slice i ni ci) Y ∧ Apart (.slice o no co) (.slice i ni ci)
set_option maxHeartbeats 8000000 in
theorem refBack_ok {w : World} {a : Option Addr} {m cap : Nat} {l : List (Int × Int)} (h : Rng w a m cap l) (hl : Lst l) (at_ n : Int) (hp : (0 ≤ at_ ∧ at_ ≤ 1048576) ∧ (0 ≤ n ∧ n ≤ 1048576) ∧ at_ + n ≤ 1048576) :
    Calls Try.prog 42 #[.slice a m cap, .int .i64 at_, .int .i64 n] w fun e w' => ∃ c U V, SpecB (backCode l at_ n) (backS l at_ n) (backT l at_ n) c U V ∧ ResB w e w' c U V := by
  have HA := refCheck_any h
  rw [hl.check] at HA
  have hln := h.len
  have hfew := hl.few
  have HL : Hid (Lst l) := hl
  have E0 : Hid (backCode l at_ n = 0) := by
    show backCode l at_ n = 0
    unfold backCode; rw [hl.check, if_pos rfl, if_pos hp]
  have HB : Hid (∀ r ∈ l, 0 ≤ r.1 ∧ r.1 < r.2 ∧ r.2 ≤ 1048576) := hl.nonneg
  have d1 : decide (at_ < 0) = false := decide_eq_false (by omega)
  have d2 : decide (n < 0) = false := decide_eq_false (by omega)
  have d3 : decide (1048576 < at_) = false := decide_eq_false (by omega)
  have d4 : decide (1048576 < n) = false := decide_eq_false (by omega)
  have d5 : decide (1048576 < at_ + n) = false := decide_eq_false (by omega)
  have u0 : IntKind.i64.wrap (at_ + n) = at_ + n := IntWalk.i64_in _ (by omega)
  have HPp : Hid ((0 ≤ at_ ∧ at_ ≤ 1048576) ∧ (0 ≤ n ∧ n ≤ 1048576) ∧ at_ + n ≤ 1048576) := hp
  clear hl hp
  go_enter Try.func42, Try.ntmps42
  go_wp2_with fail
  refine HA.mono ?_
  rintro e w1 ⟨rfl, hb1⟩
  clear HA
  go_wp2_with fail
  clear d1 d2 d3 d4 d5
  go_loopw [11, 12, 13] (fun v1 v2 vi w' => ∃ (j : Nat), j ≤ m ∧ vi = .int .i64 j ∧ TwoR w' w.heap.size v1 v2 ((l.take j).flatMap (bko at_ n)) ((l.take j).flatMap (bki at_ n)) ∧ Below w.heap.size w w') (fun _ _ i _ => m - (RowKit.intOf i).toNat)
  case atStart => exact ⟨0, Nat.zero_le _, rfl, ⟨none, 0, 0, none, 0, 0, rfl, rfl, own_nil _ _, own_nil _ _, fun g hg => by simp [Value.ownBlock] at hg⟩, hb1⟩
  case round =>
    obtain ⟨j, hjn, rfl, ⟨o, no, co, i, ni, ci, rfl, rfl, ho, hi, hap⟩, hb⟩ := hrel
    have hsz := hb.size
    have hlo := ho.rng.len
    have hli := hi.rng.len
    have hle := flat_len (bko_length at_ n) (l.take j)
    have hle' := flat_len (bki_length at_ n) (l.take j)
    rw [hlo] at hle
    rw [hli] at hle'
    have hle2 : no ≤ 2 * j := by rw [List.length_take] at hle; omega
    have hle3 : ni ≤ 2 * j := by rw [List.length_take] at hle'; omega
    have hpo : ((l.take j).flatMap (bko at_ n)).length ≤ 65536 := by omega
    have hpi : ((l.take j).flatMap (bki at_ n)).length ≤ 65536 := by omega
    clear hle hle'
    by_cases hj : j < m
    · obtain ⟨g, off, rfl, hg, hc, hd⟩ := h.cells j hj
      have hmem := HB.out _ (pget_mem (l := l) (i := j) (by omega))
      have HSO : Hid (_ = _) := flat_snoc (f := bko at_ n) l j (by omega)
      have HSI : Hid (_ = _) := flat_snoc (f := bki at_ n) l j (by omega)
      obtain ⟨x, y, hxy⟩ : ∃ x y, l.getD j (0, 0) = (x, y) := ⟨_, _, rfl⟩
      rw [hxy] at hc hd hmem HSO HSI
      simp only at hc hd hmem
      obtain ⟨m1, m2, m3⟩ := hmem
      obtain ⟨⟨p1, p2⟩, ⟨p3, p4⟩, p5⟩ := HPp.out
      have c0 := (hb.cell (p := ⟨g, off + j * 2, none⟩) hg).trans hc
      have c1 := (hb.cell (p := ⟨g, off + j * 2 + 1, none⟩) hg).trans hd
      have hmn : ∀ ats ty (w : World), (Builtin.min_ ats ty #[.int .i64 y, .int .i64 at_]).run Try.prog w = .ok (.int .i64 (min y at_)) w := fun ats ty w => min_run ats ty y at_ w
      have hmn2 : ∀ ats ty (w : World), (Builtin.min_ ats ty #[.int .i64 y, .int .i64 (at_ + n)]).run Try.prog w = .ok (.int .i64 (min y (at_ + n))) w := fun ats ty w => min_run ats ty y (at_ + n) w
      have hmx : ∀ ats ty (w : World), (Builtin.max_ ats ty #[.int .i64 x, .int .i64 at_]).run Try.prog w = .ok (.int .i64 (max x at_)) w := fun ats ty w => max_run ats ty x at_ w
      have hmx2 : ∀ ats ty (w : World), (Builtin.max_ ats ty #[.int .i64 x, .int .i64 (at_ + n)]).run Try.prog w = .ok (.int .i64 (max x (at_ + n))) w := fun ats ty w => max_run ats ty x (at_ + n) w
      have u1 : IntKind.i64.wrap (max x at_ - at_) = max x at_ - at_ := IntWalk.i64_in _ (by omega)
      have u2 : IntKind.i64.wrap (min y (at_ + n) - at_) = min y (at_ + n) - at_ := IntWalk.i64_in _ (by omega)
      have u3 : IntKind.i64.wrap (max x (at_ + n) - n) = max x (at_ + n) - n := IntWalk.i64_in _ (by omega)
      have u4 : IntKind.i64.wrap (y - n) = y - n := IntWalk.i64_in _ (by omega)
      clear hxy hc hd HPp HB HL E0
      go_upto_if 62 with fail
      go_cut [11, 12] (fun v1 v2 w' => TwoR w' w.heap.size v1 v2 ((l.take j).flatMap (bko at_ n) ++ bko1 at_ (x, y)) ((l.take j).flatMap (bki at_ n)) ∧ Below w.heap.size w w')
      case first =>
        by_cases hA : x < at_
        · obtain ⟨a1, cp1, w3, r1, o1, i1, ap1, b1⟩ := two_append ho hi hap hlo hsz x (min y at_) (by omega) 31
          have hb3 := hb.trans b1
          have HE : Hid (bko1 at_ (x, y) = [(x, min y at_)]) := if_pos hA
          go_wp2_with (at_builtin; refine wpList_append_hr rfl _ _ 31 rfl _ _ rfl rfl r1 ?_)
          all_goals try omega
          go_meet
          case rel => exact ⟨⟨a1, _, cp1, i, ni, ci, rfl, rfl, by rw [HE.out]; exact o1, i1, ap1⟩, hb3⟩
        · have HE : Hid (bko1 at_ (x, y) = []) := if_neg hA
          go_wp2_with fail
          all_goals try omega
          go_meet
          case rel => exact ⟨⟨o, no, co, i, ni, ci, rfl, rfl, by rw [HE.out, List.append_nil]; exact ho, hi, hap⟩, hb⟩
      case rest =>
        clear ho hi hap hb hsz c0 c1 hlo hli
        obtain ⟨⟨o, no, co, i, ni, ci, rfl, rfl, ho, hi, hap⟩, hb⟩ := hcut
        have hsz := hb.size
        have hlo := ho.rng.len
        have hli := hi.rng.len
        have hno : no ≤ 65537 := by have := bko1_length at_ (x, y); rw [List.length_append] at hlo; omega
        go_upto_region 15 with fail
        go_cut [80] (fun b w' => b = .bool (decide (at_ < y ∧ x < at_ + n)) ∧ w' = wc)
        case first =>
          by_cases hI1 : at_ < y
          · by_cases hI2 : x < at_ + n
            · have e1 : decide (at_ < y) = true := decide_eq_true hI1
              have e2 : decide (x < at_ + n) = true := decide_eq_true hI2
              have HE : Hid (decide (at_ < y ∧ x < at_ + n) = true) := decide_eq_true ⟨hI1, hI2⟩
              clear hI1 hI2
              go_wp2_with fail
              go_meet
              case rel => exact ⟨by rw [HE.out], rfl⟩
            · have e1 : decide (at_ < y) = true := decide_eq_true hI1
              have e2 : decide (x < at_ + n) = false := decide_eq_false hI2
              have HE : Hid (decide (at_ < y ∧ x < at_ + n) = false) := decide_eq_false (fun hh => hI2 hh.2)
              clear hI1 hI2
              go_wp2_with fail
              go_meet
              case rel => exact ⟨by rw [HE.out], rfl⟩
          · have e1 : decide (at_ < y) = false := decide_eq_false hI1
            have HE : Hid (decide (at_ < y ∧ x < at_ + n) = false) := decide_eq_false (fun hh => hI1 hh.1)
            clear hI1
            go_wp2_with fail
            go_meet
            case rel => exact ⟨by rw [HE.out], rfl⟩
        case rest =>
          obtain ⟨rfl, rfl⟩ := hcut
          go_upto_if 80 with fail
          go_cut [11, 12] (fun v1 v2 w' => TwoR w' w.heap.size v1 v2 ((l.take j).flatMap (bko at_ n) ++ bko1 at_ (x, y)) ((l.take j).flatMap (bki at_ n) ++ bki at_ n (x, y)) ∧ Below w.heap.size w w')
          case first =>
            by_cases hI : at_ < y ∧ x < at_ + n
            · obtain ⟨a1, cp1, w3, r1, o1, i1, ap1, b1⟩ := two_append hi ho hap.symm hli hsz (max x at_ - at_) (min y (at_ + n) - at_) (by omega) 31
              have hb3 := hb.trans b1
              have HE : Hid (bki at_ n (x, y) = [(max x at_ - at_, min y (at_ + n) - at_)]) := if_pos hI
              have HD : Hid (decide (at_ < y ∧ x < at_ + n) = true) := decide_eq_true hI
              rw [HD.out]
              clear hI
              go_wp2_with (at_builtin; refine wpList_append_hr rfl _ _ 31 rfl _ _ rfl rfl r1 ?_)
              go_meet
              case rel => exact ⟨⟨o, no, co, a1, _, cp1, rfl, rfl, i1, by rw [HE.out]; exact o1, ap1.symm⟩, hb3⟩
            · have HE : Hid (bki at_ n (x, y) = []) := if_neg hI
              have HD : Hid (decide (at_ < y ∧ x < at_ + n) = false) := decide_eq_false hI
              rw [HD.out]
              clear hI
              go_wp2_with fail
              go_meet
              case rel => exact ⟨⟨o, no, co, i, ni, ci, rfl, rfl, ho, by rw [HE.out, List.append_nil]; exact hi, hap⟩, hb⟩
          case rest =>
            clear ho hi hap hb hsz hlo hli hno
            obtain ⟨⟨o, no, co, i, ni, ci, rfl, rfl, ho, hi, hap⟩, hb⟩ := hcut
            have hsz := hb.size
            have hlo := ho.rng.len
            have hno : no ≤ 65537 := by have := bko1_length at_ (x, y); rw [List.length_append] at hlo; omega
            by_cases hC : at_ + n < y
            · obtain ⟨a1, cp1, w3, r1, o1, i1, ap1, b1⟩ := two_append ho hi hap hlo hsz (max x (at_ + n) - n) (y - n) (by omega) 31
              have hb3 := hb.trans b1
              have HE : Hid (bko at_ n (x, y) = bko1 at_ (x, y) ++ [(max x (at_ + n) - n, y - n)]) := by
                show bko at_ n (x, y) = _
                unfold bko bko2
                rw [if_pos hC]
              go_wp2_with (at_builtin; refine wpList_append_hr rfl _ _ 31 rfl _ _ rfl rfl r1 ?_)
              all_goals try omega
              go_roundw
              case rel => exact ⟨j + 1, by omega, by go_num, ⟨a1, _, cp1, i, ni, ci, rfl, rfl, by rw [HSO.out, HE.out, ← List.append_assoc]; exact o1, by rw [HSI.out]; exact i1, ap1⟩, hb3⟩
              case measure => simp [RowKit.intOf]; omega
            · have HE : Hid (bko at_ n (x, y) = bko1 at_ (x, y)) := by
                show bko at_ n (x, y) = _
                unfold bko bko2
                rw [if_neg hC, List.append_nil]
              go_wp2_with fail
              all_goals try omega
              go_roundw
              case rel => exact ⟨j + 1, by omega, by go_num, ⟨o, no, co, i, ni, ci, rfl, rfl, by rw [HSO.out, HE.out]; exact ho, by rw [HSI.out]; exact hi, hap⟩, hb⟩
              case measure => simp [RowKit.intOf]; omega
    · obtain rfl : j = m := by omega
      have e1 : l.take j = l := by rw [← hln]; exact List.take_length
      rw [e1] at ho hi
      have P1 := places_any ho.rng (by omega) (show Hid _ from bko_good HL.out HPp.out.1 HPp.out.2.1)
      have HP2 : Hid (∀ W, Below w.heap.size wr W → True) := fun _ _ => trivial
      have HG2 : Hid (∀ p ∈ l.flatMap (bki at_ n), 0 ≤ p.1 ∧ p.1 ≤ p.2 ∧ p.2 ≤ 1048576) := bki_good HL.out HPp.out.1 HPp.out.2.1
      clear HB HP2 e1 hap
      go_wp2_with fail
      refine P1.mono ?_
      rintro e w2 ⟨o2, no2, co2, L, rfl, ho2, hb2, HPL⟩
      have hB2 := hb.trans (hb2.mono hsz)
      have P2 := places_any (hi.below hb2).rng (by omega) HG2
      clear P1 HG2
      go_wp2_with fail
      refine P2.mono ?_
      rintro e w3 ⟨o3, no3, co3, L3, rfl, ho3, hb3, HPL3⟩
      have hB3 := hB2.trans (hb3.mono hB2.size)
      clear P2
      have ho2' := (ho2.below hb3).mono hsz
      have ho3' := ho3.mono hB2.size
      go_wp2_with fail
      go_ret3
      exact ⟨0, L, L3, .inr ⟨E0.out, rfl, HPL.out.1, fun q => (HPL.out.2.2.1 q).trans bkoL_lies, HPL3.out.1, fun q => (HPL3.out.2.2.1 q).trans bkiL_lies⟩, o2, no2, co2, o3, no3, co3, rfl, ho2', ho3', hB3⟩
end Go.Proofs.Ytohfckcikincoac
