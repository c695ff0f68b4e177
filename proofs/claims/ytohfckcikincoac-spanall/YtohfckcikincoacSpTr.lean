import Derived.Test.YtohfckcikincoacSpTp
namespace Go.Proofs.Ytohfckcikincoac
open Go.RowKit Go.Lib
set_option maxRecDepth 100000

set_option maxHeartbeats 8000000 in
theorem refThrough_ok {w : World} {a : Option Addr} {m cap : Nat} {l : List (Int × Int)} (h : Rng w a m cap l) (hl : Lst l) (at_ n : Int) (hp : (0 ≤ at_ ∧ at_ ≤ 1048576) ∧ 0 ≤ n ∧ n ≤ 1048576) :
    Calls Try.prog 40 #[.slice a m cap, .int .i64 at_, .int .i64 n] w fun e w' => ∃ c U, SpecS (throughCode l at_ n) (throughS l at_ n) c U ∧ Res w e w' c U := by
  have HA := refCheck_any h
  rw [hl.check] at HA
  have hln := h.len
  have hfew := hl.few
  have HL : Hid (Lst l) := hl
  have EC : Hid (passes l at_ n → throughCode l at_ n = 24) := fun hg => by unfold throughCode; rw [hl.check, if_pos rfl, if_pos hp, if_pos hg]
  have E0 : Hid (¬ passes l at_ n → throughCode l at_ n = 0) := fun hg => by unfold throughCode; rw [hl.check, if_pos rfl, if_pos hp, if_neg hg]
  have HB : Hid (∀ r ∈ l, 0 ≤ r.1 ∧ r.1 < r.2 ∧ r.2 ≤ 1048576) := hl.nonneg
  have d1 : decide (at_ < 0) = false := decide_eq_false (by omega)
  have d2 : decide (n < 0) = false := decide_eq_false (by omega)
  have d3 : decide (1048576 < at_) = false := decide_eq_false (by omega)
  have d4 : decide (1048576 < n) = false := decide_eq_false (by omega)
  have HPp : Hid ((0 ≤ at_ ∧ at_ ≤ 1048576) ∧ 0 ≤ n ∧ n ≤ 1048576) := hp
  clear hl hp
  go_enter Try.func40, Try.ntmps40
  go_wp2_with fail
  refine HA.mono ?_
  rintro e w1 ⟨rfl, hb1⟩
  clear HA
  go_wp2_with fail
  clear d1 d2 d3 d4
  go_loopw [10, 11] (fun v vi w' => ∃ (j : Nat) (o : Option Addr) (no co : Nat), j ≤ m ∧ vi = .int .i64 j ∧ v = .slice o no co ∧ Own w' w.heap.size (.slice o no co) ((l.take j).flatMap (thr at_ n)) ∧ Below w.heap.size w w' ∧ Hid (∀ r ∈ l.take j, ¬ (at_ < r.2 ∧ 1048576 < r.2 + n))) (fun _ i _ => m - (RowKit.intOf i).toNat)
  case atStart => exact ⟨0, none, 0, 0, Nat.zero_le _, rfl, rfl, own_nil _ _, hb1, fun r hr => by simp at hr⟩
  case round =>
    obtain ⟨j, o, no, co, hjn, rfl, rfl, ho, hb, HN⟩ := hrel
    have hsz := hb.size
    have hlo := ho.rng.len
    have hle := flat_len (thr_length at_ n) (l.take j)
    rw [hlo] at hle
    have hle2 : no ≤ 2 * j := by rw [List.length_take] at hle; omega
    clear hle hlo
    by_cases hj : j < m
    · obtain ⟨g, off, rfl, hg, hc, hd⟩ := h.cells j hj
      have hmem := HB.out _ (pget_mem (l := l) (i := j) (by omega))
      have hsn := flat_snoc (f := thr at_ n) l j (by omega)
      have htk : l.take (j + 1) = l.take j ++ [l.getD j (0, 0)] := take_snocP l j (by omega)
      have HTK : Hid (l.take (j + 1) = l.take j ++ [l.getD j (0, 0)]) := htk
      clear htk
      have HMM : Hid (l.getD j (0, 0) ∈ l) := pget_mem (by omega)
      obtain ⟨x, y, hxy⟩ : ∃ x y, l.getD j (0, 0) = (x, y) := ⟨_, _, rfl⟩
      rw [hxy] at hc hd hmem hsn HTK HMM
      simp only at hc hd hmem
      obtain ⟨m1, m2, m3⟩ := hmem
      obtain ⟨⟨p1, p2⟩, p3, p4⟩ := HPp.out
      have c0 := (hb.cell (p := ⟨g, off + j * 2, none⟩) hg).trans hc
      have c1 := (hb.cell (p := ⟨g, off + j * 2 + 1, none⟩) hg).trans hd
      have hmn : ∀ ats ty (w : World), (Builtin.min_ ats ty #[.int .i64 y, .int .i64 at_]).run Try.prog w = .ok (.int .i64 (min y at_)) w := fun ats ty w => min_run ats ty y at_ w
      have hmx : ∀ ats ty (w : World), (Builtin.max_ ats ty #[.int .i64 x, .int .i64 at_]).run Try.prog w = .ok (.int .i64 (max x at_)) w := fun ats ty w => max_run ats ty x at_ w
      have u1 : IntKind.i64.wrap (y + n) = y + n := IntWalk.i64_in _ (by omega)
      have u2 : IntKind.i64.wrap (max x at_ + n) = max x at_ + n := IntWalk.i64_in _ (by omega)
      clear hxy hc hd HPp HB
      by_cases hA : x < at_
      · obtain ⟨a1, cp1, w3, r1, o1, b1, _, _⟩ := append_one ho hsz x (min y at_) (by omega) 31
        have hb3 := hb.trans b1
        by_cases hB : at_ < y
        · by_cases hG : 1048576 < y + n
          · have HPS : Hid (passes l at_ n) := ⟨_, HMM.out, hB, hG⟩
            clear HN HL E0 HTK HMM hsn
            go_wp2_with (at_builtin; refine wpList_append_hr rfl _ _ 31 rfl _ _ rfl rfl r1 ?_)
            all_goals try omega
            go_ret2
            exact ⟨24, [], .inl ⟨by rw [EC.out HPS.out]; decide, (EC.out HPS.out).symm, rfl⟩, Res.nil hb3⟩
          · obtain ⟨a2, cp2, w4, r2, o2, b2, _, _⟩ := append_one o1 hb3.size (max x at_ + n) (y + n) (by omega) 31
            have hb4 := hb3.trans b2
            have ee : ((l.take j).flatMap (thr at_ n) ++ [(x, min y at_)]) ++ [(max x at_ + n, y + n)] = (l.take (j + 1)).flatMap (thr at_ n) := by
              rw [hsn, List.append_assoc]
              unfold thr
              rw [if_pos (show (x, y).1 < at_ from hA), if_pos (show at_ < (x, y).2 from hB)]
            have HN2 : Hid (∀ r ∈ l.take (j + 1), ¬ (at_ < r.2 ∧ 1048576 < r.2 + n)) := fun r hr => by
              rw [HTK.out] at hr
              rcases List.mem_append.1 hr with hr | hr
              · exact HN.out r hr
              · simp only [List.mem_singleton] at hr
                subst hr
                simp only
                omega
            rw [ee] at o2
            clear HN HL E0 EC HTK HMM hsn ee
            go_wp2_with (at_builtin; first | refine wpList_append_hr rfl _ _ 31 rfl _ _ rfl rfl r1 ?_ | refine wpList_append_hr rfl _ _ 31 rfl _ _ rfl rfl r2 ?_)
            all_goals try omega
            go_roundw
            case rel => exact ⟨j + 1, a2, _, cp2, by omega, by go_num, rfl, o2, hb4, HN2⟩
            case measure => simp [RowKit.intOf]; omega
        · have ee : (l.take j).flatMap (thr at_ n) ++ [(x, min y at_)] = (l.take (j + 1)).flatMap (thr at_ n) := by
            rw [hsn]
            unfold thr
            rw [if_pos (show (x, y).1 < at_ from hA), if_neg (show ¬ at_ < (x, y).2 from hB), List.append_nil]
          have HN2 : Hid (∀ r ∈ l.take (j + 1), ¬ (at_ < r.2 ∧ 1048576 < r.2 + n)) := fun r hr => by
            rw [HTK.out] at hr
            rcases List.mem_append.1 hr with hr | hr
            · exact HN.out r hr
            · simp only [List.mem_singleton] at hr
              subst hr
              simp only
              omega
          rw [ee] at o1
          clear HN HL E0 EC HTK HMM hsn ee
          go_wp2_with (at_builtin; refine wpList_append_hr rfl _ _ 31 rfl _ _ rfl rfl r1 ?_)
          all_goals try omega
          go_roundw
          case rel => exact ⟨j + 1, a1, _, cp1, by omega, by go_num, rfl, o1, hb3, HN2⟩
          case measure => simp [RowKit.intOf]; omega
      · have hB : at_ < y := by omega
        by_cases hG : 1048576 < y + n
        · have HPS : Hid (passes l at_ n) := ⟨_, HMM.out, hB, hG⟩
          clear HN HL E0 HTK HMM hsn
          go_wp2_with fail
          all_goals try omega
          go_ret2
          exact ⟨24, [], .inl ⟨by rw [EC.out HPS.out]; decide, (EC.out HPS.out).symm, rfl⟩, Res.nil hb⟩
        · obtain ⟨a2, cp2, w4, r2, o2, b2, _, _⟩ := append_one ho hsz (max x at_ + n) (y + n) (by omega) 31
          have hb4 := hb.trans b2
          have ee : (l.take j).flatMap (thr at_ n) ++ [(max x at_ + n, y + n)] = (l.take (j + 1)).flatMap (thr at_ n) := by
            rw [hsn]
            unfold thr
            rw [if_neg (show ¬ (x, y).1 < at_ from hA), if_pos (show at_ < (x, y).2 from hB), List.nil_append]
          have HN2 : Hid (∀ r ∈ l.take (j + 1), ¬ (at_ < r.2 ∧ 1048576 < r.2 + n)) := fun r hr => by
            rw [HTK.out] at hr
            rcases List.mem_append.1 hr with hr | hr
            · exact HN.out r hr
            · simp only [List.mem_singleton] at hr
              subst hr
              simp only
              omega
          rw [ee] at o2
          clear HN HL E0 EC HTK HMM hsn ee
          go_wp2_with (at_builtin; refine wpList_append_hr rfl _ _ 31 rfl _ _ rfl rfl r2 ?_)
          all_goals try omega
          go_roundw
          case rel => exact ⟨j + 1, a2, _, cp2, by omega, by go_num, rfl, o2, hb4, HN2⟩
          case measure => simp [RowKit.intOf]; omega
    · obtain rfl : j = m := by omega
      have e1 : l.take j = l := by rw [← hln]; exact List.take_length
      rw [e1] at ho HN
      have hnp : ¬ passes l at_ n := fun ⟨r, hr, hh⟩ => HN.out r hr hh
      have PL := places_any ho.rng (by omega) (show Hid _ from thr_good HL.out HPp.out.1 HPp.out.2 hnp)
      have HE0 : Hid (throughCode l at_ n = 0) := E0.out hnp
      clear HN e1 hnp E0 EC
      go_wp2_with fail
      refine PL.mono ?_
      rintro e w2 ⟨o2, no2, co2, L, rfl, ho2, hb2, HPL⟩
      have hB2 := hb.trans (hb2.mono hsz)
      have hno := ho2.rng.len
      have hl2 := ho.rng.len
      have F := few_res (S := throughS l at_ n) (ho2.mono hsz) hB2 (by have := HPL.out.2.2.2; omega) HPL.out.1 (fun q => (HPL.out.2.2.1 q).trans thrL_lies)
      clear PL HPL
      go_wp2_with fail
      refine F.mono ?_
      rintro e w3 ⟨c, V, hS, a3, n3, c3, rfl, ho3, hb3⟩
      go_wp2_with fail
      go_ret2
      exact ⟨c, V, by rw [HE0.out]; exact hS, a3, n3, c3, rfl, ho3, hb3⟩
end Go.Proofs.Ytohfckcikincoac
