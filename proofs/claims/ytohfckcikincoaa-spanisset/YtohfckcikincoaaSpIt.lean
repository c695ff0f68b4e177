import Derived.Test.YtohfckcikincoaaSpIs
namespace Go.Proofs.Ytohfckcikincoaa
open Go.RowKit Go.Lib
set_option maxRecDepth 100000

theorem why_ok' {l : List (Int × Int)} {at_ k : Int} (h : whyOf l at_ k = 0) : ((0 ≤ at_ ∧ at_ ≤ 1048576) ∧ 0 ≤ k ∧ k ≤ 1048576) ∧ ¬ grows l at_ k := by
  unfold whyOf at h
  split at h
  · rename_i hp
    split at h
    · omega
    · rename_i hg
      exact ⟨hp, hg⟩
  · omega
theorem grows_lies' {l : List (Int × Int)} (hl : Lst l) {at_ k q : Int} (hg : ¬ grows l at_ k) (hq : Lies l q) (hle : at_ ≤ q) : q + k < 1048576 := by
  obtain ⟨r, hr, h1, h2⟩ := hq
  obtain ⟨x, hx⟩ : ∃ x, l.getLast? = some x := by
    cases hl' : l.getLast? with
    | none => rw [List.getLast?_eq_none_iff.1 hl'] at hr; cases hr
    | some x => exact ⟨x, rfl⟩
  have := lst_last hl.norm hx r hr
  refine Classical.byContradiction fun h3 => hg ⟨x, hx, by omega, by omega⟩
set_option maxHeartbeats 4000000 in
theorem carries_any {w : World} {B0 : Nat} {a : Option Addr} {ca : Nat} {A : List (Int × Int)} (hoA : Own w B0 (.slice a A.length ca) A) (hLA : Lst A) {s : Option Addr} {ns cs : Nat} {zs : List Int} (rs : RngI w s ns cs zs) (at_ n : Int) :
    Calls Try.prog 33 #[.slice a A.length ca, .int .i64 at_, .int .i64 n, .slice s ns cs] w fun e w' => e = .returned (.bool true) ∧ Below w.heap.size w w' := by
  have hnum := num_any
  have fA : (A.length : Int) ≤ 32768 := by have := hLA.few; omega
  have fs : (ns : Int) ≤ 9223372036854775807 := by have := rs.room; simp only [maxLen] at this; omega
  have HLA : Hid (Lst A) := hLA
  clear hLA
  have HTH : Hid (∀ (W : World) (b : Option Addr) (cb : Nat), Rng W b A.length cb A → Calls Try.prog 24 #[.slice b A.length cb, .int .i64 at_, .int .i64 n] W _) := fun W b cb h => through_q h HLA.out at_ n
  have HRF : Hid (∀ W, Below w.heap.size w W → Calls Try.prog 25 #[.slice a A.length ca, .int .i64 at_, .int .i64 n] W _) := fun W hb => refusal_any (hoA.rng.below hb) HLA.out at_ n
  go_enter Try.func33, Try.ntmps33
  go_wp2_with fail
  refine (copied_own hoA (by omega)).mono ?_
  rintro e w1 ⟨a1, c1, rfl, t1, g1⟩
  go_wp2_with fail
  refine (HTH.out _ _ _ t1.rng).mono ?_
  rintro e w2 ⟨g2, hT⟩
  have h2 := g1.trans (g2.mono g1.size)
  clear t1 HTH
  rcases hT with ⟨hy, rfl⟩ | ⟨hy, hfull, rfl⟩ | ⟨hy, x, cx, rfl, fT, hoT⟩
  · generalize whyOf A at_ n = y at *
    have t1 : (y == 0) = false := by simp [hy]
    have t2 : (y != 0) = true := by simp [hy]
    have t3 : (y == y) = true := by simp
    clear hy
    go_wp2_with fail
    refine (HRF.out _ h2).mono ?_
    rintro e w3 ⟨rfl, g3⟩
    have h3 := h2.trans (g3.mono h2.size)
    go_wp2_with fail
    refine (hnum _ _).mono ?_
    rintro e w4 ⟨rfl, rfl⟩
    go_wp2_with fail
    go_ret
    exact ⟨rfl, h3⟩
  · rw [hy] at HRF
    have tf : ((A.length : Int) == 32768) = true := by simp; omega
    clear hy
    go_wp2_with fail
    refine (HRF.out _ h2).mono ?_
    rintro e w3 ⟨rfl, g3⟩
    have h3 := h2.trans (g3.mono h2.size)
    go_wp2_with fail
    refine (hnum _ _).mono ?_
    rintro e w4 ⟨rfl, rfl⟩
    go_wp2_with fail
    go_ret
    exact ⟨rfl, h3⟩
  · obtain ⟨hp, hg⟩ := why_ok' hy
    rw [hy] at HRF
    obtain ⟨tN, tM⟩ := throughL_all HLA.out hp.1 hp.2
    have HLT : Hid (Lst (throughL A at_ n)) := lst_of tN (fun q hq => by
      rcases (tM q).1 hq with h' | h'
      · exact (lst_lies HLA.out h'.1).2
      · have := grows_lies' HLA.out hg h'.1 h'.2; omega) fT
    have HTM : Hid (∀ q, Lies (throughL A at_ n) q ↔ (Lies A q ∧ q < at_) ∨ (Lies A (q - n) ∧ at_ ≤ q - n)) := tM
    have HP : Hid ((0 ≤ at_ ∧ at_ ≤ 1048576) ∧ 0 ≤ n ∧ n ≤ 1048576) := hp
    have fT' : ((throughL A at_ n).length : Int) ≤ 32768 := by omega
    obtain ⟨⟨p1, p2⟩, p3, p4⟩ := hp
    clear tN tM fT hg hy
    generalize throughL A at_ n = T at *
    have hoA2 := hoA.below h2
    have hoT2 := hoT.mono g1.size
    clear hoT g1 g2
    go_wp2_with fail
    refine (HRF.out _ h2).mono ?_
    rintro e w3 ⟨rfl, g3⟩
    have h3 := h2.trans (g3.mono h2.size)
    replace hoA2 := hoA2.below g3
    replace hoT2 := hoT2.below g3
    clear g3 h2 HRF
    have hcs : ((A.length : Int) == 32768) = false ∨ ((A.length : Int) == 32768) = true := by
      cases ((A.length : Int) == 32768)
      · exact .inl rfl
      · exact .inr rfl
    rcases hcs with tf | tf
    all_goals
      go_wp2_with fail
      refine (hnum _ _).mono ?_
      rintro e w4 ⟨rfl, rfl⟩
      go_wp2_with fail
    · refine (normal_yes hoT2.rng HLT.out).mono ?_
      rintro e w5 ⟨rfl, g5⟩
      have h5 := h3.trans (g5.mono h3.size)
      replace hoA2 := hoA2.below g5
      replace hoT2 := hoT2.below g5
      clear g5 h3
      go_wp2_with fail
      go_loopw [12] (fun vi w' => ∃ j : Nat, j ≤ ns ∧ vi = .int .i64 j ∧ Own w' B0 (.slice a A.length ca) A ∧ Own w' w.heap.size (.slice x T.length cx) T ∧ Below w.heap.size w w') (fun i _ => ns - (RowKit.intOf i).toNat)
      case atStart => exact ⟨0, Nat.zero_le _, rfl, hoA2, hoT2, h5⟩
      case round =>
        clear hoA2 hoT2 h5
        obtain ⟨j, hjn, rfl, hoA2, hoT2, hB⟩ := hrel
        by_cases hj : j < ns
        · obtain ⟨g, off, rfl, hg, hc⟩ := rs.cells j hj
          have c0 := (hB.cell (p := ⟨g, off + j, none⟩) hg).trans hc
          have HCR : Hid (Calls Try.prog 50 #[.slice a A.length ca, .slice x T.length cx, .int .i64 at_, .int .i64 n, .int .i64 (zs.getD j 0)] wr _) := carriedRight_any hoA2.rng hoT2.rng HP.out HTM.out
          clear hc
          generalize zs.getD j 0 = q at *
          go_wp2_with fail
          refine HCR.out.mono ?_
          rintro e v1 ⟨rfl, g1⟩
          have hB1 := hB.trans (g1.mono hB.size)
          clear c0 HCR
          go_wp2_with fail
          go_roundw
          case rel => exact ⟨j + 1, by omega, by go_num, hoA2.below g1, hoT2.below g1, hB1⟩
          case measure => simp [RowKit.intOf]; omega
        · by_cases hbig : at_ + n ≤ 1048576
          · have db : decide (1048576 < at_ + n) = false := decide_eq_false (by omega)
            have HBK : Hid (∀ (W : World) (b : Option Addr) (cb : Nat), Rng W b T.length cb T → Calls Try.prog 22 #[.slice b T.length cb, .int .i64 at_, .int .i64 n] W _) := fun W b cb h => back_ok h HLT.out ⟨HP.out.1, HP.out.2, hbig⟩
            obtain ⟨oN, oM⟩ := backOldL_all HLT.out HP.out.1 (n := n)
            obtain ⟨iN, iM⟩ := backInL_all HLT.out (at_ := at_) (n := n)
            have hOA : backOldL T at_ n = A := norm_unique oN HLA.out.norm (fun q => by
              rw [oM, HTM.out, HTM.out, show q + n - n = q by omega]
              constructor
              · rintro (⟨h | h, _⟩ | ⟨h | h, _⟩)
                · exact h.1
                · omega
                · omega
                · exact h.1
              · intro h
                by_cases hq : q < at_
                · exact .inl ⟨.inl ⟨h, hq⟩, hq⟩
                · exact .inr ⟨.inr ⟨h, by omega⟩, by omega⟩)
            have hIA : backInL T at_ n = [] := nil_of_lies iN (fun q hq => by
              have := (iM q).1 hq
              rw [HTM.out] at this
              rcases this.1 with h | h <;> omega)
            rw [hOA, hIA] at HBK
            clear oN oM iN iM hOA hIA hbig
            go_wp2_with fail
            refine (copied_own hoT2 (by omega)).mono ?_
            rintro e v1 ⟨b1, q1, rfl, u1, g1⟩
            go_wp2_with fail
            refine (HBK.out _ _ _ u1.rng).mono ?_
            rintro e v2 ⟨o, no, co, i, ni, ci, rfl, hoO, hoI, _, g2⟩
            have hlo := hoO.rng.len
            have hli := hoI.rng.len
            simp only [List.length_nil] at hli
            subst hlo hli
            have gg := g1.trans (g2.mono g1.size)
            have hB2 := hB.trans (gg.mono hB.size)
            replace hoA2 := hoA2.below gg
            clear u1 g1 g2 gg HBK hB
            go_wp2_with fail
            refine (hnum _ _).mono ?_
            rintro e v3 ⟨rfl, rfl⟩
            go_wp2_with fail
            refine (same_refl hoO.rng hoA2.rng).mono ?_
            rintro e v4 ⟨rfl, g4⟩
            have hB4 := hB2.trans (g4.mono hB2.size)
            go_wp2_with fail
            go_ret
            exact ⟨rfl, hB4⟩
          · have db : 1048576 < at_ + n := by omega
            go_wp2_with fail
            go_ret
            exact ⟨rfl, hB⟩
    · refine (hnum _ _).mono ?_
      rintro e w4' ⟨rfl, rfl⟩
      go_wp2_with fail
      refine (normal_yes hoT2.rng HLT.out).mono ?_
      rintro e w5 ⟨rfl, g5⟩
      have h5 := h3.trans (g5.mono h3.size)
      replace hoA2 := hoA2.below g5
      replace hoT2 := hoT2.below g5
      clear g5 h3
      go_wp2_with fail
      go_loopw [12] (fun vi w' => ∃ j : Nat, j ≤ ns ∧ vi = .int .i64 j ∧ Own w' B0 (.slice a A.length ca) A ∧ Own w' w.heap.size (.slice x T.length cx) T ∧ Below w.heap.size w w') (fun i _ => ns - (RowKit.intOf i).toNat)
      case atStart => exact ⟨0, Nat.zero_le _, rfl, hoA2, hoT2, h5⟩
      case round =>
        clear hoA2 hoT2 h5
        obtain ⟨j, hjn, rfl, hoA2, hoT2, hB⟩ := hrel
        by_cases hj : j < ns
        · obtain ⟨g, off, rfl, hg, hc⟩ := rs.cells j hj
          have c0 := (hB.cell (p := ⟨g, off + j, none⟩) hg).trans hc
          have HCR : Hid (Calls Try.prog 50 #[.slice a A.length ca, .slice x T.length cx, .int .i64 at_, .int .i64 n, .int .i64 (zs.getD j 0)] wr _) := carriedRight_any hoA2.rng hoT2.rng HP.out HTM.out
          clear hc
          generalize zs.getD j 0 = q at *
          go_wp2_with fail
          refine HCR.out.mono ?_
          rintro e v1 ⟨rfl, g1⟩
          have hB1 := hB.trans (g1.mono hB.size)
          clear c0 HCR
          go_wp2_with fail
          go_roundw
          case rel => exact ⟨j + 1, by omega, by go_num, hoA2.below g1, hoT2.below g1, hB1⟩
          case measure => simp [RowKit.intOf]; omega
        · by_cases hbig : at_ + n ≤ 1048576
          · have db : decide (1048576 < at_ + n) = false := decide_eq_false (by omega)
            have HBK : Hid (∀ (W : World) (b : Option Addr) (cb : Nat), Rng W b T.length cb T → Calls Try.prog 22 #[.slice b T.length cb, .int .i64 at_, .int .i64 n] W _) := fun W b cb h => back_ok h HLT.out ⟨HP.out.1, HP.out.2, hbig⟩
            obtain ⟨oN, oM⟩ := backOldL_all HLT.out HP.out.1 (n := n)
            obtain ⟨iN, iM⟩ := backInL_all HLT.out (at_ := at_) (n := n)
            have hOA : backOldL T at_ n = A := norm_unique oN HLA.out.norm (fun q => by
              rw [oM, HTM.out, HTM.out, show q + n - n = q by omega]
              constructor
              · rintro (⟨h | h, _⟩ | ⟨h | h, _⟩)
                · exact h.1
                · omega
                · omega
                · exact h.1
              · intro h
                by_cases hq : q < at_
                · exact .inl ⟨.inl ⟨h, hq⟩, hq⟩
                · exact .inr ⟨.inr ⟨h, by omega⟩, by omega⟩)
            have hIA : backInL T at_ n = [] := nil_of_lies iN (fun q hq => by
              have := (iM q).1 hq
              rw [HTM.out] at this
              rcases this.1 with h | h <;> omega)
            rw [hOA, hIA] at HBK
            clear oN oM iN iM hOA hIA hbig
            go_wp2_with fail
            refine (copied_own hoT2 (by omega)).mono ?_
            rintro e v1 ⟨b1, q1, rfl, u1, g1⟩
            go_wp2_with fail
            refine (HBK.out _ _ _ u1.rng).mono ?_
            rintro e v2 ⟨o, no, co, i, ni, ci, rfl, hoO, hoI, _, g2⟩
            have hlo := hoO.rng.len
            have hli := hoI.rng.len
            simp only [List.length_nil] at hli
            subst hlo hli
            have gg := g1.trans (g2.mono g1.size)
            have hB2 := hB.trans (gg.mono hB.size)
            replace hoA2 := hoA2.below gg
            clear u1 g1 g2 gg HBK hB
            go_wp2_with fail
            refine (hnum _ _).mono ?_
            rintro e v3 ⟨rfl, rfl⟩
            go_wp2_with fail
            refine (same_refl hoO.rng hoA2.rng).mono ?_
            rintro e v4 ⟨rfl, g4⟩
            have hB4 := hB2.trans (g4.mono hB2.size)
            go_wp2_with fail
            go_ret
            exact ⟨rfl, hB4⟩
          · have db : 1048576 < at_ + n := by omega
            go_wp2_with fail
            go_ret
            exact ⟨rfl, hB⟩
end Go.Proofs.Ytohfckcikincoaa
