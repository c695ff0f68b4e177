import Derived.Test.YtohfckcikincoaaSpBk
namespace Go.Proofs.Ytohfckcikincoaa
open Go.RowKit Go.Lib
set_option maxRecDepth 100000

/-- Through's answer, the insert being right. -/
theorem through_set {w : World} {a : Option Addr} {n cap : Nat} {l : List (Int × Int)} (h : Rng w a n cap l) (hl : Lst l) {at_ k : Int} (hp : (0 ≤ at_ ∧ at_ ≤ 1048576) ∧ 0 ≤ k ∧ k ≤ 1048576) (hg : ¬ grows l at_ k) :
    Calls Try.prog 24 #[.slice a n cap, .int .i64 at_, .int .i64 k] w fun e w' => Answer w.heap.size e w' (throughL l at_ k) ∧ Below w.heap.size w w' := through_ok h hl hp hg
set_option maxHeartbeats 4000000 in
theorem spanBackAgain_any {w : World} {v : Value} {a : Option Addr} {na ca : Nat} {la : List (Int × Int)} {b : Option Addr} {nb cb : Nat} {lb : List (Int × Int)} {pa : Option Addr} {np cp : Nat} {zs : List Int} {at_ n : Int} (hi : InR w v a na ca la b nb cb lb pa np cp zs at_ n) :
    Calls Try.prog 5 #[v] w fun e w' => e = .returned (.bool true) ∧ Below w.heap.size w w' := by
  have hra := hi.ra
  have hv := hi.val
  have hba := hi.ba
  have hbn := hi.bn
  subst hv
  clear hi
  have hnum := num_any
  go_enter Try.func5, Try.ntmps5
  go_wp2_with fail
  have hB0 : Below w.heap.size w (w.alloc (.cells #[.slice a na ca, .slice b nb cb, .slice pa np cp, .int .i64 at_, .int .i64 n] 25)) := (Below.refl _ _).alloc (Nat.le_refl _) _
  refine (right_any (hra.below hB0)).mono ?_
  rintro e w1 ⟨o1, no1, co1, p1, rfl, ho1, hb1, HP1, hn1⟩
  go_wp2_with fail
  refine (lawCopied_any ho1.rng (by omega)).mono ?_
  rintro e w2 ⟨a2, cap2, rfl, ho2, hb2⟩
  go_wp2_with fail
  refine (make_parts ho2.rng (by omega) HP1.out).mono ?_
  rintro e w3 ⟨A, a3, cap3, rfl, hoA, hb3, hLA, _⟩
  have hb13 := (hb1.trans (hb2.mono hb1.size)).trans (hb3.mono (hb1.trans (hb2.mono hb1.size)).size)
  have hB3 : Below w.heap.size w w3 := hB0.trans (hb13.mono (by simp))
  clear hb1 hb2 hb3 hb13 ho1 ho2 HP1 hB0 hra
  have fA : (A.length : Int) ≤ 32768 := by have := hLA.few; omega
  have HLA : Hid (Lst A) := hLA
  clear hLA
  go_wp2_with fail
  refine (hnum _ _).mono ?_
  rintro e w7 ⟨rfl, rfl⟩
  go_wp2_with fail
  refine (awake_any _).mono ?_
  rintro e w9 ⟨rfl, hb9⟩
  have hB9 : Below w.heap.size w w9 := hB3.trans (hb9.mono hB3.size)
  replace hoA := hoA.below hb9
  clear hb9 hB3
  go_wp2_with fail
  refine (copied_own hoA (by omega)).mono ?_
  rintro e w10 ⟨a10, c10, rfl, ho10, hb10⟩
  have hB10 : Below w.heap.size w w10 := hB9.trans (hb10.mono hB9.size)
  replace hoA := hoA.below hb10
  clear hb10 hB9
  by_cases hp : (0 ≤ at_ ∧ at_ ≤ 1048576) ∧ (0 ≤ n ∧ n ≤ 1048576) ∧ at_ + n ≤ 1048576
  · have HBK : Hid (Calls Try.prog 22 #[.slice a10 A.length c10, .int .i64 at_, .int .i64 n] w10 _) := back_ok ho10.rng HLA.out hp
    obtain ⟨hoN, hoM⟩ := backOldL_all HLA.out hp.1 (n := n)
    obtain ⟨hiN, hiM⟩ := backInL_all HLA.out (at_ := at_) (n := n)
    have hoL := backOld_len HLA.out hp.1 hp.2.1.1
    have hiL := backIn_len HLA.out (at_ := at_) (n := n)
    have HOL : Hid (Lst (backOldL A at_ n)) := lst_of hoN (fun q hq => by
      rcases (hoM q).1 hq with h' | h'
      · exact (lst_lies HLA.out h'.1).2
      · have := (lst_lies HLA.out h'.1).2; omega) (by omega)
    have HIL : Hid (Lst (backInL A at_ n)) := lst_of hiN (fun q hq => by have := ((hiM q).1 hq).2; omega) (by omega)
    have HOM : Hid (∀ q, Lies (backOldL A at_ n) q ↔ (Lies A q ∧ q < at_) ∨ (Lies A (q + n) ∧ at_ ≤ q)) := hoM
    have HIM : Hid (∀ q, Lies (backInL A at_ n) q ↔ Lies A (q + at_) ∧ 0 ≤ q ∧ q < n) := hiM
    have fO : ((backOldL A at_ n).length : Int) ≤ 32768 := by omega
    have fI : ((backInL A at_ n).length : Int) ≤ 32768 := by omega
    have HG1 : Hid (¬ grows (backInL A at_ n) 0 at_) := not_grows hiN (fun q hq _ => by have := ((hiM q).1 hq).2; omega)
    have HG2 : Hid (¬ grows (backOldL A at_ n) at_ n) := not_grows hoN (fun q hq hle => by
      rcases (hoM q).1 hq with h' | h'
      · omega
      · exact (lst_lies HLA.out h'.1).2)
    have HTL : Hid ((throughL (backOldL A at_ n) at_ n).length ≤ (backOldL A at_ n).length + 1) := through_len HOL.out hp.1 hp.2.1
    have HT0 : Hid ((throughL (backInL A at_ n) 0 at_).length ≤ (backInL A at_ n).length) := through0_len HIL.out hp.1
    have HIH : Hid (∀ r, (backInL A at_ n).getLast? = some r → r.2 ≤ n) := fun r hr => by
      have hm := List.mem_of_getLast? hr
      have := norm_lt hiN r hm
      have := ((hiM (r.2 - 1)).1 ⟨r, hm, by omega, by omega⟩).2
      omega
    have HP2 : Hid ((0 ≤ at_ ∧ at_ ≤ 1048576) ∧ 0 ≤ n ∧ n ≤ 1048576) := ⟨hp.1, hp.2.1⟩
    have HP0 : Hid (((0 : Int) ≤ 0 ∧ (0 : Int) ≤ 1048576) ∧ 0 ≤ at_ ∧ at_ ≤ 1048576) := ⟨by omega, hp.1⟩
    obtain ⟨⟨a1, a2⟩, ⟨b1, b2⟩, b3⟩ := hp
    generalize hO : backOldL A at_ n = O at *
    generalize hI : backInL A at_ n = I at *
    have d1 : decide (at_ < 0) = false := decide_eq_false (by omega)
    have d2 : decide (n < 0) = false := decide_eq_false (by omega)
    have d3 : decide (1048576 < at_) = false := decide_eq_false (by omega)
    have d4 : decide (1048576 < n) = false := decide_eq_false (by omega)
    have d5 : decide (1048576 < at_ + n) = false := decide_eq_false (by omega)
    clear hoN hoM hiN hiM hoL hiL hO hI ho10
    go_wp2_with fail
    refine HBK.out.mono ?_
    rintro e w11 ⟨o, no, co, i, ni, ci, rfl, hoO, hoI, _, hb11⟩
    have hB11 : Below w.heap.size w w11 := hB10.trans (hb11.mono hB10.size)
    have hno := hoO.rng.len
    have hni := hoI.rng.len
    replace hoA := hoA.below hb11
    subst hno hni
    clear HBK hb11 hB10
    go_wp2_with fail
    refine (hnum _ _).mono ?_
    rintro e w12 ⟨rfl, rfl⟩
    go_wp2_with fail
    refine (normal_yes hoO.rng HOL.out).mono ?_
    rintro e w13 ⟨rfl, hb13⟩
    have hB13 : Below w.heap.size w w13 := hB11.trans (hb13.mono hB11.size)
    replace hoA := hoA.below hb13
    replace hoO := hoO.below hb13
    replace hoI := hoI.below hb13
    clear hb13 hB11
    go_wp2_with fail
    refine (normal_yes hoI.rng HIL.out).mono ?_
    rintro e w14 ⟨rfl, hb14⟩
    have hB14 : Below w.heap.size w w14 := hB13.trans (hb14.mono hB13.size)
    replace hoA := hoA.below hb14
    replace hoO := hoO.below hb14
    replace hoI := hoI.below hb14
    clear hb14 hB13
    have hlast : I = [] ∨ ∃ (k : Nat) (g : Nat) (y : Int), I.length = k + 1 ∧ i = some ⟨g, 0, none⟩ ∧ w14.cell? ⟨g, k * 2 + 1, none⟩ = some (.int .i64 y) ∧ y ≤ n := by
      rcases List.eq_nil_or_concat I with h0 | ⟨l0, x, hl⟩
      · exact .inl h0
      · rw [List.concat_eq_append] at hl
        refine .inr ⟨l0.length, ?_⟩
        have hlen : I.length = l0.length + 1 := by rw [hl]; simp
        obtain ⟨g, hg, _⟩ := own_ptr hoI (by omega)
        obtain ⟨g', off', e1, _, _, hc⟩ := hoI.rng.cells l0.length (by omega)
        rw [hg] at e1
        cases e1
        rw [Nat.zero_add] at hc
        have hgd : I.getD l0.length (0, 0) = x := by rw [hl]; exact getD_snoc _ _ _
        rw [hgd] at hc
        exact ⟨g, x.2, hlen, hg, hc, HIH.out x (by rw [hl]; simp)⟩
    rcases hlast with h0 | ⟨k, g, y, hk, rfl, hcy, hyn⟩
    · have hz : I.length = 0 := by rw [h0]; rfl
      rw [hz] at hoI
      clear h0
      go_wp2_with fail
      refine (copied_own hoI (by omega)).mono ?_
      rintro e w15 ⟨a15, c15, rfl, ho15, hb15⟩
      go_wp2_with fail
      refine (through_ok ho15.rng HIL.out HP0.out HG1.out).mono ?_
      rintro e w16 ⟨hA1, hb16⟩
      have hbb := hb15.trans (hb16.mono hb15.size)
      have hB16 : Below w.heap.size w w16 := hB14.trans (hbb.mono hB14.size)
      replace hoA := hoA.below hbb
      replace hoO := hoO.below hbb
      clear ho15 hb15 hb16 hbb hB14 hoI
      rcases hA1 with ⟨hbig, _⟩ | ⟨hsm, aS, cS, rfl, hoS⟩
      · have := HT0.out
        omega
      · go_wp2_with fail
        refine (copied_own hoO (by omega)).mono ?_
        rintro e w17 ⟨a17, c17, rfl, ho17, hb17⟩
        go_wp2_with fail
        refine (through_ok ho17.rng HOL.out HP2.out HG2.out).mono ?_
        rintro e w18 ⟨hA2, hb18⟩
        have hbb := hb17.trans (hb18.mono hb17.size)
        have hB18 : Below w.heap.size w w18 := hB16.trans (hbb.mono hB16.size)
        replace hoA := hoA.below hbb
        replace hoS := hoS.below hbb
        clear ho17 hb17 hb18 hbb hB16
        rcases hA2 with ⟨hbig, rfl⟩ | ⟨hsm2, aT, cT, rfl, hoT⟩
        · have hfull : ((O.length : Int) == 32768) = true := by have := HTL.out; simp; omega
          clear hbig hsm
          go_wp2_with fail
          refine (hnum _ _).mono ?_
          rintro e w19 ⟨rfl, rfl⟩
          go_wp2_with fail
          go_ret
          exact ⟨rfl, hB18⟩
        · obtain ⟨sN, sM⟩ := throughL_all HIL.out HP0.out.1 HP0.out.2
          obtain ⟨tN, tM⟩ := throughL_all HOL.out HP2.out.1 HP2.out.2
          have HSL : Hid (Lst (throughL I 0 at_)) := lst_of sN (fun q hq => by
            rcases (sM q).1 hq with h' | h'
            · exact (lst_lies HIL.out h'.1).2
            · have := ((HIM.out (q - at_)).1 h'.1).2; omega) hsm
          have HTT : Hid (Lst (throughL O at_ n)) := lst_of tN (fun q hq => by
            rcases (tM q).1 hq with h' | h'
            · exact (lst_lies HOL.out h'.1).2
            · rcases (HOM.out (q - n)).1 h'.1 with h'' | h''
              · omega
              · have := (lst_lies HLA.out h''.1).2; omega) hsm2
          have HUA : Hid (∀ q, (Lies (throughL O at_ n) q ∨ Lies (throughL I 0 at_) q) ↔ Lies A q) := fun q => by
            rw [tM, sM, HOM.out, HOM.out, HIM.out, HIM.out, show q - n + n = q by omega, show q - at_ + at_ = q by omega]
            constructor
            · rintro ((h' | h') | (h' | h'))
              · rcases h'.1 with h'' | h''
                · exact h''.1
                · omega
              · rcases h'.1 with h'' | h''
                · omega
                · exact h''.1
              · omega
              · exact h'.1.1
            · intro h'
              have h0 := (lst_lies HLA.out h').1
              by_cases h1 : q < at_
              · exact .inl (.inl ⟨.inl ⟨h', h1⟩, h1⟩)
              · by_cases h2 : q < at_ + n
                · exact .inr (.inr ⟨⟨h', by omega, by omega⟩, by omega⟩)
                · exact .inl (.inr ⟨.inr ⟨h', by omega⟩, by omega⟩)
          clear sN sM tN tM hsm hsm2
          go_wp2_with fail
          refine (hnum _ _).mono ?_
          rintro e w19 ⟨rfl, rfl⟩
          go_wp2_with fail
          refine (hnum _ _).mono ?_
          rintro e w20 ⟨rfl, rfl⟩
          go_wp2_with fail
          refine (hnum _ _).mono ?_
          rintro e w21 ⟨rfl, rfl⟩
          go_wp2_with fail
          refine (union_set hoT.rng hoS.rng HTT.out HSL.out).mono ?_
          rintro e w22 ⟨U, hN, hM, hA3, hb22⟩
          have hU : U = A := norm_unique hN HLA.out.norm (fun q => (hM q).trans (HUA.out q))
          subst hU
          have hB22 := hB18.trans (hb22.mono hB18.size)
          replace hoA := hoA.below hb22
          clear hN hM hb22 hB18 hoT hoS
          rcases hA3 with ⟨hbig, _⟩ | ⟨_, aU, cU, rfl, hoU⟩
          · omega
          · go_wp2_with fail
            refine (hnum _ _).mono ?_
            rintro e w23 ⟨rfl, rfl⟩
            go_wp2_with fail
            refine (same_refl hoU.rng hoA.rng).mono ?_
            rintro e w24 ⟨rfl, hb24⟩
            have hB24 := hB22.trans (hb24.mono hB22.size)
            go_wp2_with fail
            go_ret
            exact ⟨rfl, hB24⟩
    · have dy : decide (n < y) = false := decide_eq_false (by omega)
      rw [hk] at hoI
      go_wp2_with fail
      refine (copied_own hoI (by omega)).mono ?_
      rintro e w15 ⟨a15, c15, rfl, ho15, hb15⟩
      go_wp2_with fail
      refine (through_ok ho15.rng HIL.out HP0.out HG1.out).mono ?_
      rintro e w16 ⟨hA1, hb16⟩
      have hbb := hb15.trans (hb16.mono hb15.size)
      have hB16 : Below w.heap.size w w16 := hB14.trans (hbb.mono hB14.size)
      replace hoA := hoA.below hbb
      replace hoO := hoO.below hbb
      clear ho15 hb15 hb16 hbb hB14 hoI
      rcases hA1 with ⟨hbig, _⟩ | ⟨hsm, aS, cS, rfl, hoS⟩
      · have := HT0.out
        omega
      · go_wp2_with fail
        refine (copied_own hoO (by omega)).mono ?_
        rintro e w17 ⟨a17, c17, rfl, ho17, hb17⟩
        go_wp2_with fail
        refine (through_ok ho17.rng HOL.out HP2.out HG2.out).mono ?_
        rintro e w18 ⟨hA2, hb18⟩
        have hbb := hb17.trans (hb18.mono hb17.size)
        have hB18 : Below w.heap.size w w18 := hB16.trans (hbb.mono hB16.size)
        replace hoA := hoA.below hbb
        replace hoS := hoS.below hbb
        clear ho17 hb17 hb18 hbb hB16
        rcases hA2 with ⟨hbig, rfl⟩ | ⟨hsm2, aT, cT, rfl, hoT⟩
        · have hfull : ((O.length : Int) == 32768) = true := by have := HTL.out; simp; omega
          clear hbig hsm
          go_wp2_with fail
          refine (hnum _ _).mono ?_
          rintro e w19 ⟨rfl, rfl⟩
          go_wp2_with fail
          go_ret
          exact ⟨rfl, hB18⟩
        · obtain ⟨sN, sM⟩ := throughL_all HIL.out HP0.out.1 HP0.out.2
          obtain ⟨tN, tM⟩ := throughL_all HOL.out HP2.out.1 HP2.out.2
          have HSL : Hid (Lst (throughL I 0 at_)) := lst_of sN (fun q hq => by
            rcases (sM q).1 hq with h' | h'
            · exact (lst_lies HIL.out h'.1).2
            · have := ((HIM.out (q - at_)).1 h'.1).2; omega) hsm
          have HTT : Hid (Lst (throughL O at_ n)) := lst_of tN (fun q hq => by
            rcases (tM q).1 hq with h' | h'
            · exact (lst_lies HOL.out h'.1).2
            · rcases (HOM.out (q - n)).1 h'.1 with h'' | h''
              · omega
              · have := (lst_lies HLA.out h''.1).2; omega) hsm2
          have HUA : Hid (∀ q, (Lies (throughL O at_ n) q ∨ Lies (throughL I 0 at_) q) ↔ Lies A q) := fun q => by
            rw [tM, sM, HOM.out, HOM.out, HIM.out, HIM.out, show q - n + n = q by omega, show q - at_ + at_ = q by omega]
            constructor
            · rintro ((h' | h') | (h' | h'))
              · rcases h'.1 with h'' | h''
                · exact h''.1
                · omega
              · rcases h'.1 with h'' | h''
                · omega
                · exact h''.1
              · omega
              · exact h'.1.1
            · intro h'
              have h0 := (lst_lies HLA.out h').1
              by_cases h1 : q < at_
              · exact .inl (.inl ⟨.inl ⟨h', h1⟩, h1⟩)
              · by_cases h2 : q < at_ + n
                · exact .inr (.inr ⟨⟨h', by omega, by omega⟩, by omega⟩)
                · exact .inl (.inr ⟨.inr ⟨h', by omega⟩, by omega⟩)
          clear sN sM tN tM hsm hsm2
          go_wp2_with fail
          refine (hnum _ _).mono ?_
          rintro e w19 ⟨rfl, rfl⟩
          go_wp2_with fail
          refine (hnum _ _).mono ?_
          rintro e w20 ⟨rfl, rfl⟩
          go_wp2_with fail
          refine (hnum _ _).mono ?_
          rintro e w21 ⟨rfl, rfl⟩
          go_wp2_with fail
          refine (union_set hoT.rng hoS.rng HTT.out HSL.out).mono ?_
          rintro e w22 ⟨U, hN, hM, hA3, hb22⟩
          have hU : U = A := norm_unique hN HLA.out.norm (fun q => (hM q).trans (HUA.out q))
          subst hU
          have hB22 := hB18.trans (hb22.mono hB18.size)
          replace hoA := hoA.below hb22
          clear hN hM hb22 hB18 hoT hoS
          rcases hA3 with ⟨hbig, _⟩ | ⟨_, aU, cU, rfl, hoU⟩
          · omega
          · go_wp2_with fail
            refine (hnum _ _).mono ?_
            rintro e w23 ⟨rfl, rfl⟩
            go_wp2_with fail
            refine (same_refl hoU.rng hoA.rng).mono ?_
            rintro e w24 ⟨rfl, hb24⟩
            have hB24 := hB22.trans (hb24.mono hB22.size)
            go_wp2_with fail
            go_ret
            exact ⟨rfl, hB24⟩
  · have HBK : Hid (Calls Try.prog 22 #[.slice a10 A.length c10, .int .i64 at_, .int .i64 n] w10 _) := back_place ho10.rng HLA.out hp
    have hcs : at_ < 0 ∨ (0 ≤ at_ ∧ n < 0) ∨ (0 ≤ at_ ∧ 0 ≤ n ∧ 1048576 < at_) ∨ (0 ≤ at_ ∧ 0 ≤ n ∧ at_ ≤ 1048576 ∧ 1048576 < n) ∨ (0 ≤ at_ ∧ 0 ≤ n ∧ at_ ≤ 1048576 ∧ n ≤ 1048576 ∧ 1048576 < at_ + n) := by omega
    clear hp ho10 hoA
    rcases hcs with k1 | ⟨k1, k2⟩ | ⟨k1, k2, k3⟩ | ⟨k1, k2, k3, k4⟩ | ⟨k1, k2, k3, k4, k5⟩
    all_goals
      go_wp2_with fail
      refine HBK.out.mono ?_
      rintro e w11 ⟨rfl, hb11⟩
      have hB11 : Below w.heap.size w w11 := hB10.trans (hb11.mono hB10.size)
      clear HBK hb11
      go_wp2_with fail
      refine (hnum _ _).mono ?_
      rintro e w12 ⟨rfl, rfl⟩
      go_wp2_with fail
      go_ret
      exact ⟨rfl, hB11⟩
end Go.Proofs.Ytohfckcikincoaa
