import Derived.Test.YtohfckcikincoaaSpOne
namespace Go.Proofs.Ytohfckcikincoaa
open Go.RowKit Go.Lib
set_option maxRecDepth 100000

set_option maxHeartbeats 4000000 in
theorem spanOneList_any {w : World} {v : Value} {a : Option Addr} {na ca : Nat} {la : List (Int × Int)} {b : Option Addr} {nb cb : Nat} {lb : List (Int × Int)} {pa : Option Addr} {np cp : Nat} {zs : List Int} {at_ n : Int} (hi : InR w v a na ca la b nb cb lb pa np cp zs at_ n) :
    Calls Try.prog 3 #[v] w fun e w' => e = .returned (.bool true) ∧ Below w.heap.size w w' := by
  have hra := hi.ra
  have hrb := hi.rb
  have hv := hi.val
  subst hv
  clear hi
  have hnum := num_any
  go_enter Try.func3, Try.ntmps3
  go_wp2_with fail
  have hB0 : Below w.heap.size w (w.alloc (.cells #[.slice a na ca, .slice b nb cb, .slice pa np cp, .int .i64 at_, .int .i64 n] 25)) := (Below.refl _ _).alloc (Nat.le_refl _) _
  refine (right_any (hra.below hB0)).mono ?_
  rintro e w1 ⟨o1, no1, co1, p1, rfl, ho1, hb1, HP1, hn1⟩
  go_wp2_with fail
  refine (lawCopied_any ho1.rng (by omega)).mono ?_
  rintro e w2 ⟨a2, cap2, rfl, ho2, hb2⟩
  go_wp2_with fail
  refine (make_parts ho2.rng (by omega) HP1.out).mono ?_
  rintro e w3 ⟨A, a3, cap3, rfl, hoA, hb3, hLA, _⟩
  have hb13 := (hb1.trans (hb2.mono hb1.size)).trans (hb3.mono (hb1.trans (hb2.mono hb1.size)).size)
  have hB3 : Below w.heap.size w w3 := hB0.trans (hb13.mono (by simp))
  have hs3 : w.heap.size < w3.heap.size := by have := hb13.size; simp at this; omega
  have c1 : w3.cell? ⟨w.heap.size, 1, none⟩ = some (.slice b nb cb) := (hb13.cell (p := ⟨w.heap.size, 1, none⟩) (by simp)).trans (World.cell?_alloc_mark _ _ _ _ _)
  clear hb1 hb2 hb3 hb13 ho1 ho2 HP1 hB0 hra
  go_wp2_with fail
  refine (right_any (hrb.below hB3)).mono ?_
  rintro e w4 ⟨o4, no4, co4, p4, rfl, ho4, hb4, HP4, hn4⟩
  go_wp2_with fail
  refine (lawCopied_any ho4.rng (by omega)).mono ?_
  rintro e w5 ⟨a5, cap5, rfl, ho5, hb5⟩
  go_wp2_with fail
  refine (make_parts ho5.rng (by omega) HP4.out).mono ?_
  rintro e w6 ⟨B, a6, cap6, rfl, hoB, hb6, hLB, _⟩
  have hb36 := (hb4.trans (hb5.mono hb4.size)).trans (hb6.mono (hb4.trans (hb5.mono hb4.size)).size)
  have hB6 : Below w.heap.size w w6 := hB3.trans (hb36.mono hB3.size)
  replace hoA := hoA.below hb36
  clear hb4 hb5 hb6 hb36 ho4 ho5 HP4 hrb c1 hB3
  have hfA := hLA.few
  have hfB := hLB.few
  have HLA : Hid (Lst A) := hLA
  have HLB : Hid (Lst B) := hLB
  clear hLA hLB
  go_wp2_with fail
  refine (hnum _ _).mono ?_
  rintro e w7 ⟨rfl, rfl⟩
  go_wp2_with fail
  refine (hnum _ _).mono ?_
  rintro e w8 ⟨rfl, rfl⟩
  go_wp2_with fail
  refine (awake_any _).mono ?_
  rintro e w9 ⟨rfl, hb9⟩
  have hB9 : Below w.heap.size w w9 := hB6.trans (hb9.mono hB6.size)
  replace hoA := hoA.below hb9
  replace hoB := hoB.below hb9
  clear hb9 hB6
  -- the two differences
  go_wp2_with fail
  refine (copied_own hoA hfA).mono ?_
  rintro e w10 ⟨a10, c10, rfl, ho10, hb10⟩
  go_wp2_with fail
  refine (copied_own (hoB.below hb10) hfB).mono ?_
  rintro e w11 ⟨a11, c11, rfl, ho11, hb11⟩
  go_wp2_with fail
  refine (minus_set (ho10.below hb11).rng ho11.rng HLA.out HLB.out).mono ?_
  rintro e w12 ⟨U1, hN1, hM1, hA1, hb12⟩
  have hb912 := (hb10.trans (hb11.mono hb10.size)).trans (hb12.mono (hb10.trans (hb11.mono hb10.size)).size)
  have hB12 : Below w.heap.size w w12 := hB9.trans (hb912.mono hB9.size)
  replace hoA := hoA.below hb912
  replace hoB := hoB.below hb912
  have HN1 : Hid (Norm (-1) U1) := hN1
  have HM1 : Hid (∀ q, Lies U1 q ↔ Lies A q ∧ ¬ Lies B q) := hM1
  have hl1 := len_minus hN1 hM1
  obtain ⟨x1, n1, cx1, e1, rfl, hd1⟩ : ∃ x1 n1 cx1 e1, e = .returned (.tuple #[.slice x1 n1 cx1, .int .i64 e1]) ∧ ((e1 = 21 ∧ 32768 < U1.length) ∨ (e1 = 0 ∧ n1 = U1.length)) := by
    rcases hA1 with ⟨h1, h2⟩ | ⟨h1, a', c', h2, _⟩
    · exact ⟨_, _, _, _, h2, .inl ⟨rfl, h1⟩⟩
    · exact ⟨_, _, _, _, h2, .inr ⟨rfl, rfl⟩⟩
  clear hb10 hb11 hb12 hb912 ho10 ho11 hN1 hM1 hA1 hB9
  go_wp2_with fail
  refine (copied_own hoB hfB).mono ?_
  rintro e w13 ⟨a13, c13, rfl, ho13, hb13⟩
  go_wp2_with fail
  refine (copied_own (hoA.below hb13) hfA).mono ?_
  rintro e w14 ⟨a14, c14, rfl, ho14, hb14⟩
  go_wp2_with fail
  refine (minus_set (ho13.below hb14).rng ho14.rng HLB.out HLA.out).mono ?_
  rintro e w15 ⟨U2, hN2, hM2, hA2, hb15⟩
  have hb1215 := (hb13.trans (hb14.mono hb13.size)).trans (hb15.mono (hb13.trans (hb14.mono hb13.size)).size)
  have hB15 : Below w.heap.size w w15 := hB12.trans (hb1215.mono hB12.size)
  replace hoA := hoA.below hb1215
  replace hoB := hoB.below hb1215
  have HN2 : Hid (Norm (-1) U2) := hN2
  have HM2 : Hid (∀ q, Lies U2 q ↔ Lies B q ∧ ¬ Lies A q) := hM2
  have hl2 := len_minus hN2 hM2
  obtain ⟨x2, n2, cx2, e2, rfl, hd2⟩ : ∃ x1 n1 cx1 e1, e = .returned (.tuple #[.slice x1 n1 cx1, .int .i64 e1]) ∧ ((e1 = 21 ∧ 32768 < U2.length) ∨ (e1 = 0 ∧ n1 = U2.length)) := by
    rcases hA2 with ⟨h1, h2⟩ | ⟨h1, a', c', h2, _⟩
    · exact ⟨_, _, _, _, h2, .inl ⟨rfl, h1⟩⟩
    · exact ⟨_, _, _, _, h2, .inr ⟨rfl, rfl⟩⟩
  clear hb13 hb14 hb15 hb1215 ho13 ho14 hN2 hM2 hA2 hB12
  have hcs : (e1 = 0 ∧ e2 = 0 ∧ decide (A = B) = true ∧ n1 = 0 ∧ n2 = 0) ∨ (e1 = 0 ∧ e2 = 0 ∧ decide (A = B) = false ∧ ((n1 : Int) == 0) = false) ∨ (e1 = 0 ∧ e2 = 0 ∧ decide (A = B) = false ∧ n1 = 0 ∧ ((n2 : Int) == 0) = false) ∨ (e1 = 0 ∧ e2 = 21 ∧ (32768 : Int) < A.length + B.length) ∨ (e1 = 21 ∧ (32768 : Int) < A.length + B.length) := by
    rcases hd1 with ⟨h1, h2⟩ | ⟨h1, h2⟩
    · exact .inr (.inr (.inr (.inr ⟨h1, by omega⟩)))
    · rcases hd2 with ⟨h3, h4⟩ | ⟨h3, h4⟩
      · exact .inr (.inr (.inr (.inl ⟨h1, h3, by omega⟩)))
      · by_cases hAB : A = B
        · have u1 : U1 = [] := nil_of_lies HN1.out (fun q hq => by have := (HM1.out q).1 hq; rw [hAB] at this; exact this.2 this.1)
          have u2 : U2 = [] := nil_of_lies HN2.out (fun q hq => by have := (HM2.out q).1 hq; rw [hAB] at this; exact this.2 this.1)
          exact .inl ⟨h1, h3, decide_eq_true hAB, by rw [h2, u1]; rfl, by rw [h4, u2]; rfl⟩
        · by_cases hz : n1 = 0
          · refine .inr (.inr (.inl ⟨h1, h3, decide_eq_false hAB, hz, ?_⟩))
            have u1 : U1 = [] := List.eq_nil_of_length_eq_zero (by omega)
            rw [beq_eq_false_iff_ne]
            intro h5
            have u2 : U2 = [] := List.eq_nil_of_length_eq_zero (by omega)
            refine hAB (norm_unique HLA.out.norm HLB.out.norm fun q => ⟨fun hq => ?_, fun hq => ?_⟩)
            · refine Classical.byContradiction fun h6 => ?_
              have := (HM1.out q).2 ⟨hq, h6⟩
              rw [u1] at this
              exact lies_nil _ this
            · refine Classical.byContradiction fun h6 => ?_
              have := (HM2.out q).2 ⟨hq, h6⟩
              rw [u2] at this
              exact lies_nil _ this
          · exact .inr (.inl ⟨h1, h3, decide_eq_false hAB, by rw [beq_eq_false_iff_ne]; omega⟩)
  have HSM : Hid (Calls Try.prog 15 #[.slice a3 A.length cap3, .slice a6 B.length cap6] w15 _) := same_any hoA.rng hoB.rng
  have fA : (A.length : Int) ≤ 32768 := by omega
  have fB : (B.length : Int) ≤ 32768 := by omega
  clear hd1 hd2 HN1 HM1 HN2 HM2 hl1 hl2 hfA hfB
  rcases hcs with ⟨rfl, rfl, hab, rfl, rfl⟩ | ⟨rfl, rfl, hab, h1⟩ | ⟨rfl, rfl, hab, rfl, h2⟩ | ⟨rfl, rfl, hab⟩ | ⟨rfl, hab⟩
  · rw [hab] at HSM
    clear hab
    go_wp2_with fail
    refine (hnum _ _).mono ?_
    rintro e w16 ⟨rfl, rfl⟩
    go_wp2_with fail
    refine (hnum _ _).mono ?_
    rintro e w17 ⟨rfl, rfl⟩
    go_wp2_with fail
    refine HSM.out.mono ?_
    rintro e w18 ⟨rfl, hb18⟩
    have hB' : Below w.heap.size w w18 := hB15.trans (hb18.mono hB15.size)
    have hoA' := hoA.below hb18
    have hoB' := hoB.below hb18
    clear hb18 hoA hoB hB15 HSM
    go_wp2_with fail
    refine (copied_own hoA' (by omega)).mono ?_
    rintro e w20 ⟨a20, c20, rfl, ho20, hb20⟩
    go_wp2_with fail
    refine (make_lst ho20.rng HLA.out).mono ?_
    rintro e w21 ⟨a21, c21, rfl, ho21, hb21⟩
    have hb2 := hb20.trans (hb21.mono hb20.size)
    have hB21 := hB'.trans (hb2.mono hB'.size)
    have hoA2 := hoA'.below hb2
    have hoB2 := hoB'.below hb2
    clear hb20 hb21 hb2 ho20 hB' hoA' hoB'
    go_wp2_with fail
    refine (hnum _ _).mono ?_
    rintro e w22 ⟨rfl, rfl⟩
    go_wp2_with fail
    refine (same_refl ho21.rng hoA2.rng).mono ?_
    rintro e w23 ⟨rfl, hb23⟩
    have hB23 := hB21.trans (hb23.mono hB21.size)
    have hoA3 := hoA2.below hb23
    have hoB3 := hoB2.below hb23
    clear hb23 hB21 hoA2 hoB2 ho21
    go_wp2_with fail
    refine (copied_own hoA3 (by omega)).mono ?_
    rintro e w24 ⟨a24, c24, rfl, ho24, hb24⟩
    go_wp2_with fail
    refine (copied_own (hoB3.below hb24) (by omega)).mono ?_
    rintro e w25 ⟨a25, c25, rfl, ho25, hb25⟩
    go_wp2_with fail
    refine (union_set (ho24.below hb25).rng ho25.rng HLA.out HLB.out).mono ?_
    rintro e w26 ⟨U, hN, hM, hA, hb26⟩
    have hb2 := (hb24.trans (hb25.mono hb24.size)).trans (hb26.mono (hb24.trans (hb25.mono hb24.size)).size)
    have hB26 := hB23.trans (hb2.mono hB23.size)
    have hoA4 := hoA3.below hb2
    have hlu := len_union hN hM
    clear hb24 hb25 hb26 hb2 ho24 ho25 hB23 hoA3 hoB3
    rcases hA with ⟨hbig, rfl⟩ | ⟨hfew, aU, cU, rfl, hoU⟩
    · have hgt : (32768 : Int) < A.length + B.length := by omega
      clear hN hM hlu hbig
      go_wp2_with fail
      refine (hnum _ _).mono ?_
      rintro e w27 ⟨rfl, rfl⟩
      go_wp2_with fail
      refine (hnum _ _).mono ?_
      rintro e w28 ⟨rfl, rfl⟩
      go_wp2_with fail
      go_ret
      exact ⟨rfl, hB26⟩
    · have HLU : Hid (Lst U) := lst_of hN (fun q hq => by rcases (hM q).1 hq with h | h; exact (lst_lies HLA.out h).2; exact (lst_lies HLB.out h).2) hfew
      have HM : Hid (∀ q, Lies U q ↔ Lies A q ∨ Lies B q) := hM
      have fU : (U.length : Int) ≤ 32768 := by omega
      clear hN hM hlu hfew
      go_wp2_with fail
      refine (hnum _ _).mono ?_
      rintro e w27 ⟨rfl, rfl⟩
      go_wp2_with fail
      refine (copied_own hoA4 (by omega)).mono ?_
      rintro e w28 ⟨a28, c28, rfl, ho28, hb28⟩
      go_wp2_with fail
      refine (copied_own (hoU.below hb28) (by omega)).mono ?_
      rintro e w29 ⟨a29, c29, rfl, ho29, hb29⟩
      go_wp2_with fail
      refine (minus_set (ho28.below hb29).rng ho29.rng HLA.out HLU.out).mono ?_
      rintro e w30 ⟨V, hN, hM, hA, hb30⟩
      have hb2 := (hb28.trans (hb29.mono hb28.size)).trans (hb30.mono (hb28.trans (hb29.mono hb28.size)).size)
      have hB30 := hB26.trans (hb2.mono hB26.size)
      have hV : V = [] := nil_of_lies hN (fun q hq => by have := (hM q).1 hq; exact this.2 ((HM.out q).2 (.inl this.1)))
      subst hV
      rcases hA with ⟨hbig, _⟩ | ⟨_, aV, cV, rfl, _⟩
      · simp at hbig
      · clear hb28 hb29 hb30 hb2 ho28 ho29 hN hM hoU hoA4
        go_wp2_with fail
        refine (hnum _ _).mono ?_
        rintro e w31 ⟨rfl, rfl⟩
        go_wp2_with fail
        go_ret
        exact ⟨rfl, hB30⟩
  · rw [hab] at HSM
    clear hab
    go_wp2_with fail
    refine (hnum _ _).mono ?_
    rintro e w16 ⟨rfl, rfl⟩
    go_wp2_with fail
    refine (hnum _ _).mono ?_
    rintro e w17 ⟨rfl, rfl⟩
    go_wp2_with fail
    refine HSM.out.mono ?_
    rintro e w18 ⟨rfl, hb18⟩
    have hB' : Below w.heap.size w w18 := hB15.trans (hb18.mono hB15.size)
    have hoA' := hoA.below hb18
    have hoB' := hoB.below hb18
    clear hb18 hoA hoB hB15 HSM
    go_wp2_with fail
    refine (copied_own hoA' (by omega)).mono ?_
    rintro e w20 ⟨a20, c20, rfl, ho20, hb20⟩
    go_wp2_with fail
    refine (make_lst ho20.rng HLA.out).mono ?_
    rintro e w21 ⟨a21, c21, rfl, ho21, hb21⟩
    have hb2 := hb20.trans (hb21.mono hb20.size)
    have hB21 := hB'.trans (hb2.mono hB'.size)
    have hoA2 := hoA'.below hb2
    have hoB2 := hoB'.below hb2
    clear hb20 hb21 hb2 ho20 hB' hoA' hoB'
    go_wp2_with fail
    refine (hnum _ _).mono ?_
    rintro e w22 ⟨rfl, rfl⟩
    go_wp2_with fail
    refine (same_refl ho21.rng hoA2.rng).mono ?_
    rintro e w23 ⟨rfl, hb23⟩
    have hB23 := hB21.trans (hb23.mono hB21.size)
    have hoA3 := hoA2.below hb23
    have hoB3 := hoB2.below hb23
    clear hb23 hB21 hoA2 hoB2 ho21
    go_wp2_with fail
    refine (copied_own hoA3 (by omega)).mono ?_
    rintro e w24 ⟨a24, c24, rfl, ho24, hb24⟩
    go_wp2_with fail
    refine (copied_own (hoB3.below hb24) (by omega)).mono ?_
    rintro e w25 ⟨a25, c25, rfl, ho25, hb25⟩
    go_wp2_with fail
    refine (union_set (ho24.below hb25).rng ho25.rng HLA.out HLB.out).mono ?_
    rintro e w26 ⟨U, hN, hM, hA, hb26⟩
    have hb2 := (hb24.trans (hb25.mono hb24.size)).trans (hb26.mono (hb24.trans (hb25.mono hb24.size)).size)
    have hB26 := hB23.trans (hb2.mono hB23.size)
    have hoA4 := hoA3.below hb2
    have hlu := len_union hN hM
    clear hb24 hb25 hb26 hb2 ho24 ho25 hB23 hoA3 hoB3
    rcases hA with ⟨hbig, rfl⟩ | ⟨hfew, aU, cU, rfl, hoU⟩
    · have hgt : (32768 : Int) < A.length + B.length := by omega
      clear hN hM hlu hbig
      go_wp2_with fail
      refine (hnum _ _).mono ?_
      rintro e w27 ⟨rfl, rfl⟩
      go_wp2_with fail
      refine (hnum _ _).mono ?_
      rintro e w28 ⟨rfl, rfl⟩
      go_wp2_with fail
      go_ret
      exact ⟨rfl, hB26⟩
    · have HLU : Hid (Lst U) := lst_of hN (fun q hq => by rcases (hM q).1 hq with h | h; exact (lst_lies HLA.out h).2; exact (lst_lies HLB.out h).2) hfew
      have HM : Hid (∀ q, Lies U q ↔ Lies A q ∨ Lies B q) := hM
      have fU : (U.length : Int) ≤ 32768 := by omega
      clear hN hM hlu hfew
      go_wp2_with fail
      refine (hnum _ _).mono ?_
      rintro e w27 ⟨rfl, rfl⟩
      go_wp2_with fail
      refine (copied_own hoA4 (by omega)).mono ?_
      rintro e w28 ⟨a28, c28, rfl, ho28, hb28⟩
      go_wp2_with fail
      refine (copied_own (hoU.below hb28) (by omega)).mono ?_
      rintro e w29 ⟨a29, c29, rfl, ho29, hb29⟩
      go_wp2_with fail
      refine (minus_set (ho28.below hb29).rng ho29.rng HLA.out HLU.out).mono ?_
      rintro e w30 ⟨V, hN, hM, hA, hb30⟩
      have hb2 := (hb28.trans (hb29.mono hb28.size)).trans (hb30.mono (hb28.trans (hb29.mono hb28.size)).size)
      have hB30 := hB26.trans (hb2.mono hB26.size)
      have hV : V = [] := nil_of_lies hN (fun q hq => by have := (hM q).1 hq; exact this.2 ((HM.out q).2 (.inl this.1)))
      subst hV
      rcases hA with ⟨hbig, _⟩ | ⟨_, aV, cV, rfl, _⟩
      · simp at hbig
      · clear hb28 hb29 hb30 hb2 ho28 ho29 hN hM hoU hoA4
        go_wp2_with fail
        refine (hnum _ _).mono ?_
        rintro e w31 ⟨rfl, rfl⟩
        go_wp2_with fail
        go_ret
        exact ⟨rfl, hB30⟩
  · rw [hab] at HSM
    clear hab
    go_wp2_with fail
    refine (hnum _ _).mono ?_
    rintro e w16 ⟨rfl, rfl⟩
    go_wp2_with fail
    refine (hnum _ _).mono ?_
    rintro e w17 ⟨rfl, rfl⟩
    go_wp2_with fail
    refine HSM.out.mono ?_
    rintro e w18 ⟨rfl, hb18⟩
    have hB' : Below w.heap.size w w18 := hB15.trans (hb18.mono hB15.size)
    have hoA' := hoA.below hb18
    have hoB' := hoB.below hb18
    clear hb18 hoA hoB hB15 HSM
    go_wp2_with fail
    refine (copied_own hoA' (by omega)).mono ?_
    rintro e w20 ⟨a20, c20, rfl, ho20, hb20⟩
    go_wp2_with fail
    refine (make_lst ho20.rng HLA.out).mono ?_
    rintro e w21 ⟨a21, c21, rfl, ho21, hb21⟩
    have hb2 := hb20.trans (hb21.mono hb20.size)
    have hB21 := hB'.trans (hb2.mono hB'.size)
    have hoA2 := hoA'.below hb2
    have hoB2 := hoB'.below hb2
    clear hb20 hb21 hb2 ho20 hB' hoA' hoB'
    go_wp2_with fail
    refine (hnum _ _).mono ?_
    rintro e w22 ⟨rfl, rfl⟩
    go_wp2_with fail
    refine (same_refl ho21.rng hoA2.rng).mono ?_
    rintro e w23 ⟨rfl, hb23⟩
    have hB23 := hB21.trans (hb23.mono hB21.size)
    have hoA3 := hoA2.below hb23
    have hoB3 := hoB2.below hb23
    clear hb23 hB21 hoA2 hoB2 ho21
    go_wp2_with fail
    refine (copied_own hoA3 (by omega)).mono ?_
    rintro e w24 ⟨a24, c24, rfl, ho24, hb24⟩
    go_wp2_with fail
    refine (copied_own (hoB3.below hb24) (by omega)).mono ?_
    rintro e w25 ⟨a25, c25, rfl, ho25, hb25⟩
    go_wp2_with fail
    refine (union_set (ho24.below hb25).rng ho25.rng HLA.out HLB.out).mono ?_
    rintro e w26 ⟨U, hN, hM, hA, hb26⟩
    have hb2 := (hb24.trans (hb25.mono hb24.size)).trans (hb26.mono (hb24.trans (hb25.mono hb24.size)).size)
    have hB26 := hB23.trans (hb2.mono hB23.size)
    have hoA4 := hoA3.below hb2
    have hlu := len_union hN hM
    clear hb24 hb25 hb26 hb2 ho24 ho25 hB23 hoA3 hoB3
    rcases hA with ⟨hbig, rfl⟩ | ⟨hfew, aU, cU, rfl, hoU⟩
    · have hgt : (32768 : Int) < A.length + B.length := by omega
      clear hN hM hlu hbig
      go_wp2_with fail
      refine (hnum _ _).mono ?_
      rintro e w27 ⟨rfl, rfl⟩
      go_wp2_with fail
      refine (hnum _ _).mono ?_
      rintro e w28 ⟨rfl, rfl⟩
      go_wp2_with fail
      go_ret
      exact ⟨rfl, hB26⟩
    · have HLU : Hid (Lst U) := lst_of hN (fun q hq => by rcases (hM q).1 hq with h | h; exact (lst_lies HLA.out h).2; exact (lst_lies HLB.out h).2) hfew
      have HM : Hid (∀ q, Lies U q ↔ Lies A q ∨ Lies B q) := hM
      have fU : (U.length : Int) ≤ 32768 := by omega
      clear hN hM hlu hfew
      go_wp2_with fail
      refine (hnum _ _).mono ?_
      rintro e w27 ⟨rfl, rfl⟩
      go_wp2_with fail
      refine (copied_own hoA4 (by omega)).mono ?_
      rintro e w28 ⟨a28, c28, rfl, ho28, hb28⟩
      go_wp2_with fail
      refine (copied_own (hoU.below hb28) (by omega)).mono ?_
      rintro e w29 ⟨a29, c29, rfl, ho29, hb29⟩
      go_wp2_with fail
      refine (minus_set (ho28.below hb29).rng ho29.rng HLA.out HLU.out).mono ?_
      rintro e w30 ⟨V, hN, hM, hA, hb30⟩
      have hb2 := (hb28.trans (hb29.mono hb28.size)).trans (hb30.mono (hb28.trans (hb29.mono hb28.size)).size)
      have hB30 := hB26.trans (hb2.mono hB26.size)
      have hV : V = [] := nil_of_lies hN (fun q hq => by have := (hM q).1 hq; exact this.2 ((HM.out q).2 (.inl this.1)))
      subst hV
      rcases hA with ⟨hbig, _⟩ | ⟨_, aV, cV, rfl, _⟩
      · simp at hbig
      · clear hb28 hb29 hb30 hb2 ho28 ho29 hN hM hoU hoA4
        go_wp2_with fail
        refine (hnum _ _).mono ?_
        rintro e w31 ⟨rfl, rfl⟩
        go_wp2_with fail
        go_ret
        exact ⟨rfl, hB30⟩
  · go_wp2_with fail
    refine (hnum _ _).mono ?_
    rintro e w16 ⟨rfl, rfl⟩
    go_wp2_with fail
    refine (hnum _ _).mono ?_
    rintro e w17 ⟨rfl, rfl⟩
    have hB' := hB15
    have hoA' := hoA
    have hoB' := hoB
    clear hoA hoB hB15 HSM
    go_wp2_with fail
    refine (copied_own hoA' (by omega)).mono ?_
    rintro e w20 ⟨a20, c20, rfl, ho20, hb20⟩
    go_wp2_with fail
    refine (make_lst ho20.rng HLA.out).mono ?_
    rintro e w21 ⟨a21, c21, rfl, ho21, hb21⟩
    have hb2 := hb20.trans (hb21.mono hb20.size)
    have hB21 := hB'.trans (hb2.mono hB'.size)
    have hoA2 := hoA'.below hb2
    have hoB2 := hoB'.below hb2
    clear hb20 hb21 hb2 ho20 hB' hoA' hoB'
    go_wp2_with fail
    refine (hnum _ _).mono ?_
    rintro e w22 ⟨rfl, rfl⟩
    go_wp2_with fail
    refine (same_refl ho21.rng hoA2.rng).mono ?_
    rintro e w23 ⟨rfl, hb23⟩
    have hB23 := hB21.trans (hb23.mono hB21.size)
    have hoA3 := hoA2.below hb23
    have hoB3 := hoB2.below hb23
    clear hb23 hB21 hoA2 hoB2 ho21
    go_wp2_with fail
    refine (copied_own hoA3 (by omega)).mono ?_
    rintro e w24 ⟨a24, c24, rfl, ho24, hb24⟩
    go_wp2_with fail
    refine (copied_own (hoB3.below hb24) (by omega)).mono ?_
    rintro e w25 ⟨a25, c25, rfl, ho25, hb25⟩
    go_wp2_with fail
    refine (union_set (ho24.below hb25).rng ho25.rng HLA.out HLB.out).mono ?_
    rintro e w26 ⟨U, hN, hM, hA, hb26⟩
    have hb2 := (hb24.trans (hb25.mono hb24.size)).trans (hb26.mono (hb24.trans (hb25.mono hb24.size)).size)
    have hB26 := hB23.trans (hb2.mono hB23.size)
    have hoA4 := hoA3.below hb2
    have hlu := len_union hN hM
    clear hb24 hb25 hb26 hb2 ho24 ho25 hB23 hoA3 hoB3
    rcases hA with ⟨hbig, rfl⟩ | ⟨hfew, aU, cU, rfl, hoU⟩
    · have hgt : (32768 : Int) < A.length + B.length := by omega
      clear hN hM hlu hbig
      go_wp2_with fail
      refine (hnum _ _).mono ?_
      rintro e w27 ⟨rfl, rfl⟩
      go_wp2_with fail
      refine (hnum _ _).mono ?_
      rintro e w28 ⟨rfl, rfl⟩
      go_wp2_with fail
      go_ret
      exact ⟨rfl, hB26⟩
    · have HLU : Hid (Lst U) := lst_of hN (fun q hq => by rcases (hM q).1 hq with h | h; exact (lst_lies HLA.out h).2; exact (lst_lies HLB.out h).2) hfew
      have HM : Hid (∀ q, Lies U q ↔ Lies A q ∨ Lies B q) := hM
      have fU : (U.length : Int) ≤ 32768 := by omega
      clear hN hM hlu hfew
      go_wp2_with fail
      refine (hnum _ _).mono ?_
      rintro e w27 ⟨rfl, rfl⟩
      go_wp2_with fail
      refine (copied_own hoA4 (by omega)).mono ?_
      rintro e w28 ⟨a28, c28, rfl, ho28, hb28⟩
      go_wp2_with fail
      refine (copied_own (hoU.below hb28) (by omega)).mono ?_
      rintro e w29 ⟨a29, c29, rfl, ho29, hb29⟩
      go_wp2_with fail
      refine (minus_set (ho28.below hb29).rng ho29.rng HLA.out HLU.out).mono ?_
      rintro e w30 ⟨V, hN, hM, hA, hb30⟩
      have hb2 := (hb28.trans (hb29.mono hb28.size)).trans (hb30.mono (hb28.trans (hb29.mono hb28.size)).size)
      have hB30 := hB26.trans (hb2.mono hB26.size)
      have hV : V = [] := nil_of_lies hN (fun q hq => by have := (hM q).1 hq; exact this.2 ((HM.out q).2 (.inl this.1)))
      subst hV
      rcases hA with ⟨hbig, _⟩ | ⟨_, aV, cV, rfl, _⟩
      · simp at hbig
      · clear hb28 hb29 hb30 hb2 ho28 ho29 hN hM hoU hoA4
        go_wp2_with fail
        refine (hnum _ _).mono ?_
        rintro e w31 ⟨rfl, rfl⟩
        go_wp2_with fail
        go_ret
        exact ⟨rfl, hB30⟩
  · go_wp2_with fail
    refine (hnum _ _).mono ?_
    rintro e w16 ⟨rfl, rfl⟩
    have hB' := hB15
    have hoA' := hoA
    have hoB' := hoB
    clear hoA hoB hB15 HSM
    go_wp2_with fail
    refine (copied_own hoA' (by omega)).mono ?_
    rintro e w20 ⟨a20, c20, rfl, ho20, hb20⟩
    go_wp2_with fail
    refine (make_lst ho20.rng HLA.out).mono ?_
    rintro e w21 ⟨a21, c21, rfl, ho21, hb21⟩
    have hb2 := hb20.trans (hb21.mono hb20.size)
    have hB21 := hB'.trans (hb2.mono hB'.size)
    have hoA2 := hoA'.below hb2
    have hoB2 := hoB'.below hb2
    clear hb20 hb21 hb2 ho20 hB' hoA' hoB'
    go_wp2_with fail
    refine (hnum _ _).mono ?_
    rintro e w22 ⟨rfl, rfl⟩
    go_wp2_with fail
    refine (same_refl ho21.rng hoA2.rng).mono ?_
    rintro e w23 ⟨rfl, hb23⟩
    have hB23 := hB21.trans (hb23.mono hB21.size)
    have hoA3 := hoA2.below hb23
    have hoB3 := hoB2.below hb23
    clear hb23 hB21 hoA2 hoB2 ho21
    go_wp2_with fail
    refine (copied_own hoA3 (by omega)).mono ?_
    rintro e w24 ⟨a24, c24, rfl, ho24, hb24⟩
    go_wp2_with fail
    refine (copied_own (hoB3.below hb24) (by omega)).mono ?_
    rintro e w25 ⟨a25, c25, rfl, ho25, hb25⟩
    go_wp2_with fail
    refine (union_set (ho24.below hb25).rng ho25.rng HLA.out HLB.out).mono ?_
    rintro e w26 ⟨U, hN, hM, hA, hb26⟩
    have hb2 := (hb24.trans (hb25.mono hb24.size)).trans (hb26.mono (hb24.trans (hb25.mono hb24.size)).size)
    have hB26 := hB23.trans (hb2.mono hB23.size)
    have hoA4 := hoA3.below hb2
    have hlu := len_union hN hM
    clear hb24 hb25 hb26 hb2 ho24 ho25 hB23 hoA3 hoB3
    rcases hA with ⟨hbig, rfl⟩ | ⟨hfew, aU, cU, rfl, hoU⟩
    · have hgt : (32768 : Int) < A.length + B.length := by omega
      clear hN hM hlu hbig
      go_wp2_with fail
      refine (hnum _ _).mono ?_
      rintro e w27 ⟨rfl, rfl⟩
      go_wp2_with fail
      refine (hnum _ _).mono ?_
      rintro e w28 ⟨rfl, rfl⟩
      go_wp2_with fail
      go_ret
      exact ⟨rfl, hB26⟩
    · have HLU : Hid (Lst U) := lst_of hN (fun q hq => by rcases (hM q).1 hq with h | h; exact (lst_lies HLA.out h).2; exact (lst_lies HLB.out h).2) hfew
      have HM : Hid (∀ q, Lies U q ↔ Lies A q ∨ Lies B q) := hM
      have fU : (U.length : Int) ≤ 32768 := by omega
      clear hN hM hlu hfew
      go_wp2_with fail
      refine (hnum _ _).mono ?_
      rintro e w27 ⟨rfl, rfl⟩
      go_wp2_with fail
      refine (copied_own hoA4 (by omega)).mono ?_
      rintro e w28 ⟨a28, c28, rfl, ho28, hb28⟩
      go_wp2_with fail
      refine (copied_own (hoU.below hb28) (by omega)).mono ?_
      rintro e w29 ⟨a29, c29, rfl, ho29, hb29⟩
      go_wp2_with fail
      refine (minus_set (ho28.below hb29).rng ho29.rng HLA.out HLU.out).mono ?_
      rintro e w30 ⟨V, hN, hM, hA, hb30⟩
      have hb2 := (hb28.trans (hb29.mono hb28.size)).trans (hb30.mono (hb28.trans (hb29.mono hb28.size)).size)
      have hB30 := hB26.trans (hb2.mono hB26.size)
      have hV : V = [] := nil_of_lies hN (fun q hq => by have := (hM q).1 hq; exact this.2 ((HM.out q).2 (.inl this.1)))
      subst hV
      rcases hA with ⟨hbig, _⟩ | ⟨_, aV, cV, rfl, _⟩
      · simp at hbig
      · clear hb28 hb29 hb30 hb2 ho28 ho29 hN hM hoU hoA4
        go_wp2_with fail
        refine (hnum _ _).mono ?_
        rintro e w31 ⟨rfl, rfl⟩
        go_wp2_with fail
        go_ret
        exact ⟨rfl, hB30⟩
end Go.Proofs.Ytohfckcikincoaa
