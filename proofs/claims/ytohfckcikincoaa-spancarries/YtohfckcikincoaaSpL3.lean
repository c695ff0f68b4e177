import Derived.Test.YtohfckcikincoaaSpCr
namespace Go.Proofs.Ytohfckcikincoaa
open Go.RowKit Go.Lib
set_option maxRecDepth 100000

theorem why_ok {l : List (Int × Int)} {at_ k : Int} (h : whyOf l at_ k = 0) : ((0 ≤ at_ ∧ at_ ≤ 1048576) ∧ 0 ≤ k ∧ k ≤ 1048576) ∧ ¬ grows l at_ k := by
  unfold whyOf at h
  split at h
  · rename_i hp
    split at h
    · omega
    · rename_i hg
      exact ⟨hp, hg⟩
  · omega
theorem grows_lies {l : List (Int × Int)} (hl : Lst l) {at_ k q : Int} (hg : ¬ grows l at_ k) (hq : Lies l q) (hle : at_ ≤ q) : q + k < 1048576 := by
  obtain ⟨r, hr, h1, h2⟩ := hq
  obtain ⟨x, hx⟩ : ∃ x, l.getLast? = some x := by
    cases hl' : l.getLast? with
    | none => rw [List.getLast?_eq_none_iff.1 hl'] at hr; cases hr
    | some x => exact ⟨x, rfl⟩
  have := lst_last hl.norm hx r hr
  refine Classical.byContradiction fun h3 => hg ⟨x, hx, by omega, by omega⟩
set_option maxHeartbeats 4000000 in
theorem spanCarries_any {w : World} {v : Value} {a : Option Addr} {na ca : Nat} {la : List (Int × Int)} {b : Option Addr} {nb cb : Nat} {lb : List (Int × Int)} {pa : Option Addr} {np cp : Nat} {zs : List Int} {at_ n : Int} (hi : InR w v a na ca la b nb cb lb pa np cp zs at_ n) :
    Calls Try.prog 6 #[v] w fun e w' => e = .returned (.bool true) ∧ Below w.heap.size w w' := by
  have hra := hi.ra
  have hrb := hi.rb
  have hv := hi.val
  subst hv
  clear hi
  have hnum := num_any
  go_enter Try.func6, Try.ntmps6
  go_wp2_with fail
  have hB0 : Below w.heap.size w (w.alloc (.cells #[.slice a na ca, .slice b nb cb, .slice pa np cp, .int .i64 at_, .int .i64 n] 25)) := (Below.refl _ _).alloc (Nat.le_refl _) _
  refine (right_any (hra.below hB0)).mono ?_
  rintro e w1 ⟨o1, no1, co1, p1, rfl, ho1, hb1, HP1, hn1⟩
  go_wp2_with fail
  refine (lawCopied_any ho1.rng (by omega)).mono ?_
  rintro e w2 ⟨a2, cap2, rfl, ho2, hb2⟩
  go_wp2_with fail
  refine (make_parts ho2.rng (by omega) HP1.out).mono ?_
  rintro e w3 ⟨A, a3, cap3, rfl, hoA, hb3, hLA, _⟩
  have hb13 := (hb1.trans (hb2.mono hb1.size)).trans (hb3.mono (hb1.trans (hb2.mono hb1.size)).size)
  have hB3 : Below w.heap.size w w3 := hB0.trans (hb13.mono (by simp))
  have hs3 : w.heap.size < w3.heap.size := by have := hb13.size; simp at this; omega
  have c1 : w3.cell? ⟨w.heap.size, 1, none⟩ = some (.slice b nb cb) := (hb13.cell (p := ⟨w.heap.size, 1, none⟩) (by simp)).trans (World.cell?_alloc_mark _ _ _ _ _)
  clear hb1 hb2 hb3 hb13 ho1 ho2 HP1 hB0 hra
  go_wp2_with fail
  refine (right_any (hrb.below hB3)).mono ?_
  rintro e w4 ⟨o4, no4, co4, p4, rfl, ho4, hb4, HP4, hn4⟩
  go_wp2_with fail
  refine (lawCopied_any ho4.rng (by omega)).mono ?_
  rintro e w5 ⟨a5, cap5, rfl, ho5, hb5⟩
  go_wp2_with fail
  refine (make_parts ho5.rng (by omega) HP4.out).mono ?_
  rintro e w6 ⟨B, a6, cap6, rfl, hoB, hb6, hLB, _⟩
  have hb36 := (hb4.trans (hb5.mono hb4.size)).trans (hb6.mono (hb4.trans (hb5.mono hb4.size)).size)
  have hB6 : Below w.heap.size w w6 := hB3.trans (hb36.mono hB3.size)
  replace hoA := hoA.below hb36
  clear hb4 hb5 hb6 hb36 ho4 ho5 HP4 hrb c1 hB3
  have fA : (A.length : Int) ≤ 32768 := by have := hLA.few; omega
  have fB : (B.length : Int) ≤ 32768 := by have := hLB.few; omega
  have HLA : Hid (Lst A) := hLA
  have HLB : Hid (Lst B) := hLB
  clear hLA hLB
  go_wp2_with fail
  refine (hnum _ _).mono ?_
  rintro e w7 ⟨rfl, rfl⟩
  go_wp2_with fail
  refine (hnum _ _).mono ?_
  rintro e w8 ⟨rfl, rfl⟩
  go_wp2_with fail
  refine (awake_any _).mono ?_
  rintro e w9 ⟨rfl, hb9⟩
  have hB9 : Below w.heap.size w w9 := hB6.trans (hb9.mono hB6.size)
  replace hoA := hoA.below hb9
  replace hoB := hoB.below hb9
  clear hb9 hB6
  go_wp2_with fail
  refine (copied_own hoA (by omega)).mono ?_
  rintro e w10 ⟨a10, c10, rfl, ho10, hb10⟩
  go_wp2_with fail
  refine (through_all ho10.rng HLA.out at_ n).mono ?_
  rintro e w11 ⟨hb11, x, nx, cx, e1, rfl, hX⟩
  have hbb := hb10.trans (hb11.mono hb10.size)
  have hB11 : Below w.heap.size w w11 := hB9.trans (hbb.mono hB9.size)
  have h9le := hb10.size
  have h911 := hbb.size
  replace hoA := hoA.below hbb
  replace hoB := hoB.below hbb
  clear hb10 hb11 hbb ho10 hB9
  go_wp2_with fail
  refine (copied_own hoB (by omega)).mono ?_
  rintro e w12 ⟨a12, c12, rfl, ho12, hb12⟩
  go_wp2_with fail
  refine (through_all ho12.rng HLB.out at_ n).mono ?_
  rintro e w13 ⟨hb13, y, ny, cy, e2, rfl, hY⟩
  have hbb := hb12.trans (hb13.mono hb12.size)
  have hB13 : Below w.heap.size w w13 := hB11.trans (hbb.mono hB11.size)
  replace hoA := hoA.below hbb
  replace hoB := hoB.below hbb
  have h9le2 : w9.heap.size ≤ w12.heap.size := Nat.le_trans h911 hb12.size
  have HX : Hid ((e1 = whyOf A at_ n ∧ e1 ≠ 0) ∨ (whyOf A at_ n = 0 ∧ e1 = 21 ∧ (A.length : Int) = 32768) ∨ (whyOf A at_ n = 0 ∧ e1 = 0 ∧ nx = (throughL A at_ n).length ∧ nx ≤ 32768 ∧ Own w13 w9.heap.size (.slice x nx cx) (throughL A at_ n))) := by
    rcases hX with h | h | ⟨h1, h2, h3, h4, h5⟩
    · exact .inl h
    · exact .inr (.inl h)
    · exact .inr (.inr ⟨h1, h2, h3, h4, (h5.mono h9le).below hbb⟩)
  have HY : Hid ((e2 = whyOf B at_ n ∧ e2 ≠ 0) ∨ (whyOf B at_ n = 0 ∧ e2 = 21 ∧ (B.length : Int) = 32768) ∨ (whyOf B at_ n = 0 ∧ e2 = 0 ∧ ny = (throughL B at_ n).length ∧ ny ≤ 32768 ∧ Own w13 w9.heap.size (.slice y ny cy) (throughL B at_ n))) := by
    rcases hY with h | h | ⟨h1, h2, h3, h4, h5⟩
    · exact .inl h
    · exact .inr (.inl h)
    · exact .inr (.inr ⟨h1, h2, h3, h4, h5.mono h9le2⟩)
  clear hb12 hb13 hbb ho12 hB11 hX hY
  -- the refusals
  have HRA : Hid (∀ W, Below w13.heap.size w13 W → Calls Try.prog 25 #[.slice a3 A.length cap3, .int .i64 at_, .int .i64 n] W _) := fun W hb => refusal_any (hoA.rng.below hb) HLA.out at_ n
  have HRB : Hid (∀ W, Below w13.heap.size w13 W → Calls Try.prog 25 #[.slice a6 B.length cap6, .int .i64 at_, .int .i64 n] W _) := fun W hb => refusal_any (hoB.rng.below hb) HLB.out at_ n
  by_cases hwa : whyOf A at_ n = 0
  · by_cases hwb : whyOf B at_ n = 0
    · have hgA := why_ok hwa
      have hgB := why_ok hwb
      rw [hwa] at HRA
      rw [hwb] at HRB
      go_wp2_with fail
      refine (HRA.out _ (Below.refl _ _)).mono ?_
      rintro e w14 ⟨rfl, hb14⟩
      go_wp2_with fail
      refine (HRB.out _ hb14).mono ?_
      rintro e w15 ⟨rfl, hb15⟩
      have hbc := hb14.trans (hb15.mono hb14.size)
      have hB15 := hB13.trans (hbc.mono hB13.size)
      replace hoA := hoA.below hbc
      replace hoB := hoB.below hbc
      clear hb14 hb15 hB13 HRA HRB
      by_cases hbig : (32768 : Int) ≤ A.length + B.length
      · clear HX HY hgA hgB hwa hwb
        go_wp2_with fail
        go_ret
        exact ⟨rfl, hB15⟩
      · obtain ⟨rfl, rfl, fX, hoX⟩ : e1 = 0 ∧ nx = (throughL A at_ n).length ∧ nx ≤ 32768 ∧ Own w13 w9.heap.size (.slice x nx cx) (throughL A at_ n) := by
          rcases HX.out with ⟨h1, h2⟩ | ⟨_, _, h3⟩ | ⟨_, h2, h3, h4, h5⟩
          · exact absurd (h1.trans hwa) h2
          · omega
          · exact ⟨h2, h3, h4, h5⟩
        obtain ⟨rfl, rfl, fY, hoY⟩ : e2 = 0 ∧ ny = (throughL B at_ n).length ∧ ny ≤ 32768 ∧ Own w13 w9.heap.size (.slice y ny cy) (throughL B at_ n) := by
          rcases HY.out with ⟨h1, h2⟩ | ⟨_, _, h3⟩ | ⟨_, h2, h3, h4, h5⟩
          · exact absurd (h1.trans hwb) h2
          · omega
          · exact ⟨h2, h3, h4, h5⟩
        replace hoX := hoX.below hbc
        replace hoY := hoY.below hbc
        obtain ⟨hp, gA⟩ := hgA
        have gB := hgB.2
        obtain ⟨xN, xM⟩ := throughL_all HLA.out hp.1 hp.2
        obtain ⟨yN, yM⟩ := throughL_all HLB.out hp.1 hp.2
        have HLX : Hid (Lst (throughL A at_ n)) := lst_of xN (fun q hq => by
          rcases (xM q).1 hq with h' | h'
          · exact (lst_lies HLA.out h'.1).2
          · have := grows_lies HLA.out gA h'.1 h'.2; omega) fX
        have HLY : Hid (Lst (throughL B at_ n)) := lst_of yN (fun q hq => by
          rcases (yM q).1 hq with h' | h'
          · exact (lst_lies HLB.out h'.1).2
          · have := grows_lies HLB.out gB h'.1 h'.2; omega) fY
        have HXM : Hid (∀ q, Lies (throughL A at_ n) q ↔ (Lies A q ∧ q < at_) ∨ (Lies A (q - n) ∧ at_ ≤ q - n)) := xM
        have HYM : Hid (∀ q, Lies (throughL B at_ n) q ↔ (Lies B q ∧ q < at_) ∨ (Lies B (q - n) ∧ at_ ≤ q - n)) := yM
        have HP : Hid ((0 ≤ at_ ∧ at_ ≤ 1048576) ∧ 0 ≤ n ∧ n ≤ 1048576) := hp
        have HGA : Hid (¬ grows A at_ n) := gA
        have HGB : Hid (¬ grows B at_ n) := gB
        have fX' : ((throughL A at_ n).length : Int) ≤ 32768 := by omega
        have fY' : ((throughL B at_ n).length : Int) ≤ 32768 := by omega
        have HSMM : Hid ((A.length : Int) + B.length < 32768) := (by omega : (A.length : Int) + B.length < 32768)
        have dsm : decide ((32768 : Int) ≤ (A.length : Int) + (B.length : Int)) = false := decide_eq_false (by omega)
        have HW9 : Hid (w9.heap.size = w9.heap.size) := rfl
        clear xN xM yN yM fX fY HX HY hbig hwa hwb hp gA gB hgB hbc
        generalize throughL A at_ n = X at *
        generalize throughL B at_ n = Y at *
        go_wp2_with fail
        have hsm := HSMM.out
        refine (hnum _ _).mono ?_
        rintro e w16 ⟨rfl, rfl⟩
        go_wp2_with fail
        refine (hnum _ _).mono ?_
        rintro e w17 ⟨rfl, rfl⟩
        go_wp2_with fail
        refine (copied_own hoA (by omega)).mono ?_
        rintro e vua ⟨pua, qua, rfl, tua, gua⟩
        go_wp2_with fail
        refine (copied_own (hoB.below gua) (by omega)).mono ?_
        rintro e vub ⟨pub, qub, rfl, tub, gub⟩
        go_wp2_with fail
        refine (union_set (tua.below gub).rng tub.rng HLA.out HLB.out).mono ?_
        rintro e vuc ⟨U, hNu, hMu, hAu, guc⟩
        have hbu := (gua.trans (gub.mono gua.size)).trans (guc.mono (gua.trans (gub.mono gua.size)).size)
        have hBu := hB15.trans (hbu.mono hB15.size)
        replace hoA := hoA.below hbu
        replace hoB := hoB.below hbu
        replace hoX := hoX.below hbu
        replace hoY := hoY.below hbu
        have HNu : Hid (Norm (-1) U) := hNu
        have HMu : Hid (∀ q, Lies U q ↔ Lies A q ∨ Lies B q) := hMu
        have hlu := len_union hNu hMu
        clear gua gub guc hbu tua tub hB15 hNu hMu
        obtain ⟨zu, czu, rfl, hoUu⟩ : ∃ z cz, e = .returned (.tuple #[.slice z U.length cz, .int .i64 0]) ∧ Own vuc _ (.slice z U.length cz) U := by
          rcases hAu with ⟨h, _⟩ | ⟨_, z, cz, h, ho⟩
          · omega
          · exact ⟨z, cz, h, ho⟩
        clear hAu
        go_wp2_with fail
        refine (copied_own hoA (by omega)).mono ?_
        rintro e vma ⟨pma, qma, rfl, tma, gma⟩
        go_wp2_with fail
        refine (copied_own (hoB.below gma) (by omega)).mono ?_
        rintro e vmb ⟨pmb, qmb, rfl, tmb, gmb⟩
        go_wp2_with fail
        refine (meet_set (tma.below gmb).rng tmb.rng HLA.out HLB.out).mono ?_
        rintro e vmc ⟨M, hNm, hMm, hAm, gmc⟩
        have hbm := (gma.trans (gmb.mono gma.size)).trans (gmc.mono (gma.trans (gmb.mono gma.size)).size)
        have hBm := hBu.trans (hbm.mono hBu.size)
        replace hoA := hoA.below hbm
        replace hoB := hoB.below hbm
        replace hoX := hoX.below hbm
        replace hoY := hoY.below hbm
        replace hoUu := hoUu.below hbm
        have HNm : Hid (Norm (-1) M) := hNm
        have HMm : Hid (∀ q, Lies M q ↔ Lies A q ∧ Lies B q) := hMm
        have hlm := len_meet hNm hMm
        clear gma gmb gmc hbm tma tmb hBu hNm hMm
        obtain ⟨zm, czm, rfl, hoUm⟩ : ∃ z cz, e = .returned (.tuple #[.slice z M.length cz, .int .i64 0]) ∧ Own vmc _ (.slice z M.length cz) M := by
          rcases hAm with ⟨h, _⟩ | ⟨_, z, cz, h, ho⟩
          · omega
          · exact ⟨z, cz, h, ho⟩
        clear hAm
        go_wp2_with fail
        refine (copied_own hoA (by omega)).mono ?_
        rintro e vda ⟨pda, qda, rfl, tda, gda⟩
        go_wp2_with fail
        refine (copied_own (hoB.below gda) (by omega)).mono ?_
        rintro e vdb ⟨pdb, qdb, rfl, tdb, gdb⟩
        go_wp2_with fail
        refine (minus_set (tda.below gdb).rng tdb.rng HLA.out HLB.out).mono ?_
        rintro e vdc ⟨D, hNd, hMd, hAd, gdc⟩
        have hbd := (gda.trans (gdb.mono gda.size)).trans (gdc.mono (gda.trans (gdb.mono gda.size)).size)
        have hBd := hBm.trans (hbd.mono hBm.size)
        replace hoX := hoX.below hbd
        replace hoY := hoY.below hbd
        replace hoUu := hoUu.below hbd
        replace hoUm := hoUm.below hbd
        have HNd : Hid (Norm (-1) D) := hNd
        have HMd : Hid (∀ q, Lies D q ↔ Lies A q ∧ ¬ Lies B q) := hMd
        have hld := len_minus hNd hMd
        clear gda gdb gdc hbd tda tdb hBm hNd hMd
        obtain ⟨zd, czd, rfl, hoUd⟩ : ∃ z cz, e = .returned (.tuple #[.slice z D.length cz, .int .i64 0]) ∧ Own vdc _ (.slice z D.length cz) D := by
          rcases hAd with ⟨h, _⟩ | ⟨_, z, cz, h, ho⟩
          · omega
          · exact ⟨z, cz, h, ho⟩
        clear hAd
        have HLU : Hid (Lst U) := lst_of HNu.out (fun q hq => by rcases (HMu.out q).1 hq with h | h; exact (lst_lies HLA.out h).2; exact (lst_lies HLB.out h).2) (by omega)
        have HLM : Hid (Lst M) := lst_of HNm.out (fun q hq => (lst_lies HLA.out ((HMm.out q).1 hq).1).2) (by omega)
        have HLD : Hid (Lst D) := lst_of HNd.out (fun q hq => (lst_lies HLA.out ((HMd.out q).1 hq).1).2) (by omega)
        have HGU : Hid (¬ grows U at_ n) := not_grows HNu.out (fun q hq hle => by rcases (HMu.out q).1 hq with h | h; exact grows_lies HLA.out HGA.out h hle; exact grows_lies HLB.out HGB.out h hle)
        have HGM : Hid (¬ grows M at_ n) := not_grows HNm.out (fun q hq hle => grows_lies HLA.out HGA.out ((HMm.out q).1 hq).1 hle)
        have HGD : Hid (¬ grows D at_ n) := not_grows HNd.out (fun q hq hle => grows_lies HLA.out HGA.out ((HMd.out q).1 hq).1 hle)
        clear hoA hoB
        go_wp2_with fail
        refine (through_ok hoUu.rng HLU.out HP.out HGU.out).mono ?_
        rintro e vut ⟨hAut, gut⟩
        have hBut := hBd.trans (gut.mono hBd.size)
        obtain ⟨Nut, Mut⟩ := throughL_all HLU.out HP.out.1 HP.out.2
        have HNut : Hid (Norm (-1) (throughL U at_ n)) := Nut
        have HMut : Hid (∀ q, Lies (throughL U at_ n) q ↔ (Lies U q ∧ q < at_) ∨ (Lies U (q - n) ∧ at_ ≤ q - n)) := Mut
        have hlut := through_len HLU.out HP.out.1 HP.out.2
        obtain ⟨zut, czut, rfl, hoTu⟩ : ∃ z cz, e = .returned (.tuple #[.slice z (throughL U at_ n).length cz, .int .i64 0]) ∧ Own vut _ (.slice z (throughL U at_ n).length cz) (throughL U at_ n) := by
          rcases hAut with ⟨h, _⟩ | ⟨_, z, cz, h, ho⟩
          · omega
          · exact ⟨z, cz, h, ho⟩
        replace hoX := hoX.below gut
        replace hoY := hoY.below gut
        replace hoUm := hoUm.below gut
        replace hoUd := hoUd.below gut
        clear hAut gut hBd Nut Mut hoUu
        generalize throughL U at_ n = Tu at *
        go_wp2_with fail
        refine (through_ok hoUm.rng HLM.out HP.out HGM.out).mono ?_
        rintro e vmt ⟨hAmt, gmt⟩
        have hBmt := hBut.trans (gmt.mono hBut.size)
        obtain ⟨Nmt, Mmt⟩ := throughL_all HLM.out HP.out.1 HP.out.2
        have HNmt : Hid (Norm (-1) (throughL M at_ n)) := Nmt
        have HMmt : Hid (∀ q, Lies (throughL M at_ n) q ↔ (Lies M q ∧ q < at_) ∨ (Lies M (q - n) ∧ at_ ≤ q - n)) := Mmt
        have hlmt := through_len HLM.out HP.out.1 HP.out.2
        obtain ⟨zmt, czmt, rfl, hoTm⟩ : ∃ z cz, e = .returned (.tuple #[.slice z (throughL M at_ n).length cz, .int .i64 0]) ∧ Own vmt _ (.slice z (throughL M at_ n).length cz) (throughL M at_ n) := by
          rcases hAmt with ⟨h, _⟩ | ⟨_, z, cz, h, ho⟩
          · omega
          · exact ⟨z, cz, h, ho⟩
        replace hoX := hoX.below gmt
        replace hoY := hoY.below gmt
        replace hoUd := hoUd.below gmt
        replace hoTu := hoTu.below gmt
        clear hAmt gmt hBut Nmt Mmt hoUm
        generalize throughL M at_ n = Tm at *
        go_wp2_with fail
        refine (through_ok hoUd.rng HLD.out HP.out HGD.out).mono ?_
        rintro e vdt ⟨hAdt, gdt⟩
        have hBdt := hBmt.trans (gdt.mono hBmt.size)
        obtain ⟨Ndt, Mdt⟩ := throughL_all HLD.out HP.out.1 HP.out.2
        have HNdt : Hid (Norm (-1) (throughL D at_ n)) := Ndt
        have HMdt : Hid (∀ q, Lies (throughL D at_ n) q ↔ (Lies D q ∧ q < at_) ∨ (Lies D (q - n) ∧ at_ ≤ q - n)) := Mdt
        have hldt := through_len HLD.out HP.out.1 HP.out.2
        obtain ⟨zdt, czdt, rfl, hoTd⟩ : ∃ z cz, e = .returned (.tuple #[.slice z (throughL D at_ n).length cz, .int .i64 0]) ∧ Own vdt _ (.slice z (throughL D at_ n).length cz) (throughL D at_ n) := by
          rcases hAdt with ⟨h, _⟩ | ⟨_, z, cz, h, ho⟩
          · omega
          · exact ⟨z, cz, h, ho⟩
        replace hoX := hoX.below gdt
        replace hoY := hoY.below gdt
        replace hoTu := hoTu.below gdt
        replace hoTm := hoTm.below gdt
        clear hAdt gdt hBmt Ndt Mdt hoUd
        generalize throughL D at_ n = Td at *
        have HPn : Hid (0 ≤ n) := HP.out.2.1
        have hn0 := HPn.out
        go_wp2_with fail
        refine (copied_own hoX (by omega)).mono ?_
        rintro e vue ⟨pue, que, rfl, tue, gue⟩
        go_wp2_with fail
        refine (copied_own (hoY.below gue) (by omega)).mono ?_
        rintro e vuf ⟨puf, quf, rfl, tuf, guf⟩
        go_wp2_with fail
        refine (union_set (tue.below guf).rng tuf.rng HLX.out HLY.out).mono ?_
        rintro e vug ⟨Vu, Nug, Mug, Aug, gug⟩
        have hbug := (gue.trans (guf.mono gue.size)).trans (gug.mono (gue.trans (guf.mono gue.size)).size)
        have hBug := hBdt.trans (hbug.mono hBdt.size)
        have hVu : Vu = Tu := norm_unique Nug HNut.out (fun q => by
          refine (Mug q).trans ?_
          simp only [HMut.out, HXM.out, HYM.out, HMu.out]
          by_cases c1 : q < at_ <;> by_cases c2 : at_ ≤ q - n
          · omega
          · simp [c1, c2]
          · simp [c1, c2]
          · simp [c1, c2])
        subst hVu
        obtain ⟨zug, czug, rfl, hoVu⟩ : ∃ z cz, e = .returned (.tuple #[.slice z Vu.length cz, .int .i64 0]) ∧ Own vug _ (.slice z Vu.length cz) Vu := by
          rcases Aug with ⟨h, _⟩ | ⟨_, z, cz, h, ho⟩
          · omega
          · exact ⟨z, cz, h, ho⟩
        replace hoX := hoX.below hbug
        replace hoY := hoY.below hbug
        replace hoTu := hoTu.below hbug
        replace hoTm := hoTm.below hbug
        replace hoTd := hoTd.below hbug
        clear gue guf gug hbug tue tuf hBdt Nug Mug Aug
        go_wp2_with fail
        refine (copied_own hoX (by omega)).mono ?_
        rintro e vme ⟨pme, qme, rfl, tme, gme⟩
        go_wp2_with fail
        refine (copied_own (hoY.below gme) (by omega)).mono ?_
        rintro e vmf ⟨pmf, qmf, rfl, tmf, gmf⟩
        go_wp2_with fail
        refine (meet_set (tme.below gmf).rng tmf.rng HLX.out HLY.out).mono ?_
        rintro e vmg ⟨Vm, Nmg, Mmg, Amg, gmg⟩
        have hbmg := (gme.trans (gmf.mono gme.size)).trans (gmg.mono (gme.trans (gmf.mono gme.size)).size)
        have hBmg := hBug.trans (hbmg.mono hBug.size)
        have hVm : Vm = Tm := norm_unique Nmg HNmt.out (fun q => by
          refine (Mmg q).trans ?_
          simp only [HMmt.out, HXM.out, HYM.out, HMm.out]
          by_cases c1 : q < at_ <;> by_cases c2 : at_ ≤ q - n
          · omega
          · simp [c1, c2]
          · simp [c1, c2]
          · simp [c1, c2])
        subst hVm
        obtain ⟨zmg, czmg, rfl, hoVm⟩ : ∃ z cz, e = .returned (.tuple #[.slice z Vm.length cz, .int .i64 0]) ∧ Own vmg _ (.slice z Vm.length cz) Vm := by
          rcases Amg with ⟨h, _⟩ | ⟨_, z, cz, h, ho⟩
          · omega
          · exact ⟨z, cz, h, ho⟩
        replace hoX := hoX.below hbmg
        replace hoY := hoY.below hbmg
        replace hoTu := hoTu.below hbmg
        replace hoTm := hoTm.below hbmg
        replace hoTd := hoTd.below hbmg
        replace hoVu := hoVu.below hbmg
        clear gme gmf gmg hbmg tme tmf hBug Nmg Mmg Amg
        go_wp2_with fail
        refine (copied_own hoX (by omega)).mono ?_
        rintro e vde ⟨pde, qde, rfl, tde, gde⟩
        go_wp2_with fail
        refine (copied_own (hoY.below gde) (by omega)).mono ?_
        rintro e vdf ⟨pdf, qdf, rfl, tdf, gdf⟩
        go_wp2_with fail
        refine (minus_set (tde.below gdf).rng tdf.rng HLX.out HLY.out).mono ?_
        rintro e vdg ⟨Vd, Ndg, Mdg, Adg, gdg⟩
        have hbdg := (gde.trans (gdf.mono gde.size)).trans (gdg.mono (gde.trans (gdf.mono gde.size)).size)
        have hBdg := hBmg.trans (hbdg.mono hBmg.size)
        have hVd : Vd = Td := norm_unique Ndg HNdt.out (fun q => by
          refine (Mdg q).trans ?_
          simp only [HMdt.out, HXM.out, HYM.out, HMd.out]
          by_cases c1 : q < at_ <;> by_cases c2 : at_ ≤ q - n
          · omega
          · simp [c1, c2]
          · simp [c1, c2]
          · simp [c1, c2])
        subst hVd
        obtain ⟨zdg, czdg, rfl, hoVd⟩ : ∃ z cz, e = .returned (.tuple #[.slice z Vd.length cz, .int .i64 0]) ∧ Own vdg _ (.slice z Vd.length cz) Vd := by
          rcases Adg with ⟨h, _⟩ | ⟨_, z, cz, h, ho⟩
          · omega
          · exact ⟨z, cz, h, ho⟩
        replace hoTu := hoTu.below hbdg
        replace hoTm := hoTm.below hbdg
        replace hoTd := hoTd.below hbdg
        replace hoVu := hoVu.below hbdg
        replace hoVm := hoVm.below hbdg
        clear gde gdf gdg hbdg tde tdf hBmg Ndg Mdg Adg
        go_wp2_with fail
        refine (hnum _ _).mono ?_
        rintro e vn0 ⟨rfl, rfl⟩
        go_wp2_with fail
        refine (hnum _ _).mono ?_
        rintro e vn1 ⟨rfl, rfl⟩
        go_wp2_with fail
        refine (hnum _ _).mono ?_
        rintro e vn2 ⟨rfl, rfl⟩
        go_wp2_with fail
        refine (hnum _ _).mono ?_
        rintro e vn3 ⟨rfl, rfl⟩
        go_wp2_with fail
        refine (hnum _ _).mono ?_
        rintro e vn4 ⟨rfl, rfl⟩
        go_wp2_with fail
        refine (hnum _ _).mono ?_
        rintro e vn5 ⟨rfl, rfl⟩
        go_wp2_with fail
        refine (hnum _ _).mono ?_
        rintro e vn6 ⟨rfl, rfl⟩
        go_wp2_with fail
        refine (hnum _ _).mono ?_
        rintro e vn7 ⟨rfl, rfl⟩
        go_wp2_with fail
        refine (hnum _ _).mono ?_
        rintro e vn8 ⟨rfl, rfl⟩
        go_wp2_with fail
        refine (same_refl hoTu.rng hoVu.rng).mono ?_
        rintro e s1 ⟨rfl, r1⟩
        have hS1 := hBdg.trans (r1.mono hBdg.size)
        go_wp2_with fail
        refine (same_refl (hoTm.below r1).rng (hoVm.below r1).rng).mono ?_
        rintro e s2 ⟨rfl, r2⟩
        have r12 := r1.trans (r2.mono r1.size)
        have hS2 := hS1.trans (r2.mono hS1.size)
        go_wp2_with fail
        refine (same_refl (hoTd.below r12).rng (hoVd.below r12).rng).mono ?_
        rintro e s3 ⟨rfl, r3⟩
        have hS3 := hS2.trans (r3.mono hS2.size)
        go_wp2_with fail
        go_ret
        exact ⟨rfl, hS3⟩
    · have HDA : Hid (∀ W, Below w13.heap.size w13 W → Calls Try.prog 26 #[.slice a3 A.length cap3, .int .i64 at_, .int .i64 n, .int .i64 e1] W _) := fun W hb => refused_yes (hoA.rng.below hb) HLA.out at_ n e1 (by rcases HX.out with h | h | ⟨h1, h2, _⟩; exact .inl h; exact .inr (.inl h); exact .inr (.inr ⟨h1, h2⟩))
      have HDB : Hid (∀ W, Below w13.heap.size w13 W → Calls Try.prog 26 #[.slice a6 B.length cap6, .int .i64 at_, .int .i64 n, .int .i64 e2] W _) := fun W hb => refused_yes (hoB.rng.below hb) HLB.out at_ n e2 (by rcases HY.out with h | h | ⟨h1, h2, _⟩; exact .inl h; exact .inr (.inl h); exact .inr (.inr ⟨h1, h2⟩))
      clear HX HY hoA hoB
      generalize whyOf B at_ n = yb at *
      have t2 : (yb == 0) = false := by simp [hwb]
      clear hwb
      rw [hwa] at HRA
      go_wp2_with fail
      refine (HRA.out _ (Below.refl _ _)).mono ?_
      rintro e w14 ⟨rfl, hb14⟩
      go_wp2_with fail
      refine (HRB.out _ hb14).mono ?_
      rintro e w15 ⟨rfl, hb15⟩
      have hbc := hb14.trans (hb15.mono hb14.size)
      go_wp2_with fail
      refine (hnum _ _).mono ?_
      rintro e w16 ⟨rfl, rfl⟩
      go_wp2_with fail
      refine (HDA.out _ hbc).mono ?_
      rintro e w17 ⟨rfl, hb17⟩
      have hbd := hbc.trans (hb17.mono hbc.size)
      go_wp2_with fail
      refine (hnum _ _).mono ?_
      rintro e w18 ⟨rfl, rfl⟩
      go_wp2_with fail
      refine (HDB.out _ hbd).mono ?_
      rintro e w19 ⟨rfl, hb19⟩
      have hbe := hbd.trans (hb19.mono hbd.size)
      go_wp2_with fail
      go_ret
      exact ⟨rfl, hB13.trans (hbe.mono hB13.size)⟩
  · have HDA : Hid (∀ W, Below w13.heap.size w13 W → Calls Try.prog 26 #[.slice a3 A.length cap3, .int .i64 at_, .int .i64 n, .int .i64 e1] W _) := fun W hb => refused_yes (hoA.rng.below hb) HLA.out at_ n e1 (by rcases HX.out with h | h | ⟨h1, h2, _⟩; exact .inl h; exact .inr (.inl h); exact .inr (.inr ⟨h1, h2⟩))
    have HDB : Hid (∀ W, Below w13.heap.size w13 W → Calls Try.prog 26 #[.slice a6 B.length cap6, .int .i64 at_, .int .i64 n, .int .i64 e2] W _) := fun W hb => refused_yes (hoB.rng.below hb) HLB.out at_ n e2 (by rcases HY.out with h | h | ⟨h1, h2, _⟩; exact .inl h; exact .inr (.inl h); exact .inr (.inr ⟨h1, h2⟩))
    clear HX HY hoA hoB
    generalize whyOf A at_ n = ya at *
    have t1 : (ya == 0) = false := by simp [hwa]
    have t3 : (ya != 0) = true := by simp [hwa]
    clear hwa
    go_wp2_with fail
    refine (HRA.out _ (Below.refl _ _)).mono ?_
    rintro e w14 ⟨rfl, hb14⟩
    have hbc := hb14
    go_wp2_with fail
    refine (hnum _ _).mono ?_
    rintro e w16 ⟨rfl, rfl⟩
    go_wp2_with fail
    refine (HDA.out _ hbc).mono ?_
    rintro e w17 ⟨rfl, hb17⟩
    have hbd := hbc.trans (hb17.mono hbc.size)
    go_wp2_with fail
    refine (hnum _ _).mono ?_
    rintro e w18 ⟨rfl, rfl⟩
    go_wp2_with fail
    refine (HDB.out _ hbd).mono ?_
    rintro e w19 ⟨rfl, hb19⟩
    have hbe := hbd.trans (hb19.mono hbd.size)
    go_wp2_with fail
    go_ret
    exact ⟨rfl, hB13.trans (hbe.mono hB13.size)⟩
end Go.Proofs.Ytohfckcikincoaa
