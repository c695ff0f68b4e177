import Derived.Test.YtfnpmncmceocdaaDoorPgM2
import Derived.Deep.Cut
import Derived.Deep.DeepCutAuto
import Derived.Deep.CutBlock
import Derived.Deep.QuietTactic
import Derived.BigQuiet
import Derived.BigGuard
/-! PageShows: the loop over the rows that are shown, and what follows. -/
namespace Go.Proofs.YtfnpmncmceocdaaDoor
open Go.RowKit Go.Lib Go.Shelf
set_option maxRecDepth 100000

def sndN : Nat → Code → Code
  | 0, c => c
  | n + 1, .seq _ b => sndN n b
  | _ + 1, c => c
noncomputable def showTail : Code := sndN 17 (Tryd.f3.body.getD .skip)
set_option maxHeartbeats 64000000 in
theorem shows_tail {w w9 : World} {sa : Option Addr} {m caps W H g off k capl r top d n ga oa capg gp op capp : Nat} {rs : List Int} (hW : Below w.heap.size w w9) (hd : top + d = r) (hlim : r ≤ 1000 ∧ n ≤ 1000 ∧ m ≤ 200) (HRs : Hid (∀ K x, rs[K]? = some x → ∃ gs os, sa = some ⟨gs, os, none⟩ ∧ ∀ V, Below w9.heap.size w9 V → V.cell? ⟨gs, os + K, none⟩ = some (.int .i32 x))) (HTab : Hid (∀ V, Below w9.heap.size w9 V → PTab V)) (HCut : Hid (∀ V, Below w9.heap.size w9 V → ∀ i j, i ≤ j → j ≤ m → ∃ a' cap', (∀ W : World, (Instr.slice 23 (.slice sa m caps) (some (.int .i64 (i : Int))) (some (.int .i64 (j : Int))) none).run Tryd.prog W = .ok (.slice a' (j - i) cap') W) ∧ Calls Tryd.prog 12 #[.slice a' (j - i) cap'] V fun e w' => e = .returned (.int .i64 ((wd rs i j : Nat) : Int)) ∧ Below V.heap.size V w')) (HRowS : Hid (∀ i, i < n → ∃ (lo hi c : Nat) (SG SU SP : ByteArray) (D : Nat → List Int) (p : Nat), lo ≤ hi ∧ hi ≤ m ∧ top + i = p ∧ p < k ∧ Hid (∀ V, Calls Tryd.prog 10 #[.string SG] V fun e w' => e = .returned (.tuple #[.int .i64 (c : Int), .string SU]) ∧ Below V.heap.size V w') ∧ (i = d → c = 1 ∧ SU = SP) ∧ (i ≠ d → c = 0 ∧ SG = SP) ∧ Hid (WantP rs lo hi D SP) ∧ Hid (∀ V, Below w9.heap.size w9 V → V.cell? ⟨ga, oa + i, none⟩ = some (.string SG) ∧ V.cell? ⟨gp, op + i, none⟩ = some (.string SP) ∧ V.cell? ⟨g, off + p * 4, none⟩ = some (.int .i64 (lo : Int)) ∧ V.cell? ⟨g, off + p * 4 + 1, none⟩ = some (.int .i64 (hi : Int))))) {v0 v1 v2 v3 v4 v5 v6 v7 v8 v9 v10 v15 v16 v17 v19 v20 v22 v26 v27 v28 v29 v30 v31 v32 v33 v34 v35 v36 v37 v38 v39 v40 v41 v42 v43 v44 v45 v46 v47 v48 v49 v50 v51 v52 v53 v54 v55 v56 v57 v58 v59 v60 v61 v62 v63 v64 v65 v66 v67 v68 v69 v70 v71 v72 v73 v74 v75 v76 v77 v78 v79 v80 v81 v82 v83 v84 v85 v86 v87 v88 v89 v90 v91 v92 v93 v94 v95 v96 v97 v98 v99 v100 v101 v102 v103 v104 v105 v106 v107 v108 v109 v110 v111 v112 v113 v114 v115 v116 v117 v118 v119 v120 v121 v122 v123 v124 v125 v126 v127 v128 v129 v130 v131 v132 v133 v134 v135 v136 v137 v138 v139 v140 v141 v142 v143 v144 v145 v146 v147 v148 v149 v150 v151 v152 v153 v154 v155 v156 v157 v158 v159 v160 v161 v162 v163 v164 v165 v166 v167 v168 v169 v170 v171 v172 v173 v174 v175 v176 v177 v178 v179 v180 v181 v182 v183 v184 v185 v186 v187 v188 v189 v190 v191 v192 v193 v194 v195 v196 v197 v198 v199 v200 v201 v202 v203 v204 v205 v206 v207 v208 v209 v210 v211 v212 v213 v214 v215 v216 v217 v218 v219 v220 v221 v222 v223 v224 v225 v226 v227 v228 v229 v230 v231 v232 v233 v234 v235 v236 v237 v238 v239 v240 v241 v242 v243 v244 v245 v246 v247 v248 v249 v250 v251 v252 v253 v254 v255 v256 v257 v258 v259 v260 v261 v262 v263 v264 v265 v266 v267 v268 v269 v270 v271 v272 v273 v274 v275 v276 v277 v278 v279 v280 v281 : Value} :
    Code.wp Tryd.prog showTail (bodyPost Tryd.prog Tryd.f3 fun e w' => e = .returned (.bool true) ∧ Below w.heap.size w w') ⟨#[v0, v1, v2, v3, v4, v5, v6, v7, v8, v9, v10, .slice sa m caps, .int .i64 (W : Int), .int .i64 (H : Int), .slice (some ⟨g, off, none⟩) k capl, v15, v16, v17, .int .i64 (r : Int), v19, v20, .int .i64 (top : Int), v22, .slice (some ⟨ga, oa, none⟩) n capg, .slice (some ⟨gp, op, none⟩) n capp, .int .i64 (n : Int), v26, v27, v28, v29, v30, v31, v32, v33, v34, v35, v36, v37, v38, v39, v40, v41, v42, v43, v44, v45, v46, v47, v48, v49, v50, v51, v52, v53, v54, v55, v56, v57, v58, v59, v60, v61, v62, v63, v64, v65, v66, v67, v68, v69, v70, v71, v72, v73, v74, v75, v76, v77, v78, v79, v80, v81, v82, v83, v84, v85, v86, v87, v88, v89, v90, v91, v92, v93, v94, v95, v96, v97, v98, v99, v100, v101, v102, v103, v104, v105, v106, v107, v108, v109, v110, v111, v112, v113, v114, v115, v116, v117, v118, v119, v120, v121, v122, v123, v124, v125, v126, v127, v128, v129, v130, v131, v132, v133, v134, v135, v136, v137, v138, v139, v140, v141, v142, v143, v144, v145, v146, v147, v148, v149, v150, v151, v152, v153, v154, v155, v156, v157, v158, v159, v160, v161, v162, v163, v164, v165, v166, v167, v168, v169, v170, v171, v172, v173, v174, v175, v176, v177, v178, v179, v180, v181, v182, v183, v184, v185, v186, v187, v188, v189, v190, v191, v192, v193, v194, v195, v196, v197, v198, v199, v200, v201, v202, v203, v204, v205, v206, v207, v208, v209, v210, v211, v212, v213, v214, v215, v216, v217, v218, v219, v220, v221, v222, v223, v224, v225, v226, v227, v228, v229, v230, v231, v232, v233, v234, v235, v236, v237, v238, v239, v240, v241, v242, v243, v244, v245, v246, v247, v248, v249, v250, v251, v252, v253, v254, v255, v256, v257, v258, v259, v260, v261, v262, v263, v264, v265, v266, v267, v268, v269, v270, v271, v272, v273, v274, v275, v276, v277, v278, v279, v280, v281], []⟩ w9 := by
  conv => arg 2; whnf
  have HLim : Hid (top + d = r ∧ r ≤ 1000 ∧ n ≤ 1000 ∧ m ≤ 200) := ⟨hd, hlim⟩
  have HW : Hid (Below w.heap.size w w9) := hW
  have yd : IntKind.i64.wrap ((r : Int) - (top : Int)) = (d : Int) := by rw [IntWalk.i64_in _ (by omega)]; omega
  have yd2 : (r : Int) - (top : Int) = (d : Int) := by omega
  clear hd hlim hW
  go_wp2_with fail
  go_loopw [26] (fun v26 w' => ∃ i : Nat, v26 = .int .i64 (i : Int) ∧ i ≤ n ∧ Below w9.heap.size w9 w') (fun v26 _ => n - (RowKit.intOf v26).toNat)
  case atStart => exact ⟨0, rfl, Nat.zero_le _, Below.refl _ _⟩
  case round =>
    obtain ⟨i, rfl, hi_, hb⟩ := hrel
    by_cases hin : i < n
    ·
      have z1 : decide ((i : Int) < (n : Int)) = true := decide_eq_true (by omega)
      have z2 : decide (i < n) = true := decide_eq_true hin
      obtain ⟨lo, hi, c, SG, SU, SP, D, p, hlohi, him, hp, hpk, HBars, hHere, hElse, HWant, HCl⟩ := HRowS.out i hin
      obtain ⟨c0, c1, d0, d1⟩ := HCl.out wr hb
      have yp : IntKind.i64.wrap ((top : Int) + (i : Int)) = (p : Int) := by rw [IntWalk.i64_in _ (by have := HLim.out; omega)]; omega
      have HB : Hid (Below w9.heap.size w9 wr) := hb
      have hlim := HLim.out
      clear hb d0 d1
      go_wp2_with fail
      refine (HBars.out wr).mono ?_
      rintro e w2 ⟨rfl, hb2⟩
      have HB2 : Hid (Below w9.heap.size w9 w2) := HB.out.trans (hb2.mono HB.out.size)
      obtain ⟨c0, c1, d0, d1⟩ := HCl.out w2 HB2.out
      clear hb2
      go_upto_if 185 with fail
      go_cut [] (fun wx => Below w9.heap.size w9 wx)
      case first =>
        by_cases hid : i = d
        · obtain ⟨hc1, hSU⟩ := hHere hid
          subst hc1 hSU hid
          have q1 : decide ((i : Int) = (i : Int)) = true := decide_eq_true rfl
          go_wp2_with fail
          go_meet
          exact HB2.out
        · obtain ⟨hc1, hSU⟩ := hElse hid
          subst hc1 hSU
          have q1 : ((i : Int) == (d : Int)) = false := beq_eq_false_iff_ne.2 (by omega)
          have q2 : decide ((i : Int) = (d : Int)) = false := decide_eq_false (by omega)
          go_wp2_with fail
          go_quiet (fail)
          go_wp2_with fail
          go_meet
          exact below_drewN HB2.out _
      case rest =>
        have HC : Hid (Below w9.heap.size w9 wc) := hcut
        obtain ⟨c0, c1, d0, d1⟩ := HCl.out wc HC.out
        obtain ⟨B, hB⟩ : ∃ B, wc.heap.size = B := ⟨_, rfl⟩
        have HBB : Hid (w9.heap.size ≤ B) := by rw [← hB]; exact HC.out.size
        clear hcut hHere hElse HBars HB HB2
        go_upto_block 2 with fail
        clear c0 c1 d0 d1
        have HS0 : Hid (OwnF rune1 1 21 wc B (.slice none 0 0) (D lo) ∧ Below w9.heap.size w9 wc ∧ B ≤ wc.heap.size) := ⟨by rw [HWant.out.1]; exact ownF_nil _ _, HC.out, by omega⟩
        go_cut [29] (fun v29 wx => Hid (OwnF rune1 1 21 wx B v29 (D hi) ∧ Below w9.heap.size w9 wx ∧ B ≤ wx.heap.size))
        case first =>
          go_wp2_with fail
          go_loopw [29, 30] (fun v29 v30 w' => ∃ K : Nat, v30 = .int .i64 (K : Int) ∧ lo ≤ K ∧ K ≤ hi ∧ Hid (OwnF rune1 1 21 w' B v29 (D K) ∧ Below w9.heap.size w9 w' ∧ B ≤ w'.heap.size)) (fun _ v30 _ => hi - (RowKit.intOf v30).toNat)
          case atStart => exact ⟨lo, rfl, Nat.le_refl _, hlohi, HS0.out⟩
          case round =>
            obtain ⟨K, rfl, hK1, hK2, HS⟩ := hrel
            obtain ⟨ho, hbr, hBr⟩ := HS.out
            have HBr : Hid (Below w9.heap.size w9 wr ∧ B ≤ wr.heap.size) := ⟨hbr, hBr⟩
            obtain ⟨c0, c1, d0, d1⟩ := HCl.out wr hbr
            obtain ⟨b2, cap2, ev⟩ := ho.shape
            obtain ⟨j, hj⟩ : ∃ j, (D K).length = j := ⟨_, rfl⟩
            rw [hj] at ev
            subst ev
            have hjb : j ≤ 1000 := by have := HWant.out.2.2.1 K; have := HLim.out.2.2.2; omega
            have HJ : Hid ((D K).length = j ∧ j ≤ 1000) := ⟨hj, hjb⟩
            have HO : Hid (OwnF rune1 1 21 wr B (.slice b2 j cap2) (D K)) := ho
            clear ho hbr hBr HS hj hjb c0 c1
            by_cases hKl : K < hi
            · obtain ⟨x, hx, hst⟩ := HWant.out.2.1 K hK1 hKl
              obtain ⟨gs, os, hsa, hcx⟩ := HRs.out K x hx
              subst hsa
              have e0 := hcx wr HBr.out.1
              have z3 : decide ((K : Int) < (hi : Int)) = true := decide_eq_true (by omega)
              have z4 : decide (K < hi) = true := decide_eq_true hKl
              clear hcx hx
              by_cases h9 : x = 9
              · subst h9
                obtain ⟨a', cap', hsl, hco⟩ := HCut.out wr HBr.out.1 lo K hK1 (by omega)
                obtain ⟨cn, hcn⟩ : ∃ cn, colN 9 (wd rs lo K) = cn := ⟨_, rfl⟩
                have hcb : cn ≤ 4 := by rw [← hcn]; exact colN_le _ _
                have HCo : Hid (∀ V, Below w9.heap.size w9 V → Calls Tryd.prog 11 #[.int .i32 9, .int .i64 ((wd rs lo K : Nat) : Int)] V fun e w' => e = .returned (.int .i64 (cn : Nat)) ∧ Below V.heap.size V w') := fun V hV => by
                  have := Cols_any (HTab.out V hV) 9 ((wd rs lo K : Nat) : Int)
                  rw [show (max ((wd rs lo K : Nat) : Int) 0).toNat = wd rs lo K by omega, hcn] at this
                  exact this
                have HDn : Hid (D (K + 1) = D K ++ List.replicate cn 32) := by show _ = _; rw [hst]; unfold chR; rw [if_pos rfl, hcn]
                clear hst hcn
                generalize wd rs lo K = wdk at *
                have hlim2 := HLim.out.2.2.2
                go_wp2_with fail
                refine hco.mono ?_
                rintro e w3 ⟨rfl, hb3⟩
                have HB3 : Hid (Below w9.heap.size w9 w3 ∧ B ≤ w3.heap.size ∧ OwnF rune1 1 21 w3 B (.slice b2 j cap2) (D K)) := ⟨HBr.out.1.trans (hb3.mono HBr.out.1.size), Nat.le_trans HBr.out.2 hb3.size, HO.out.below hb3⟩
                clear hb3 hco HO e0 d0 d1
                go_wp2_with fail
                refine (HCo.out w3 HB3.out.1).mono ?_
                rintro e w4 ⟨rfl, hb4⟩
                have HB4 : Hid (OwnF rune1 1 21 w4 B (.slice b2 j cap2) (D K) ∧ Below w9.heap.size w9 w4 ∧ B ≤ w4.heap.size) := ⟨HB3.out.2.2.below hb4, HB3.out.1.trans (hb4.mono HB3.out.1.size), Nat.le_trans HB3.out.2.1 hb4.size⟩
                clear hb4 HCo HB3
                go_wp2_with fail
                go_loopw [29, 31] (fun v29 v31 w' => ∃ (q z : Nat), q + z = cn ∧ v31 = .int .i64 (z : Int) ∧ Hid (OwnF rune1 1 21 w' B v29 (D K ++ List.replicate q 32) ∧ Below w9.heap.size w9 w' ∧ B ≤ w'.heap.size)) (fun _ v31 _ => (RowKit.intOf v31).toNat)
                case atStart => exact ⟨0, cn, by omega, rfl, by show Hid _; simpa using HB4⟩
                case round =>
                  obtain ⟨q, z, hqz, rfl, HS⟩ := hrel
                  obtain ⟨ho, hbr, hBr⟩ := HS.out
                  obtain ⟨b3, cap3, ev⟩ := ho.shape
                  rw [List.length_append, List.length_replicate, HJ.out.1] at ev
                  subst ev
                  have hjq := HJ.out.2
                  have hjl := HJ.out.1
                  cases z with
                  | zero =>
                    obtain rfl : q = cn := by omega
                    have HN : Hid (OwnF rune1 1 21 wr B (.slice b3 (j + q) cap3) (D (K + 1)) ∧ Below w9.heap.size w9 wr ∧ B ≤ wr.heap.size) := ⟨by rw [HDn.out]; exact ho, hbr, hBr⟩
                    clear ho hbr hBr HS HB4 hjl
                    go_wp2_with fail
                    exact ⟨⟨K + 1, by go_num, by omega, by omega, HN.out⟩, by simp [RowKit.intOf]; omega⟩
                  | succ y =>
                    have t2 : decide (((y + 1 : Nat) : Int) > 0) = true := decide_eq_true (by omega)
                    have t3 : decide ((0 : Int) < (y : Int) + 1) = true := decide_eq_true (by omega)
                    obtain ⟨g5, cap5, w6, hr6, HN⟩ := app_rune ho hbr HBB.out hBr (by rw [List.length_append, List.length_replicate, hjl]) (by omega) 32
                    rw [List.append_assoc, show List.replicate q (32 : Int) ++ [32] = List.replicate (q + 1) 32 from List.replicate_succ'.symm] at HN
                    clear ho hbr hBr HS HB4 hjl
                    go_wp2_with (at_builtin; refine wpList_append_hr rfl _ _ 23 rfl _ _ rfl rfl hr6 ?_)
                    exact ⟨⟨q + 1, y, by omega, by go_num, HN.out⟩, by simp [RowKit.intOf]⟩
              · have hz9 : (x == 9) = false := beq_eq_false_iff_ne.2 h9
                obtain ⟨g5, cap5, w6, hr6, HN⟩ := app_rune HO.out HBr.out.1 HBB.out HBr.out.2 HJ.out.1 (by have := HJ.out.2; omega) x
                rw [show D K ++ [x] = D (K + 1) by rw [hst]; unfold chR; rw [if_neg h9]] at HN
                have hlim2 := HLim.out.2.2.2
                clear hst HO
                go_wp2_with (at_builtin; refine wpList_append_hr rfl _ _ 23 rfl _ _ rfl rfl hr6 ?_)
                exact ⟨⟨K + 1, by go_num, by omega, by omega, HN.out⟩, by simp [RowKit.intOf]; omega⟩
            · obtain rfl : K = hi := by omega
              have z3 : decide ((K : Int) < (K : Int)) = false := decide_eq_false (by omega)
              have z4 : decide (K < K) = false := decide_eq_false (by omega)
              have HN : Hid (OwnF rune1 1 21 wr B (.slice b2 j cap2) (D K) ∧ Below w9.heap.size w9 wr ∧ B ≤ wr.heap.size) := ⟨HO.out, HBr.out⟩
              clear HO
              go_wp2_with fail
              go_meet
              exact HN.out
        case rest =>
          obtain ⟨ho, hbc, hBc⟩ := hcut.out
          obtain ⟨a9, cap9, ev⟩ := ho.shape
          obtain ⟨U, hU⟩ : ∃ U, D hi = U := ⟨_, rfl⟩
          rw [hU] at ho ev
          obtain ⟨kk, hk⟩ : ∃ kk, U.length = kk := ⟨_, rfl⟩
          rw [hk] at ev
          subst ev
          have hrw := ho.rw_ layRu
          have hkb : kk ≤ 1000 := by have := HWant.out.2.2.1 hi; rw [hU] at this; have := HLim.out.2.2.2; omega
          have HR : Hid (Below w9.heap.size w9 wc ∧ Rw rune1 1 wc a9 kk cap9 U ∧ strOf (trimI U) = SP) := ⟨hbc, hrw, by rw [← hU]; exact HWant.out.2.2.2⟩
          clear ho hbc hBc hrw hcut hU hk HWant HS0
          go_wp2_with fail
          go_loopw [29] (fun v29 w' => ∃ q : Nat, v29 = .slice a9 q cap9 ∧ q ≤ kk ∧ Hid (trimI (U.take q) = trimI U) ∧ w' = wc) (fun v29 _ => match v29 with | .slice _ m _ => m | _ => 0)
          case atStart => exact ⟨kk, rfl, Nat.le_refl _, by show _ = _; rw [List.take_of_length_le (by have := HR.out.2.1.len; omega)], rfl⟩
          case round =>
            obtain ⟨q, rfl, hq, HM, hww⟩ := hrel
            obtain rfl := hww.symm
            clear hww
            have hrm := rw_cut HR.out.2.1 hq
            have hcap := hrm.room.1
            cases q with
            | zero =>
              have hcv : ∀ j, (convert 23 9 (.slice a9 0 cap9)).run Tryd.prog (wc.drewN j) = .ok (.string SP) (wc.drewN j) := fun j => by
                have := conv_rw (hrm.below (below_drewN (Below.refl _ _) j))
                rw [← HR.out.2.2, ← HM.out]
                exact this
              obtain ⟨c0, c1, -, -⟩ := HCl.out wc HR.out.1
              have HE : Hid (Below w9.heap.size w9 wc) := HR.out.1
              clear hrm HM HR
              go_wp2_with fail
              go_quiet (fail)
              go_wp2_with fail
              exact ⟨⟨i + 1, by go_num, by omega, below_drewN HE.out _⟩, by simp [RowKit.intOf]; omega⟩
            | succ q =>
              obtain ⟨g9, o9, x, rfl, -, hx, hc9⟩ := HR.out.2.1.at q (by omega)
              have e0 := hc9 0 _ rfl
              simp only [Nat.mul_one, Nat.add_zero] at e0
              have t1 : ((q + 1 : Nat) : Int) - 1 = (q : Int) := by omega
              have t2 : decide (((q + 1 : Nat) : Int) > 0) = true := decide_eq_true (by omega)
              have t3 : decide ((0 : Int) < (q : Int) + 1) = true := decide_eq_true (by omega)
              by_cases h32 : x = 32
              · have z5 : (x == 32) = true := beq_iff_eq.2 h32
                have HN : Hid (trimI (U.take q) = trimI U) := by
                  show _ = _
                  rw [← HM.out, trimI_drop (by rw [hx, h32])]
                clear hx hc9 HM hrm h32
                go_wp2_with fail
                exact ⟨⟨q, rfl, by omega, HN.out, by simp⟩, by simp⟩
              · have z5 : (x == 32) = false := beq_eq_false_iff_ne.2 h32
                have hcv : ∀ j, (convert 23 9 (.slice (some ⟨g9, o9, none⟩) (q + 1) cap9)).run Tryd.prog (wc.drewN j) = .ok (.string SP) (wc.drewN j) := fun j => by
                  have := conv_rw (hrm.below (below_drewN (Below.refl _ _) j))
                  rw [← HR.out.2.2, ← HM.out, trimI_keep hx h32]
                  exact this
                clear hx hc9
                obtain ⟨c0, c1, -, -⟩ := HCl.out wc HR.out.1
                have HE : Hid (Below w9.heap.size w9 wc) := HR.out.1
                clear hrm HM HR
                go_wp2_with fail
                go_quiet (fail)
                go_wp2_with fail
                exact ⟨⟨i + 1, by go_num, by omega, below_drewN HE.out _⟩, by simp [RowKit.intOf]; omega⟩
    ·
      have z1 : decide ((i : Int) < (n : Int)) = false := decide_eq_false (by omega)
      have z2 : decide (i < n) = false := decide_eq_false hin
      have HE : Hid (Below w.heap.size w wr) := HW.out.trans (hb.mono HW.out.size)
      clear hb
      go_wp2_with fail
      go_ret
      exact ⟨rfl, HE.out⟩
end Go.Proofs.YtfnpmncmceocdaaDoor
