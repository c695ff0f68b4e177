import Derived.Test.YtfnpmncmceocdaaDoorPgN3
import Derived.Deep.Cut
import Derived.Deep.DeepCutAuto
import Derived.Deep.CutBlock
/-! PageShows, from its two calls of Show on. -/
namespace Go.Proofs.YtfnpmncmceocdaaDoor
open Go.RowKit Go.Lib Go.Shelf
set_option maxRecDepth 100000

noncomputable def showMid : Code := sndN 12 (Tryd.f3.body.getD .skip)
set_option maxHeartbeats 64000000 in
theorem shows_mid {w w2 w4 : World} {rs : List Int} {S : ByteArray} {sa : Option Addr} {m caps W H g off k capl at' r' tp d lo0 hi0 : Nat} {hard0 : Bool} (HW2 : Hid (Below w.heap.size w w2)) (HB4 : Hid (Below w2.heap.size w2 w4)) (htd : tp + d = r') (hrk : r' < k) (hk201 : k ≤ 201) (hHb : 1 ≤ H ∧ H ≤ 12) (hatm : at' ≤ m) (HM : Hid (rs.length = m ∧ (rowsP rs W).length = k ∧ m ≤ 200)) (HOk : Hid ((∀ r ∈ rs, okR r) ∧ (124 : Int) ∉ rs)) (HSt : Hid (Stands rs W at' r' lo0 hi0 hard0)) (HRw : Hid (Rw l4V 4 w2 (some ⟨g, off, none⟩) k capl (rowsL rs W))) (HCv : Hid (∀ V, Below w2.heap.size w2 V → (convert 23 9 (.slice sa m caps)).run Tryd.prog V = .ok (.string S) V)) (HTb : Hid (∀ V, Below w2.heap.size w2 V → PTab V ∧ Glob V.heap.size)) (HSh : Hid (∀ V, Below w2.heap.size w2 V → ∀ (top : Nat) (car : Int) (n : Nat), top < k → n = min H (k - top) → (car = -1 ∨ ∃ at' : Nat, at' ≤ m ∧ car = at') → Calls Tryd.prog 9 #[.string S, .int .i64 (W : Int), .int .i64 (H : Int), .int .i64 (top : Int), .int .i64 car] V fun e w' => ∃ g o cap, e = .returned (.tuple #[.slice (some ⟨g, o, none⟩) n cap, .int .i64 0]) ∧ Rw str1 1 w' (some ⟨g, o, none⟩) n cap (shownL rs W H top car) ∧ Below V.heap.size V w')) (HCut : Hid (∀ V, Below w2.heap.size w2 V → ∀ i j, i ≤ j → j ≤ m → ∃ a' cap', (∀ W : World, (Instr.slice 23 (.slice sa m caps) (some (.int .i64 (i : Int))) (some (.int .i64 (j : Int))) none).run Tryd.prog W = .ok (.slice a' (j - i) cap') W) ∧ Calls Tryd.prog 12 #[.slice a' (j - i) cap'] V fun e w' => e = .returned (.int .i64 ((wd rs i j : Nat) : Int)) ∧ Below V.heap.size V w')) (HRs : Hid (∀ K x, rs[K]? = some x → ∃ gs os, sa = some ⟨gs, os, none⟩ ∧ ∀ V, Below w2.heap.size w2 V → V.cell? ⟨gs, os + K, none⟩ = some (.int .i32 x))) {v0 v1 v2 v3 v4 v5 v6 v7 v8 v9 v10 v15 v17 v19 v20 v22 v23 v24 v25 v26 v27 v28 v29 v30 v31 v32 v33 v34 v35 v36 v37 v38 v39 v40 v41 v42 v43 v44 v45 v46 v47 v48 v49 v50 v51 v52 v53 v54 v55 v56 v57 v58 v59 v60 v61 v62 v63 v64 v65 v66 v67 v68 v69 v70 v71 v72 v73 v74 v75 v76 v77 v78 v79 v80 v81 v82 v83 v84 v85 v86 v87 v88 v89 v90 v91 v92 v93 v94 v95 v96 v97 v98 v99 v100 v101 v102 v103 v104 v105 v106 v107 v108 v109 v110 v111 v112 v113 v114 v115 v116 v117 v118 v119 v120 v121 v122 v123 v124 v125 v126 v127 v128 v129 v130 v131 v132 v133 v134 v135 v136 v137 v138 v139 v140 v141 v142 v143 v144 v145 v146 v147 v148 v149 v150 v151 v152 v153 v154 v155 v156 v157 v158 v159 v160 v161 v162 v163 v164 v165 v166 v167 v168 v169 v170 v171 v172 v173 v174 v175 v176 v177 v178 v179 v180 v181 v182 v183 v184 v185 v186 v187 v188 v189 v190 v191 v192 v193 v194 v195 v196 v197 v198 v199 v200 v201 v202 v203 v204 v205 v206 v207 v208 v209 v210 v211 v212 v213 v214 v215 v216 v217 v218 v219 v220 v221 v222 v223 v224 v225 v226 v227 v228 v229 v230 v231 v232 v233 v234 v235 v236 v237 v238 v239 v240 v241 v242 v243 v244 v245 v246 v247 v248 v249 v250 v251 v252 v253 v254 v255 v256 v257 v258 v259 v260 v261 v262 v263 v264 v265 v266 v267 v268 v269 v270 v271 v272 v273 v274 v275 v276 v277 v278 v279 v280 v281 : Value} :
    Code.wp Tryd.prog showMid (bodyPost Tryd.prog Tryd.f3 fun e w' => e = .returned (.bool true) ∧ Below w.heap.size w w') ⟨#[v0, v1, v2, v3, v4, v5, v6, v7, v8, v9, v10, .slice sa m caps, .int .i64 (W : Int), .int .i64 (H : Int), .slice (some ⟨g, off, none⟩) k capl, v15, .int .i64 (at' : Int), v17, .int .i64 (r' : Int), v19, v20, .int .i64 (tp : Int), v22, v23, v24, v25, v26, v27, v28, v29, v30, v31, v32, v33, v34, v35, v36, v37, v38, v39, v40, v41, v42, v43, v44, v45, v46, v47, v48, v49, v50, v51, v52, v53, v54, v55, v56, v57, v58, v59, v60, v61, v62, v63, v64, v65, v66, v67, v68, v69, v70, v71, v72, v73, v74, v75, v76, v77, v78, v79, v80, v81, v82, v83, v84, v85, v86, v87, v88, v89, v90, v91, v92, v93, v94, v95, v96, v97, v98, v99, v100, v101, v102, v103, v104, v105, v106, v107, v108, v109, v110, v111, v112, v113, v114, v115, v116, v117, v118, v119, v120, v121, v122, v123, v124, v125, v126, v127, v128, v129, v130, v131, v132, v133, v134, v135, v136, v137, v138, v139, v140, v141, v142, v143, v144, v145, v146, v147, v148, v149, v150, v151, v152, v153, v154, v155, v156, v157, v158, v159, v160, v161, v162, v163, v164, v165, v166, v167, v168, v169, v170, v171, v172, v173, v174, v175, v176, v177, v178, v179, v180, v181, v182, v183, v184, v185, v186, v187, v188, v189, v190, v191, v192, v193, v194, v195, v196, v197, v198, v199, v200, v201, v202, v203, v204, v205, v206, v207, v208, v209, v210, v211, v212, v213, v214, v215, v216, v217, v218, v219, v220, v221, v222, v223, v224, v225, v226, v227, v228, v229, v230, v231, v232, v233, v234, v235, v236, v237, v238, v239, v240, v241, v242, v243, v244, v245, v246, v247, v248, v249, v250, v251, v252, v253, v254, v255, v256, v257, v258, v259, v260, v261, v262, v263, v264, v265, v266, v267, v268, v269, v270, v271, v272, v273, v274, v275, v276, v277, v278, v279, v280, v281], []⟩ w4 := by
  conv => arg 2; whnf
  have hk5 : tp < k := by omega
  obtain ⟨n9, HN0⟩ : ∃ n9, Hid (n9 = min H (k - tp)) := ⟨_, rfl⟩
  have hcv := HCv.out w4 HB4.out
  go_wp2_with fail
  refine (HSh.out w4 HB4.out tp (at' : Int) n9 hk5 HN0.out (.inr ⟨at', hatm, rfl⟩)).mono ?_
  rintro e w5 ⟨ga, oa, capg, rfl, hgot, hb5⟩
  have HB5 : Hid (Below w2.heap.size w2 w5) := HB4.out.trans (hb5.mono HB4.out.size)
  have HGot : Hid (Rw str1 1 w5 (some ⟨ga, oa, none⟩) n9 capg (shownL rs W H tp at')) := hgot
  clear hcv hgot hb5
  have hcv := HCv.out w5 HB5.out
  go_wp2_with fail
  refine (HSh.out w5 HB5.out tp (-1) n9 hk5 HN0.out (.inl rfl)).mono ?_
  rintro e w6 ⟨gp, op, capp, rfl, hpl, hb6⟩
  have HB6 : Hid (Below w2.heap.size w2 w6) := HB5.out.trans (hb6.mono HB5.out.size)
  have HRowS := rows_shown HOk.out.1 HOk.out.2 HM.out.1 HM.out.2.2 HSt.out hatm HM.out.2.1 (HRw.out.below HB6.out) (HGot.out.below hb6) hpl htd HN0.out
  have HR9 : Hid (∀ i, i < n9 → _) := HRowS
  obtain ⟨kt, hkt⟩ : ∃ kt, tp + kt = k := ⟨k - tp, by omega⟩
  have HN2 : Hid (n9 = min H kt) := by have := HN0.out; show _ = _; omega
  have hn9 : n9 ≤ 12 := by have := HN0.out; omega
  have y8 : IntKind.i64.wrap ((k : Int) - (tp : Int)) = (kt : Int) := by rw [IntWalk.i64_in _ (by omega)]; omega
  have y9 : (k : Int) - (tp : Int) = (kt : Int) := by omega
  have HN9 : Hid (r' ≤ 1000 ∧ n9 ≤ 1000 ∧ m ≤ 200 ∧ tp + d = r') := ⟨by have := HM.out.2.2; omega, by omega, HM.out.2.2, htd⟩
  clear hcv hpl hb6 HGot HSh HRowS HN0 HRw
  go_upto_if 148 with fail
  go_cut [25] (fun v25 wx => v25 = .int .i64 (n9 : Int) ∧ wx = w6)
  case first =>
    clear HR9 HRs HCut HTb HCv HOk HM HW2 HB4 HB5 HB6 HSt
    by_cases q : H < kt
    · have a1 : decide ((kt : Int) > (H : Int)) = true := decide_eq_true (by omega)
      have a2 : decide ((H : Int) < (kt : Int)) = true := decide_eq_true (by omega)
      have a3 : decide (H < kt) = true := decide_eq_true q
      obtain rfl : n9 = H := by have := HN2.out; omega
      go_wp2_with fail
      go_meet
      exact ⟨rfl, rfl⟩
    · have a1 : decide ((kt : Int) > (H : Int)) = false := decide_eq_false (by omega)
      have a2 : decide ((H : Int) < (kt : Int)) = false := decide_eq_false (by omega)
      have a3 : decide (H < kt) = false := decide_eq_false q
      obtain rfl : n9 = kt := by have := HN2.out; omega
      go_wp2_with fail
      go_meet
      exact ⟨rfl, rfl⟩
  case rest =>
    obtain ⟨rfl, hwc⟩ := hcut
    obtain rfl := hwc.symm
    go_upto_if 167 with fail
    go_cut [] (fun wx => wx = w6)
    case first =>
      clear HR9 HRs HCut HTb HCv HOk HM HW2 HB4 HB5 HB6 HSt
      go_wp2_with fail
      go_meet
      rfl
    case rest =>
      obtain rfl := hcut.symm
      rename_i K9 hK9
      refine hK9 _ _ ?_
      have hW : Below w.heap.size w w6 := HW2.out.trans (HB6.out.mono HW2.out.size)
      have HRs9 : Hid (∀ K x, rs[K]? = some x → ∃ gs os, sa = some ⟨gs, os, none⟩ ∧ ∀ V, Below w6.heap.size w6 V → V.cell? ⟨gs, os + K, none⟩ = some (.int .i32 x)) := fun K x hx => by
        obtain ⟨gs, os, ea, hc⟩ := HRs.out K x hx
        exact ⟨gs, os, ea, fun V hV => hc V (HB6.out.trans (hV.mono HB6.out.size))⟩
      have HTab9 : Hid (∀ V, Below w6.heap.size w6 V → PTab V) := fun V hV => (HTb.out V (HB6.out.trans (hV.mono HB6.out.size))).1
      have HCut9 : Hid (∀ V, Below w6.heap.size w6 V → ∀ i j, i ≤ j → j ≤ m → ∃ a' cap', (∀ W : World, (Instr.slice 23 (.slice sa m caps) (some (.int .i64 (i : Int))) (some (.int .i64 (j : Int))) none).run Tryd.prog W = .ok (.slice a' (j - i) cap') W) ∧ Calls Tryd.prog 12 #[.slice a' (j - i) cap'] V fun e w' => e = .returned (.int .i64 ((wd rs i j : Nat) : Int)) ∧ Below V.heap.size V w') := fun V hV => HCut.out V (HB6.out.trans (hV.mono HB6.out.size))
      exact shows_tail hW HN9.out.2.2.2 ⟨HN9.out.1, HN9.out.2.1, HN9.out.2.2.1⟩ HRs9 HTab9 HCut9 HR9
end Go.Proofs.YtfnpmncmceocdaaDoor
