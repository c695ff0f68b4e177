import Derived.Test.YtelcjhflopgojaaMkY
import Derived.Deep.Cut
import Derived.Deep.DeepCutAuto
import Derived.Deep.CutBlock
import Derived.Deep.QuietTactic
import Derived.BigQuiet
import Derived.BigGuard
/-! MarksSorted: the loop over the marks, and what follows. -/
namespace Go.Proofs.Ytelcjhflopgojaa
open Go.RowKit Go.Lib Go.Sort Go.Shelf
set_option maxRecDepth 100000

theorem below_alloc1 (w : World) (o : Obj) : Below w.heap.size w (w.alloc o) := (Below.refl _ _).alloc (Nat.le_refl _) _
def sndN : Nat → Code → Code
  | 0, c => c
  | n + 1, .seq _ b => sndN n b
  | _ + 1, c => c
noncomputable def sortTail : Code := sndN 11 (Try.f5.body.getD .skip)
set_option maxHeartbeats 64000000 in
theorem marksSorted_tail {w w9 : World} {p m cap n2 cap2 lo hi j0 : Nat} {a a2 : Option Addr} {l : List (Int × Int)} {k : List Mk} (HS : Hid (Bk w.heap.size w9 p 100 (LS l j0) ∧ Below w.heap.size w w9 ∧ j0 ≤ 60 ∧ m = j0)) (hk : Rw mkV 3 w9 a m cap k) (hk2 : Rw str1 1 w9 a2 n2 cap2 ((k.filter (ovr lo hi)).map nmB)) (hp : k.Perm (LS l j0)) (hr : Rises k) (hlh : lo ≤ hi ∧ hi ≤ 100) {v0 v3 v4 v5 v6 v8 v10 v11 v12 v13 v16 v18 v19 v20 v21 v22 v23 v24 v25 v26 v27 v28 v29 v30 v31 v32 v33 v34 v35 v36 v37 v38 v39 v40 v41 v42 v43 v44 v45 v46 v47 v48 v49 v50 v51 v52 v53 v54 v55 v56 v57 v58 v59 v60 v61 v62 v63 v64 v65 v66 v67 v68 v69 v70 v71 v72 v73 v74 v75 v76 v77 v78 v79 v80 v81 v82 v83 v84 v85 v86 v87 v88 v89 v90 v91 v92 v93 v94 v95 v96 v97 v98 v99 v100 v101 v102 v103 v104 v105 v106 v107 v108 v109 v110 v111 v112 v113 v114 v115 v116 v117 v118 v119 v120 v121 v122 v123 v124 v125 v126 v127 v128 v129 v130 v131 v132 v133 v134 v135 v136 v137 v138 v139 v140 v141 v142 v143 v144 v145 v146 v147 v148 v149 v150 v151 v152 v153 v154 v155 v156 v157 v158 v159 v160 v161 v162 v163 v164 v165 v166 v167 v168 v169 v170 v171 v172 v173 v174 v175 v176 v177 v178 v179 v180 v181 v182 v183 v184 v185 v186 v187 v188 v189 v190 v191 v192 v193 v194 v195 v196 v197 v198 v199 v200 v201 v202 v203 v204 v205 v206 v207 v208 v209 v210 v211 v212 v213 v214 v215 v216 v217 v218 v219 v220 v221 v222 v223 v224 v225 v226 v227 v228 v229 v230 v231 v232 v233 v234 v235 v236 v237 v238 v239 v240 v241 v242 v243 v244 v245 v246 v247 v248 v249 : Value} :
    Code.wp Try.prog sortTail (bodyPost Try.prog Try.f5 fun e w' => e = .returned (.bool true) ∧ Below w.heap.size w w') ⟨#[v0, .int .i64 (lo : Int), .int .i64 (hi : Int), v3, v4, v5, v6, .pointer (some ⟨p, 0, none⟩), v8, .int .i64 (m : Int), v10, v11, v12, v13, .slice a m cap, .slice a2 n2 cap2, v16, .int .i64 0, v18, v19, v20, v21, v22, v23, v24, v25, v26, v27, v28, v29, v30, v31, v32, v33, v34, v35, v36, v37, v38, v39, v40, v41, v42, v43, v44, v45, v46, v47, v48, v49, v50, v51, v52, v53, v54, v55, v56, v57, v58, v59, v60, v61, v62, v63, v64, v65, v66, v67, v68, v69, v70, v71, v72, v73, v74, v75, v76, v77, v78, v79, v80, v81, v82, v83, v84, v85, v86, v87, v88, v89, v90, v91, v92, v93, v94, v95, v96, v97, v98, v99, v100, v101, v102, v103, v104, v105, v106, v107, v108, v109, v110, v111, v112, v113, v114, v115, v116, v117, v118, v119, v120, v121, v122, v123, v124, v125, v126, v127, v128, v129, v130, v131, v132, v133, v134, v135, v136, v137, v138, v139, v140, v141, v142, v143, v144, v145, v146, v147, v148, v149, v150, v151, v152, v153, v154, v155, v156, v157, v158, v159, v160, v161, v162, v163, v164, v165, v166, v167, v168, v169, v170, v171, v172, v173, v174, v175, v176, v177, v178, v179, v180, v181, v182, v183, v184, v185, v186, v187, v188, v189, v190, v191, v192, v193, v194, v195, v196, v197, v198, v199, v200, v201, v202, v203, v204, v205, v206, v207, v208, v209, v210, v211, v212, v213, v214, v215, v216, v217, v218, v219, v220, v221, v222, v223, v224, v225, v226, v227, v228, v229, v230, v231, v232, v233, v234, v235, v236, v237, v238, v239, v240, v241, v242, v243, v244, v245, v246, v247, v248, v249], []⟩ w9 := by
  conv => arg 2; whnf
  have hkl := hk.len
  have hkl2 := hk2.len
  rw [List.length_map] at hkl2
  have hnd : (k.map (·.nm)).Nodup := (hp.map (·.nm)).nodup_iff.2 HS.out.1.names.1
  have HK : Hid (k.length = m ∧ (∀ i x y, k[i]? = some x → k[i + 1]? = some y → ltM x y)) := ⟨hkl, fun i x y hx hy => hr.next hnd hx hy⟩
  have HCell : Hid ((∀ j, j < m → ∃ g off x, a = some ⟨g, off, none⟩ ∧ k[j]? = some x) ∧ ∀ j x g off, a = some ⟨g, off, none⟩ → k[j]? = some x → ∀ V, Below w9.heap.size w9 V → V.cell? ⟨g, off + j * 3, none⟩ = some (.string ⟨x.nm.toArray⟩) ∧ V.cell? ⟨g, off + j * 3 + 1, none⟩ = some (.int .i64 (x.lo : Int)) ∧ V.cell? ⟨g, off + j * 3 + 2, none⟩ = some (.int .i64 (x.hi : Int))) := by
    refine ⟨fun j hj => ?_, fun j x g off hg hx V hV => ?_⟩
    · obtain ⟨g, off, x, ea, -, hx, -⟩ := hk.at j hj
      exact ⟨g, off, x, ea, hx⟩
    · obtain ⟨g', off', x', ea, hgl, hx', hc⟩ := hk.at j (by rw [← hkl]; exact (List.getElem?_eq_some_iff.1 hx).1)
      rw [hg] at ea
      simp only [Option.some.injEq, Addr.mk.injEq, and_true] at ea
      obtain ⟨rfl, rfl⟩ := ea
      rw [hx] at hx'
      obtain rfl := Option.some.inj hx'
      exact ⟨(hV.cell (p := ⟨g, off + j * 3, none⟩) hgl).trans (hc 0 _ rfl), (hV.cell (p := ⟨g, off + j * 3 + 1, none⟩) hgl).trans (hc 1 _ rfl), (hV.cell (p := ⟨g, off + j * 3 + 2, none⟩) hgl).trans (hc 2 _ rfl)⟩
  have HSel : Hid (∀ j x, k[j]? = some x → (ovr lo hi x = false → ¬ (lo < hi ∧ x.lo < hi ∧ lo < x.hi)) ∧ (ovr lo hi x = true → cntF (ovr lo hi) k j < n2 ∧ True ∧ (lo < hi ∧ x.lo < hi ∧ lo < x.hi) ∧ ∃ g o, a2 = some ⟨g, o, none⟩ ∧ ∀ V, Below w9.heap.size w9 V → V.cell? ⟨g, o + cntF (ovr lo hi) k j, none⟩ = some (.string ⟨x.nm.toArray⟩))) := fun j x hx => by
    have hmem := LS_mem (hp.mem_iff.1 (List.mem_of_getElem? hx))
    refine ⟨fun ho => ?_, fun ho => ?_⟩
    · have := of_decide_eq_false ho
      omega
    · have h3 := of_decide_eq_true ho
      have hg := cntF_get hx ho
      have hcl := (List.getElem?_eq_some_iff.1 hg).1
      rw [hkl2] at hcl
      obtain ⟨g, o, y, ea, hgl, hy, hc⟩ := hk2.at _ hcl
      rw [List.getElem?_map, hg] at hy
      obtain rfl := Option.some.inj hy
      refine ⟨hcl, trivial, by omega, g, o, ea, fun V hV => ?_⟩
      have h1 := (hV.cell (p := ⟨g, o + cntF (ovr lo hi) k j * 1, none⟩) hgl).trans (hc 0 _ rfl)
      rw [Nat.mul_one] at h1
      exact h1
  have HEnd : Hid (cntF (ovr lo hi) k m = n2 ∧ m ≤ 60) := by
    refine ⟨?_, by have := HS.out.2.2; omega⟩
    unfold cntF
    rw [List.take_of_length_le (by omega), hkl2]
  have HO1 : Hid (∀ w, Bk w9.heap.size w p 100 (LS l j0) → True) := fun _ _ => trivial
  have HLh : Hid (lo ≤ hi ∧ hi ≤ 100) := hlh
  clear hk hk2 hp hr hkl hkl2 hnd hlh HO1
  go_wp2_with fail
  go_loopw [17, 18] (fun v17 v18 w' => ∃ (j c : Nat), v18 = .int .i64 (j : Int) ∧ v17 = .int .i64 (c : Int) ∧ j ≤ m ∧ cntF (ovr lo hi) k j = c ∧ Below w9.heap.size w9 w') (fun _ v18 _ => m - (RowKit.intOf v18).toNat)
  case atStart => exact ⟨0, 0, rfl, rfl, Nat.zero_le _, by simp [cntF], Below.refl _ _⟩
  case round =>
    obtain ⟨j, c, rfl, rfl, hj, hcnt, hb⟩ := hrel
    have HCnt : Hid (cntF (ovr lo hi) k j = c) := hcnt
    have hcb : c ≤ j := by rw [← hcnt]; exact cntF_le j
    have hjb := HEnd.out.2
    by_cases hjm : j < m
    · obtain ⟨g, off, x, hg, hx⟩ := HCell.out.1 j hjm
      have z1 : decide ((j : Int) < (m : Int)) = true := decide_eq_true (by omega)
      have z2 : decide (j < m) = true := decide_eq_true hjm
      have y1 : IntKind.i64.wrap ((j : Int) + 1) = ((j + 1 : Nat) : Int) := by rw [IntWalk.i64_in _ (by omega)]; omega
      subst hg
      have hg : (some ⟨g, off, none⟩ : Option Addr) = some ⟨g, off, none⟩ := rfl
      clear hcnt
      go_upto_if 117 with fail
      go_cut [] (fun wx => Below wr.heap.size wr wx)
      case first =>
        cases j with
        | zero =>
          go_wp2_with fail
          go_meet
          exact Below.refl _ _
        | succ i =>
          obtain ⟨mp, hmp⟩ : ∃ mp, k[i]? = some mp := ⟨_, List.getElem?_eq_getElem (by have := HK.out.1; omega)⟩
          have hlt := HK.out.2 i mp x hmp hx
          obtain ⟨e0, e1, e2⟩ := HCell.out.2 i mp g off hg hmp wr hb
          have hi1 : ((i + 1 : Nat) : Int) - 1 = (i : Int) := by omega
          have hi2 : decide (((i + 1 : Nat) : Int) > 0) = true := decide_eq_true (by omega)
          have hi3 : decide ((0 : Int) < (i : Int) + 1) = true := decide_eq_true (by omega)
          have HB9 : Hid (∀ o q, Below wr.heap.size wr ((wr.alloc o).drewN q)) := fun o q => below_drewN (below_alloc1 _ _) q
          have hbA := below_alloc1 wr (.cells #[.string ⟨mp.nm.toArray⟩, .int .i64 (mp.lo : Int), .int .i64 (mp.hi : Int)] 34)
          obtain ⟨b0, b1, b2⟩ := box3 (heap_alloc_new wr (.cells #[.string ⟨mp.nm.toArray⟩, .int .i64 (mp.lo : Int), .int .i64 (mp.hi : Int)] 34))
          have HDx : Hid (∀ V, Below w9.heap.size w9 V → V.cell? ⟨g, off + (i + 1) * 3, none⟩ = some (.string ⟨x.nm.toArray⟩) ∧ V.cell? ⟨g, off + (i + 1) * 3 + 1, none⟩ = some (.int .i64 (x.lo : Int)) ∧ V.cell? ⟨g, off + (i + 1) * 3 + 2, none⟩ = some (.int .i64 (x.hi : Int))) := fun V hV => HCell.out.2 (i + 1) x g off hg hx V hV
          obtain ⟨f0, f1, f2⟩ := HDx.out _ (hb.trans (hbA.mono hb.size))
          clear hbA hmp hx hg
          rcases hlt with h1 | ⟨h1, h2 | ⟨h2, h3⟩⟩
          · have r1 : decide ((mp.lo : Int) > (x.lo : Int)) = false := decide_eq_false (by omega)
            have r2 : ((mp.lo : Int) == (x.lo : Int)) = false := beq_eq_false_iff_ne.2 (by omega)
            clear HCell HK HSel
            generalize (⟨mp.nm.toArray⟩ : ByteArray) = s1 at *
            generalize (⟨x.nm.toArray⟩ : ByteArray) = s2 at *
            generalize (mp.lo : Int) = y1 at *
            generalize (mp.hi : Int) = y2 at *
            generalize (x.lo : Int) = y3 at *
            generalize (x.hi : Int) = y4 at *
            go_upto_region 26 with fail
            try simp only [List.append_eq, List.cons_append, List.nil_append]
            go_quiet (fail)
            go_wp2_with fail
            go_meet
            exact HB9.out _ _
          · have r1 : decide ((mp.lo : Int) > (x.lo : Int)) = false := decide_eq_false (by omega)
            have r2 : ((mp.lo : Int) == (x.lo : Int)) = true := beq_iff_eq.2 (by omega)
            have r3 : decide ((mp.hi : Int) > (x.hi : Int)) = false := decide_eq_false (by omega)
            have r4 : ((mp.hi : Int) == (x.hi : Int)) = false := beq_eq_false_iff_ne.2 (by omega)
            clear HCell HK HSel
            generalize (⟨mp.nm.toArray⟩ : ByteArray) = s1 at *
            generalize (⟨x.nm.toArray⟩ : ByteArray) = s2 at *
            generalize (mp.lo : Int) = y1 at *
            generalize (mp.hi : Int) = y2 at *
            generalize (x.lo : Int) = y3 at *
            generalize (x.hi : Int) = y4 at *
            go_upto_region 26 with fail
            try simp only [List.append_eq, List.cons_append, List.nil_append]
            go_quiet (fail)
            go_wp2_with fail
            go_meet
            exact HB9.out _ _
          · have r1 : decide ((mp.lo : Int) > (x.lo : Int)) = false := decide_eq_false (by omega)
            have r2 : ((mp.lo : Int) == (x.lo : Int)) = true := beq_iff_eq.2 (by omega)
            have r3 : decide ((mp.hi : Int) > (x.hi : Int)) = false := decide_eq_false (by omega)
            have r4 : ((mp.hi : Int) == (x.hi : Int)) = true := beq_iff_eq.2 (by omega)
            have r5 := geq_no h3
            have r6 := less_yes h3
            clear HCell HK HSel
            generalize (⟨mp.nm.toArray⟩ : ByteArray) = s1 at *
            generalize (⟨x.nm.toArray⟩ : ByteArray) = s2 at *
            generalize (mp.lo : Int) = y1 at *
            generalize (mp.hi : Int) = y2 at *
            generalize (x.lo : Int) = y3 at *
            generalize (x.hi : Int) = y4 at *
            go_upto_region 26 with fail
            try simp only [List.append_eq, List.cons_append, List.nil_append]
            go_quiet (fail)
            go_wp2_with fail
            go_meet
            exact HB9.out _ _
      case rest =>
        have hbc := hb.trans (hcut.mono hb.size)
        have HBc : Hid (Below w9.heap.size w9 wc) := hbc
        obtain ⟨d0, d1, d2⟩ := HCell.out.2 j x g off hg hx wc hbc
        have hxs := HSel.out j x hx
        have hce := HCnt.out
        clear hbc hcut hb
        by_cases hs : ovr lo hi x = true
        · obtain ⟨hc1, hc2, hc3, ⟨g2, o2, hg2, hcc⟩⟩ := hxs.2 hs
          subst hg2
          rw [hce] at hcc hc1
          have hq := hcc wc HBc.out
          have s1 : decide ((lo : Int) < (hi : Int)) = true := decide_eq_true (by have := hc3; omega)
          have s2 : decide ((x.lo : Int) < (hi : Int)) = true := decide_eq_true (by have := hc3; omega)
          have s3 : decide ((x.hi : Int) > (lo : Int)) = true := decide_eq_true (by have := hc3; omega)
          have s3' : decide ((lo : Int) < (x.hi : Int)) = true := s3
          have s4 : decide ((c : Int) ≥ (n2 : Int)) = false := decide_eq_false (by omega)
          have s5 : decide ((n2 : Int) ≤ (c : Int)) = false := s4
          have HN : Hid (cntF (ovr lo hi) k (j + 1) = c + 1 ∧ Below w9.heap.size w9 wc) := ⟨by rw [cntF_succ hx, if_pos hs, hce], HBc.out⟩
          clear hxs hc2 hcc hs hce HCell HK HSel
          go_wp2_with fail
          go_quiet (fail)
          go_wp2_with fail
          go_roundw
          case rel => exact ⟨j + 1, c + 1, by go_num, by go_num, by omega, HN.out.1, below_drewN HN.out.2 _⟩
          case measure => simp [RowKit.intOf]; omega
        · have hc3 := hxs.1 (by simpa using hs)
          have HN : Hid (cntF (ovr lo hi) k (j + 1) = c ∧ Below w9.heap.size w9 wc) := ⟨by rw [cntF_succ hx, if_neg hs, hce], HBc.out⟩
          clear hxs hs hce HCell HK HSel
          by_cases q1 : lo < hi
          · have s1 : decide ((lo : Int) < (hi : Int)) = true := decide_eq_true (by omega)
            by_cases q2 : x.lo < hi
            · have s2 : decide ((x.lo : Int) < (hi : Int)) = true := decide_eq_true (by omega)
              have s3 : decide ((x.hi : Int) > (lo : Int)) = false := decide_eq_false (by omega)
              have s3' : decide ((lo : Int) < (x.hi : Int)) = false := s3
              go_wp2_with fail
              go_roundw
              case rel => exact ⟨j + 1, c, by go_num, rfl, by omega, HN.out.1, HN.out.2⟩
              case measure => simp [RowKit.intOf]; omega
            · have s2 : decide ((x.lo : Int) < (hi : Int)) = false := decide_eq_false (by omega)
              go_wp2_with fail
              go_roundw
              case rel => exact ⟨j + 1, c, by go_num, rfl, by omega, HN.out.1, HN.out.2⟩
              case measure => simp [RowKit.intOf]; omega
          · have s1 : decide ((lo : Int) < (hi : Int)) = false := decide_eq_false (by omega)
            go_wp2_with fail
            go_roundw
            case rel => exact ⟨j + 1, c, by go_num, rfl, by omega, HN.out.1, HN.out.2⟩
            case measure => simp [RowKit.intOf]; omega
    ·
      obtain rfl : j = m := by omega
      have hcn : c = n2 := by rw [← HEnd.out.1, hcnt]
      subst hcn
      have HB : Hid (Bk w.heap.size wr p 100 (LS l j0) ∧ Below w.heap.size w wr) := ⟨HS.out.1.below hb, HS.out.2.1.trans (hb.mono HS.out.2.1.size)⟩
      have HO1 : Hid (Calls Try.prog 13 #[.pointer (some ⟨p, 0, none⟩), .int .i64 ((hi : Int) + 1), .int .i64 (hi : Int)] wr fun e w' => e = .returned (.tuple #[.slice none 0 0, .int .i64 12]) ∧ Below wr.heap.size wr w') := over_bad HB.out.1 _ _ (by omega)
      have HO2 : Hid (∀ V, Bk w.heap.size V p 100 (LS l j0) → Calls Try.prog 13 #[.pointer (some ⟨p, 0, none⟩), .int .i64 0, .int .i64 101] V fun e w' => e = .returned (.tuple #[.slice none 0 0, .int .i64 12]) ∧ Below V.heap.size V w') := fun V hV => over_bad hV _ _ (by omega)
      have HZ : Hid (∀ V, Bk w.heap.size V p 100 (LS l j0) → Calls Try.prog 8 #[.pointer (some ⟨p, 0, none⟩), .agg #[.string ⟨zzN.toArray⟩, .int .i64 0, .int .i64 1]] V fun e w' => e = .returned (.int .i64 0) ∧ Bk w.heap.size w' p 100 (LS l j0 ++ [⟨zzN, 0, 1⟩]) ∧ Below w.heap.size V w') := fun V hV => by
        have hc := put_B hV (nm := zzN) (by decide) 0 1
        rw [putZ HS.out.2.2.1, putZL HS.out.2.2.1] at hc
        exact hc
      have HM : Hid (∀ V, Bk w.heap.size V p 100 (LS l j0 ++ [⟨zzN, 0, 1⟩]) → Calls Try.prog 11 #[.pointer (some ⟨p, 0, none⟩)] V fun e w' => ∃ a cap, e = .returned (.slice a (j + 1) cap) ∧ Below V.heap.size V w') := fun V hV => (marks_B hV).mono (by
        rintro e w' ⟨a, cap, k, rfl, hp, -, -, hb, -⟩
        have hk := hp.length_eq
        rw [List.filter_eq_self.2 (fun _ _ => rfl), List.length_append, LS_len, List.length_singleton] at hk
        exact ⟨a, cap, by rw [hk, HS.out.2.2.2], hb⟩)
      have hlh := HLh.out.2
      have z1 : decide ((j : Int) < (j : Int)) = false := decide_eq_false (by omega)
      clear hcnt hb hj hjm hcb HCell HSel HK HEnd HCnt
      go_wp2_with fail
      refine HO1.out.mono ?_
      rintro e w1 ⟨rfl, hb1⟩
      have HB1 : Hid (Bk w.heap.size w1 p 100 (LS l j0) ∧ Below w.heap.size w w1) := ⟨HB.out.1.below hb1, HB.out.2.trans (hb1.mono HB.out.2.size)⟩
      clear hb1
      go_wp2_with fail
      refine (HO2.out _ HB1.out.1).mono ?_
      rintro e w2 ⟨rfl, hb2⟩
      have HB2 : Hid (Bk w.heap.size w2 p 100 (LS l j0) ∧ Below w.heap.size w w2) := ⟨HB1.out.1.below hb2, HB1.out.2.trans (hb2.mono HB1.out.2.size)⟩
      clear hb2
      go_wp2_with fail
      refine (HZ.out _ HB2.out.1).mono ?_
      rintro e w3 ⟨rfl, hbk, hb3⟩
      have HB3 : Hid (Bk w.heap.size w3 p 100 (LS l j0 ++ [⟨zzN, 0, 1⟩]) ∧ Below w.heap.size w w3) := ⟨hbk, HB2.out.2.trans hb3⟩
      clear hbk hb3
      go_wp2_with fail
      refine (HM.out _ HB3.out.1).mono ?_
      rintro e w4 ⟨a4, cap4, rfl, hb4⟩
      have HE : Hid (Below w.heap.size w w4) := HB3.out.2.trans (hb4.mono HB3.out.2.size)
      have r1 : (((j + 1 : Nat) : Int) == (j : Int) + 1) = true := beq_iff_eq.2 (by omega)
      clear hb4
      go_wp2_with fail
      go_ret
      exact ⟨rfl, HE.out⟩
end Go.Proofs.Ytelcjhflopgojaa
