import Derived.Test.YtelcjhflopgojaaMkV
import Derived.Deep.Cut
import Derived.Deep.DeepCutAuto
import Derived.Deep.CutBlock
import Derived.Test.YtelcjhflopgojaaMkU
/-! MarksTitles. -/
namespace Go.Proofs.Ytelcjhflopgojaa
open Go.RowKit Go.Lib Go.Sort Go.Shelf
set_option maxRecDepth 100000

theorem below_alloc1 (w : World) (o : Obj) : Below w.heap.size w (w.alloc o) := (Below.refl _ _).alloc (Nat.le_refl _) _
theorem hid_of {p : Prop} (h : p) : Hid p := h
/-- The three first calls of the sentence. -/
theorem title_puts (l : List UInt8) (hl : l.length ≤ 9223372036854775807) (lo hi : Int) (B p : Nat) : ∃ (f g d : Int) (L1 L2' : List Mk),
    ((nameOk l = false → f = 200 ∧ g = 200 ∧ d = 60) ∧ (nameOk l = true → decide (0 ≤ lo ∧ lo < hi ∧ hi ≤ 50) = false → f = 12 ∧ g = 0 ∧ d = 0) ∧ (nameOk l = true → decide (0 ≤ lo ∧ lo < hi ∧ hi ≤ 50) = true → f = 0 ∧ g = 201 ∧ d = 0)) ∧
    (∀ w, Bk B w p 50 [] → Calls Try.prog 8 #[.pointer (some ⟨p, 0, none⟩), .agg #[.string ⟨l.toArray⟩, .int .i64 lo, .int .i64 hi]] w fun e w' => e = .returned (.int .i64 f) ∧ Bk B w' p 50 L1 ∧ Below B w w') ∧
    (∀ w, Bk B w p 50 L1 → Calls Try.prog 8 #[.pointer (some ⟨p, 0, none⟩), .agg #[.string ⟨l.toArray⟩, .int .i64 0, .int .i64 1]] w fun e w' => e = .returned (.int .i64 g) ∧ Bk B w' p 50 L2' ∧ Below B w w') ∧
    (∀ w, Bk B w p 50 L2' → Calls Try.prog 9 #[.pointer (some ⟨p, 0, none⟩), .string ⟨l.toArray⟩] w fun e w' => e = .returned (.int .i64 d) ∧ Bk B w' p 50 [] ∧ Below B w w') := by
  have hnil : dropL (putL 50 (putL 50 [] l lo hi) l 0 1) l = [] := by
    have h1 : ∀ m ∈ putL 50 [] l lo hi, m.nm = l := fun m hm => by
      unfold putL at hm
      split at hm
      · simp at hm; rw [hm]
      · cases hm
    have h2 : ∀ m ∈ putL 50 (putL 50 [] l lo hi) l 0 1, m.nm = l := fun m hm => by
      rw [putL] at hm
      split at hm
      · rcases List.mem_append.1 hm with hm | hm
        · exact h1 m hm
        · simp at hm; rw [hm]
      · exact h1 m hm
    exact List.filter_eq_nil_iff.2 (fun m hm => by simp [h2 m hm])
  refine ⟨putE 50 [] l lo hi, putE 50 (putL 50 [] l lo hi) l 0 1, (if hasL (putL 50 (putL 50 [] l lo hi) l 0 1) l = true then 0 else 60), putL 50 [] l lo hi, putL 50 (putL 50 [] l lo hi) l 0 1, ⟨fun h => ?_, fun h hf => ?_, fun h hf => ?_⟩, fun w hb => put_B hb hl lo hi, fun w hb => put_B hb hl 0 1, fun w hb => by
    have hc := drop_B hb l
    rw [hnil] at hc
    exact hc⟩
  · have E : ∀ L x y, putE 50 L l x y = 200 := fun L x y => by unfold putE; rw [if_pos h]
    have E1 : putL 50 [] l lo hi = [] := by rw [putL, E]; rfl
    have E2 : putL 50 [] l 0 1 = [] := by rw [putL, E]; rfl
    rw [E1, E2, E, E]
    exact ⟨rfl, rfl, rfl⟩
  · have hB : lo < 0 ∨ hi ≤ lo ∨ ((50 : Nat) : Int) < hi := by
      have h1 := of_decide_eq_false hf
      omega
    have E0 : putE 50 [] l lo hi = 12 := by unfold putE; rw [if_neg (by rw [h]; decide), if_pos hB]
    have E1 : putL 50 [] l lo hi = [] := by rw [putL, E0]; rfl
    have E2 : putE 50 [] l 0 1 = 0 := by unfold putE; rw [if_neg (by rw [h]; decide), if_neg (by omega), if_neg (by simp [hasL]), if_neg (by decide)]
    have E3 : putL 50 [] l 0 1 = [⟨l, 0, 1⟩] := by rw [putL, E2]; rfl
    rw [E1, E3, E0, E2]
    exact ⟨rfl, rfl, by simp [hasL]⟩
  · have hB : ¬ (lo < 0 ∨ hi ≤ lo ∨ ((50 : Nat) : Int) < hi) := by
      have h1 := of_decide_eq_true hf
      omega
    have E0 : putE 50 [] l lo hi = 0 := by unfold putE; rw [if_neg (by rw [h]; decide), if_neg hB, if_neg (by simp [hasL]), if_neg (by decide)]
    have E1 : putL 50 [] l lo hi = [⟨l, lo.toNat, hi.toNat⟩] := by rw [putL, E0]; rfl
    have E2 : putE 50 [⟨l, lo.toNat, hi.toNat⟩] l 0 1 = 201 := by unfold putE; rw [if_neg (by rw [h]; decide), if_neg (by omega), if_pos (by simp [hasL])]
    have E3 : putL 50 [⟨l, lo.toNat, hi.toNat⟩] l 0 1 = [⟨l, lo.toNat, hi.toNat⟩] := by rw [putL, E2]; rfl
    rw [E1, E3, E0, E2]
    exact ⟨rfl, rfl, by simp [hasL]⟩
/-- The code behind n statements. -/
def sndN : Nat → Code → Code
  | 0, c => c
  | n + 1, .seq _ b => sndN n b
  | _ + 1, c => c
noncomputable def titleTail : Code := sndN 11 (Try.f4.body.getD .skip)
set_option maxHeartbeats 64000000 in
theorem marksTitles_tail {w w4 : World} {B p : Nat} {many : Bool} (HS4 : Hid (Bk B w4 p 50 [] ∧ Below w.heap.size w w4 ∧ w.heap.size ≤ B)) {v0 v1 v2 v3 v4 v5 v8 v9 v10 v11 v12 v13 v14 v15 v16 v17 v18 v19 v20 v21 v22 v23 v24 v25 v26 v27 v28 v29 v30 v31 v32 v33 v34 v35 v36 v37 v38 v39 v40 v41 v42 v43 v44 v45 v46 v47 v48 v49 v50 v51 v52 v53 v54 v55 v56 v57 v58 v59 v60 v61 v62 v63 v64 v65 v66 v67 v68 v69 v70 v71 v72 v73 v74 v75 v76 v77 v78 v79 v80 v81 v82 v83 v84 v85 v86 v87 v88 v89 v90 v91 v92 v93 v94 v95 v96 v97 v98 v99 v100 v101 v102 v103 v104 v105 v106 v107 v108 v109 v110 v111 v112 v113 v114 v115 v116 v117 v118 v119 v120 v121 v122 v123 v124 v125 v126 v127 v128 v129 v130 v131 v132 v133 v134 v135 v136 v137 v138 v139 v140 v141 v142 v143 v144 v145 v146 v147 v148 v149 v150 v151 v152 v153 v154 v155 v156 v157 v158 v159 v160 v161 v162 v163 v164 v165 v166 v167 v168 v169 v170 v171 v172 v173 v174 v175 v176 v177 v178 v179 v180 v181 v182 v183 v184 v185 v186 v187 v188 v189 v190 v191 v192 v193 v194 v195 v196 v197 v198 v199 v200 v201 v202 v203 v204 v205 v206 v207 : Value} :
    Code.wp Try.prog titleTail (bodyPost Try.prog Try.f4 fun e w' => e = .returned (.bool true) ∧ Below w.heap.size w w') ⟨#[v0, v1, v2, v3, v4, v5, .bool many, .pointer (some ⟨p, 0, none⟩), v8, v9, v10, v11, v12, v13, v14, v15, v16, v17, v18, v19, v20, v21, v22, v23, v24, v25, v26, v27, v28, v29, v30, v31, v32, v33, v34, v35, v36, v37, v38, v39, v40, v41, v42, v43, v44, v45, v46, v47, v48, v49, v50, v51, v52, v53, v54, v55, v56, v57, v58, v59, v60, v61, v62, v63, v64, v65, v66, v67, v68, v69, v70, v71, v72, v73, v74, v75, v76, v77, v78, v79, v80, v81, v82, v83, v84, v85, v86, v87, v88, v89, v90, v91, v92, v93, v94, v95, v96, v97, v98, v99, v100, v101, v102, v103, v104, v105, v106, v107, v108, v109, v110, v111, v112, v113, v114, v115, v116, v117, v118, v119, v120, v121, v122, v123, v124, v125, v126, v127, v128, v129, v130, v131, v132, v133, v134, v135, v136, v137, v138, v139, v140, v141, v142, v143, v144, v145, v146, v147, v148, v149, v150, v151, v152, v153, v154, v155, v156, v157, v158, v159, v160, v161, v162, v163, v164, v165, v166, v167, v168, v169, v170, v171, v172, v173, v174, v175, v176, v177, v178, v179, v180, v181, v182, v183, v184, v185, v186, v187, v188, v189, v190, v191, v192, v193, v194, v195, v196, v197, v198, v199, v200, v201, v202, v203, v204, v205, v206, v207], []⟩ w4 := by
  conv => arg 2; whnf
  have HLast0 : Hid (∀ (B p : Nat) (w : World), Bk B w p 50 [] → Calls Try.prog 8 #[.pointer (some ⟨p, 0, none⟩), .agg #[.string ⟨lastN.toArray⟩, .int .i64 0, .int .i64 1]] w fun e w' => e = .returned (.int .i64 0) ∧ Below B w w') := fun B p w h => (put_B h (nm := lastN) (by decide) 0 1).mono (by rw [last_nil]; rintro e w' ⟨rfl, -, hb⟩; exact ⟨rfl, hb⟩)
  have HCv : Hid (∀ (i : Nat) (W : World), i < 256 → (convert 36 9 (.slice (some ⟨W.heap.size, 0, none⟩) 2 2)).run Try.prog (W.alloc (.cells #[.int .u8 (97 + (i : Int) / 16), .int .u8 (97 + (i : Int) % 16)] 5)) = .ok (.string ⟨(nm2 i).toArray⟩) (W.alloc (.cells #[.int .u8 (97 + (i : Int) / 16), .int .u8 (97 + (i : Int) % 16)] 5))) := fun i W h => conv_lit W (nm2 i) _ (nm2_cells h) 2 rfl (by decide)
  have HP2 : Hid (∀ (B p i : Nat) (w : World), i < 256 → Bk B w p 50 (L2 i) → Calls Try.prog 8 #[.pointer (some ⟨p, 0, none⟩), .agg #[.string ⟨(nm2 i).toArray⟩, .int .i64 ((i : Int) % 50), .int .i64 50]] w fun e w' => e = .returned (.int .i64 0) ∧ Bk B w' p 50 (L2 (i + 1)) ∧ Below B w w') := fun B p i w h hb => by
    have hc := put_B hb (nm := nm2 i) (by show (2 : Nat) ≤ _; decide) ((i % 50 : Nat) : Int) 50
    rw [put2 h, put2L h, show (((i % 50 : Nat)) : Int) = (i : Int) % 50 by omega] at hc
    exact hc
  have HLastF : Hid (∀ (B p : Nat) (w : World), Bk B w p 50 (L2 256) → Calls Try.prog 8 #[.pointer (some ⟨p, 0, none⟩), .agg #[.string ⟨lastN.toArray⟩, .int .i64 0, .int .i64 1]] w fun e w' => e = .returned (.int .i64 202) ∧ Bk B w' p 50 (L2 256) ∧ Below B w w') := fun B p w h => by
    have hc := put_B h (nm := lastN) (by decide) 0 1
    rw [last_full, last_fullL] at hc
    exact hc
  have HLast3 : Hid (∀ (B p : Nat) (w : World), Bk B w p 50 L3 → Calls Try.prog 8 #[.pointer (some ⟨p, 0, none⟩), .agg #[.string ⟨lastN.toArray⟩, .int .i64 0, .int .i64 1]] w fun e w' => e = .returned (.int .i64 0) ∧ Bk B w' p 50 L4 ∧ Below B w w') := fun B p w h => by
    have hc := put_B h (nm := lastN) (by decide) 0 1
    rw [last_L3, last_L3L] at hc
    exact hc
  have HCd : Hid (∀ (B p : Nat) (w : World), Bk B w p 50 (L2 256) → Calls Try.prog 9 #[.pointer (some ⟨p, 0, none⟩), .string ⟨cdN.toArray⟩] w fun e w' => e = .returned (.int .i64 0) ∧ Bk B w' p 50 L3 ∧ Below B w w') := fun B p w h => by
    have hc := drop_B h cdN
    rw [cd_in, if_pos rfl] at hc
    exact hc
  have HMk : Hid (∀ (B p : Nat) (w : World), Bk B w p 50 L4 → Calls Try.prog 10 #[.pointer (some ⟨p, 0, none⟩), .string ⟨cdN.toArray⟩] w fun e w' => e = .returned (.tuple #[.agg #[.string ⟨#[]⟩, .int .i64 0, .int .i64 0], .int .i64 60]) ∧ Below w.heap.size w w') := fun B p w h => by
    have hc := mark_B h cdN
    rw [cd_L4] at hc
    exact hc
  have HMs : Hid (∀ (B p : Nat) (w : World), Bk B w p 50 L4 → Calls Try.prog 11 #[.pointer (some ⟨p, 0, none⟩)] w fun e w' => ∃ a cap, e = .returned (.slice a 256 cap) ∧ Below w.heap.size w w') := fun B p w h => (marks_B h).mono (by
    rintro e w' ⟨a, cap, k, rfl, hp, -, -, hb, -⟩
    have hk := hp.length_eq
    rw [List.filter_eq_self.2 (fun _ _ => rfl), L4_len] at hk
    exact ⟨a, cap, by rw [hk], hb⟩)
  cases many with
  | false =>
    go_wp2_with fail
    go_loopw [16] (fun v16 w' => v16 = .int .i64 0 ∧ w' = w4) (fun _ _ => 0)
    case atStart => exact ⟨rfl, rfl⟩
    case round =>
      obtain ⟨rfl, hww⟩ := hrel
      obtain rfl := hww.symm
      clear hww
      go_wp2_with fail
      refine (HLast0.out B p _ HS4.out.1).mono ?_
      rintro e w5 ⟨rfl, hbb⟩
      have HE : Hid (Below w.heap.size w w5) := HS4.out.2.1.trans (hbb.mono HS4.out.2.2)
      clear hbb
      go_wp2_with fail
      go_ret
      exact ⟨rfl, HE.out⟩
  | true =>
    go_wp2_with fail
    go_loopw [16] (fun v16 w' => ∃ i : Nat, i ≤ 256 ∧ v16 = .int .i64 (i : Int) ∧ Hid (Bk B w' p 50 (L2 i) ∧ Below w.heap.size w w')) (fun v _ => 256 - (RowKit.intOf v).toNat)
    case atStart => exact ⟨0, by omega, rfl, HS4.out.1, HS4.out.2.1⟩
    case round =>
      obtain ⟨i, hi9, rfl, HL⟩ := hrel
      by_cases hi8 : i < 256
      · have v1 : decide ((i : Int) < 256) = true := decide_eq_true (by omega)
        have v2 : decide (i < 256) = true := decide_eq_true hi8
        have hcv := HCv.out i wr hi8
        have hbA : Below wr.heap.size wr (wr.alloc (.cells #[.int .u8 (97 + (i : Int) / 16), .int .u8 (97 + (i : Int) % 16)] 5)) := below_alloc1 _ _
        have HBi : Hid (Bk B (wr.alloc (.cells #[.int .u8 (97 + (i : Int) / 16), .int .u8 (97 + (i : Int) % 16)] 5)) p 50 (L2 i) ∧ Below w.heap.size w (wr.alloc (.cells #[.int .u8 (97 + (i : Int) / 16), .int .u8 (97 + (i : Int) % 16)] 5))) := ⟨HL.out.1.below hbA, HL.out.2.trans (hbA.mono HL.out.2.size)⟩
        clear hbA
        go_wp2_with fail
        refine (HP2.out B p i _ hi8 HBi.out.1).mono ?_
        rintro e w6 ⟨rfl, hbk, hbb⟩
        have HN6 : Hid (Bk B w6 p 50 (L2 (i + 1)) ∧ Below w.heap.size w w6) := ⟨hbk, HBi.out.2.trans (hbb.mono HS4.out.2.2)⟩
        clear hbk hbb hcv HBi HL
        go_wp2_with fail
        exact ⟨⟨i + 1, by omega, by go_num, HN6.out⟩, by simp [RowKit.intOf]; omega⟩
      · obtain rfl : i = 256 := by omega
        go_wp2_with fail
        refine (HLastF.out B p _ HL.out.1).mono ?_
        rintro e w6 ⟨rfl, hbk, hbb⟩
        have HS6 : Hid (Bk B w6 p 50 (L2 256) ∧ Below w.heap.size w w6) := ⟨hbk, HL.out.2.trans (hbb.mono HS4.out.2.2)⟩
        clear hbk hbb
        go_wp2_with fail
        refine (HCd.out B p _ HS6.out.1).mono ?_
        rintro e w7 ⟨rfl, hbk, hbb⟩
        have HS7 : Hid (Bk B w7 p 50 L3 ∧ Below w.heap.size w w7) := ⟨hbk, HS6.out.2.trans (hbb.mono HS4.out.2.2)⟩
        clear hbk hbb
        go_wp2_with fail
        refine (HLast3.out B p _ HS7.out.1).mono ?_
        rintro e w8 ⟨rfl, hbk, hbb⟩
        have HS8 : Hid (Bk B w8 p 50 L4 ∧ Below w.heap.size w w8) := ⟨hbk, HS7.out.2.trans (hbb.mono HS4.out.2.2)⟩
        clear hbk hbb
        go_wp2_with fail
        refine (HMk.out B p _ HS8.out.1).mono ?_
        rintro e w9 ⟨rfl, hbb⟩
        have HS9 : Hid (Bk B w9 p 50 L4 ∧ Below w.heap.size w w9) := ⟨HS8.out.1.below hbb, HS8.out.2.trans (hbb.mono HS8.out.2.size)⟩
        clear hbb
        go_wp2_with fail
        refine (HMs.out B p _ (HS9.out.1.below (below_alloc1 _ _))).mono ?_
        rintro e w10 ⟨a10, cap10, rfl, hbb⟩
        have HE : Hid (Below w.heap.size w w10) := (HS9.out.2.alloc HS9.out.2.size _).trans (hbb.mono (HS9.out.2.alloc HS9.out.2.size _).size)
        clear hbb
        go_wp2_with fail
        go_ret
        exact ⟨rfl, HE.out⟩
set_option maxHeartbeats 64000000 in
theorem marksTitles_any (l : List UInt8) (hl : l.length ≤ 9223372036854775807) (lo hi : Int) (many : Bool) (w : World) : Calls Try.prog 4 #[.agg #[.string ⟨l.toArray⟩, .int .i64 lo, .int .i64 hi, .bool many]] w fun e w' => e = .returned (.bool true) ∧ Below w.heap.size w w' := by
  have hsz : (⟨l.toArray⟩ : ByteArray).size = l.length := by simp [ByteArray.size]
  have HX : Hid (∀ (w : World) (j : Nat) (c : UInt8), l[j]? = some c → (Instr.index 9 (.string ⟨l.toArray⟩) (.int .i64 (j : Int))).run Try.prog w = .ok (.int .u8 (c.toNat : Int)) w) := fun w j c hc => by
    obtain ⟨hj, rfl⟩ := List.getElem?_eq_some_iff.1 hc
    rw [run_index_string w 9 _ .i64 _ Try.underlying9, dif_pos (by constructor <;> omega)]
    rfl
  have HNew : Hid (∀ w, Calls Try.prog 7 #[.int .i64 50] w fun e w' => e = .returned (.tuple #[.pointer (some ⟨w.heap.size + 1, 0, none⟩), .int .i64 0]) ∧ Bk w.heap.size w' (w.heap.size + 1) 50 [] ∧ Below w.heap.size w w') := fun w => (new_any 50 (by decide) w).mono (by
    rintro e w' ⟨rfl, h, hb⟩
    exact ⟨rfl, ⟨_, [], 0, h, rfl, Nat.le_succ _, Nat.le_refl _, by simp, by simp, by simp⟩, hb⟩)
  have HLen : Hid (l.length ≤ 9223372036854775807) := hl
  obtain ⟨s, hs⟩ : ∃ s : ByteArray, (⟨l.toArray⟩ : ByteArray) = s := ⟨_, rfl⟩
  have HStr : Hid ((⟨l.toArray⟩ : ByteArray) = s) := hs
  rw [hs] at hsz HX ⊢
  clear hs
  have HZ : Hid (s.size = l.length) := hsz
  clear hsz hl
  go_enter Try.func4, Try.ntmps4
  have hxV : (w.alloc (.cells #[.string s, .int .i64 lo, .int .i64 hi, .bool many] 28)).heap[w.heap.size]? = some (.cells #[.string s, .int .i64 lo, .int .i64 hi, .bool many] 28) := heap_alloc_new _ _
  have HB0 : Hid (Below w.heap.size w (w.alloc (.cells #[.string s, .int .i64 lo, .int .i64 hi, .bool many] 28))) := below_alloc1 _ _
  obtain ⟨k0, k1, k2, k3⟩ := box4 hxV
  clear hxV
  go_wp2_with fail
  go_quiet (fail)
  obtain ⟨V, hV⟩ : ∃ V, (w.alloc (.cells #[.string s, .int .i64 lo, .int .i64 hi, .bool many] 28)).drewN nq = V := ⟨_, rfl⟩
  have HV : Hid (Below w.heap.size w V) := by rw [← hV]; exact below_drewN HB0.out _
  rw [hV]
  clear hV k0 k1 k2 k3 HB0
  go_wp2_with fail
  refine (HNew.out _).mono ?_
  rintro e w1 ⟨rfl, hbk, hb1⟩
  obtain ⟨p, hp⟩ : ∃ p, V.heap.size + 1 = p := ⟨_, rfl⟩
  obtain ⟨B, hB⟩ : ∃ B, V.heap.size = B := ⟨_, rfl⟩
  have HS : Hid (Bk B w1 p 50 [] ∧ Below w.heap.size w w1 ∧ w.heap.size ≤ B) := by
    rw [← hB, ← hp]
    exact ⟨hbk, HV.out.trans (hb1.mono HV.out.size), HV.out.size⟩
  rw [hp]
  clear hbk hb1 hp hB
  have HG : Hid (∀ g, (decide (1 ≤ s.size) && decide (s.size ≤ 32)) = g → (g && (l.take 0).all fun c => inN c.toNat) = g) := fun g _ => by simp
  have HE0 : Hid (∀ j g, (decide (1 ≤ s.size) && decide (s.size ≤ 32) && (l.take j).all fun c => inN c.toNat) = g → g = false → nameOk l = false) := fun j g h e => by
    unfold nameOk
    rw [e] at h
    rw [HZ.out] at h
    rcases Bool.and_eq_false_iff.1 h with h1 | h1
    · rcases Bool.and_eq_false_iff.1 h1 with h2 | h2
      · have : l.length = 0 := by simpa using h2
        simp [this]
      · have : ¬ l.length ≤ 32 := by simpa using h2
        simp [this]
    · obtain ⟨c, hc, hcn⟩ := List.all_eq_false.1 h1
      have : l.all (fun c => inN c.toNat) = false := List.all_eq_false.2 ⟨c, List.mem_of_mem_take hc, hcn⟩
      simp [this]
  have HE1 : Hid (∀ j, (decide (1 ≤ s.size) && decide (s.size ≤ 32) && (l.take j).all fun c => inN c.toNat) = true → s.size ≤ j → nameOk l = true) := fun j h hj => by
    unfold nameOk
    rw [HZ.out] at h hj
    rw [List.take_of_length_le hj] at h
    simp only [Bool.and_eq_true, decide_eq_true_eq] at h ⊢
    exact ⟨⟨by omega, h.1.2⟩, h.2⟩
  have HN1 : Hid (∀ j c, (decide (1 ≤ s.size) && decide (s.size ≤ 32) && (l.take j).all fun c => inN c.toNat) = true → l[j]? = some c → ∀ b, inN c.toNat = b → (decide (1 ≤ s.size) && decide (s.size ≤ 32) && (l.take (j + 1)).all fun c => inN c.toNat) = b) := fun j c h hc b hb => by
    rw [List.take_add_one, hc, List.all_append]
    simp only [Bool.and_eq_true] at h
    simp [h.1.1, h.1.2, h.2, hb]
  obtain ⟨G0, hG0⟩ : ∃ G0, (decide (1 ≤ s.size) && decide (s.size ≤ 32)) = G0 := ⟨_, rfl⟩
  have HG0 : Hid ((decide (1 ≤ s.size) && decide (s.size ≤ 32)) = G0) := hG0
  rw [hG0] at HE0 HE1 HN1
  clear hG0
  go_upto_region 5 with fail
  go_cut [9] (fun v9 wx => v9 = .bool G0 ∧ wx = w1)
  case first =>
    by_cases q1 : 1 ≤ s.size
    · have z1 : decide ((s.size : Int) ≥ 1) = true := decide_eq_true (by omega)
      have z3 : decide ((1 : Int) ≤ (s.size : Int)) = true := decide_eq_true (by omega)
      have z4 : decide (1 ≤ s.size) = true := decide_eq_true q1
      by_cases q2 : s.size ≤ 32
      · have z2 : decide ((s.size : Int) ≤ 32) = true := decide_eq_true (by omega)
        have z5 : decide (s.size ≤ 32) = true := decide_eq_true q2
        obtain rfl : G0 = true := by rw [← HG0.out, z4, z5]; rfl
        go_wp2_with fail
        go_meet
        exact ⟨rfl, rfl⟩
      · have z2 : decide ((s.size : Int) ≤ 32) = false := decide_eq_false (by omega)
        have z5 : decide (s.size ≤ 32) = false := decide_eq_false q2
        obtain rfl : G0 = false := by rw [← HG0.out, z4, z5]; rfl
        go_wp2_with fail
        go_meet
        exact ⟨rfl, rfl⟩
    · have z1 : decide ((s.size : Int) ≥ 1) = false := decide_eq_false (by omega)
      have z3 : decide ((1 : Int) ≤ (s.size : Int)) = false := decide_eq_false (by omega)
      have z4 : decide (1 ≤ s.size) = false := decide_eq_false q1
      obtain rfl : G0 = false := by rw [← HG0.out, z4]; rfl
      go_wp2_with fail
      go_meet
      exact ⟨rfl, rfl⟩
  case rest =>
    obtain ⟨rfl, hwc⟩ := hcut
    obtain rfl := hwc.symm
    clear hwc HG0 HG
    go_upto_block 0 with fail
    go_cut [9] (fun v9 wx => v9 = .bool (nameOk l) ∧ wx = w1)
    case first =>
      go_wp2_with fail
      go_loopw [9, 10] (fun v9 v10 w' => ∃ (j : Nat) (g : Bool), v10 = .int .i64 (j : Int) ∧ v9 = .bool g ∧ j ≤ s.size ∧ Hid ((G0 && (l.take j).all fun c => inN c.toNat) = g) ∧ w' = w1) (fun _ v10 _ => s.size - (RowKit.intOf v10).toNat)
      case atStart => exact ⟨0, G0, rfl, rfl, Nat.zero_le _, by show _ = _; simp, rfl⟩
      case round =>
        obtain ⟨j, g, rfl, rfl, hj, HJ, hww⟩ := hrel
        obtain rfl := hww.symm
        clear hww
        by_cases hlt : j < s.size
        · have z6 : decide ((j : Int) < (s.size : Int)) = true := decide_eq_true (by omega)
          have z6' : decide (j < s.size) = true := decide_eq_true hlt
          cases g with
          | false =>
            have hok := HE0.out j false HJ.out rfl
            go_wp2_with fail
            go_meet
            exact ⟨by rw [hok], rfl⟩
          | true =>
            obtain ⟨c, hc⟩ : ∃ c, l[j]? = some c := ⟨_, List.getElem?_eq_getElem (by have := HZ.out; omega)⟩
            have hx := HX.out w1 j c hc
            have HNx := HN1.out j c HJ.out hc
            have y1 : IntKind.i64.wrap ((j : Int) + 1) = ((j + 1 : Nat) : Int) := by rw [IntWalk.i64_in _ (by have := HLen.out; have := HZ.out; omega)]; omega
            have HNn : Hid (∀ b, inN c.toNat = b → (G0 && (l.take (j + 1)).all fun c => inN c.toNat) = b) := HNx
            clear hc HNx
            generalize c.toNat = n at *
            by_cases h1 : (97 : Int) ≤ (n : Int) <;> by_cases h2 : (n : Int) ≤ 122 <;> by_cases h3 : (48 : Int) ≤ (n : Int) <;> by_cases h4 : (n : Int) ≤ 57 <;> by_cases h5 : (n : Int) = 46 <;> by_cases h6 : (n : Int) = 45 <;> by_cases h7 : (n : Int) = 95 <;> first
              | (exfalso; omega)
              | ((first | have a1 : decide ((n : Int) ≥ 97) = true := decide_eq_true h1 | have a1 : decide ((n : Int) ≥ 97) = false := decide_eq_false h1)
                 (first | have a2 : decide ((n : Int) ≤ 122) = true := decide_eq_true h2 | have a2 : decide ((n : Int) ≤ 122) = false := decide_eq_false h2)
                 (first | have a3 : decide ((n : Int) ≥ 48) = true := decide_eq_true h3 | have a3 : decide ((n : Int) ≥ 48) = false := decide_eq_false h3)
                 (first | have a4 : decide ((n : Int) ≤ 57) = true := decide_eq_true h4 | have a4 : decide ((n : Int) ≤ 57) = false := decide_eq_false h4)
                 (first | have a5 : ((n : Int) == 46) = true := beq_iff_eq.2 h5 | have a5 : ((n : Int) == 46) = false := beq_eq_false_iff_ne.2 h5)
                 (first | have a6 : ((n : Int) == 45) = true := beq_iff_eq.2 h6 | have a6 : ((n : Int) == 45) = false := beq_eq_false_iff_ne.2 h6)
                 (first | have a7 : ((n : Int) == 95) = true := beq_iff_eq.2 h7 | have a7 : ((n : Int) == 95) = false := beq_eq_false_iff_ne.2 h7)
                 go_wp2_with fail
                 refine ⟨⟨j + 1, _, rfl, rfl, by omega, HNn.out _ ?_, by simp⟩, by simp [RowKit.intOf]; omega⟩
                 first
                   | ((unfold inN; simp only [Bool.or_eq_true, Bool.and_eq_true, decide_eq_true_eq]; omega))
                   | ((unfold inN; simp only [Bool.or_eq_false_iff, Bool.and_eq_false_iff, decide_eq_false_iff_not]; omega)))
        · have hje : j = s.size := by omega
          subst hje
          have z6 : decide ((s.size : Int) < (s.size : Int)) = false := decide_eq_false (by omega)
          have z6' : decide (s.size < s.size) = false := decide_eq_false (by omega)
          cases g with
          | false =>
            have hok := HE0.out _ false HJ.out rfl
            go_wp2_with fail
            go_meet
            exact ⟨by rw [hok], rfl⟩
          | true =>
            have hok := HE1.out _ HJ.out (Nat.le_refl _)
            go_wp2_with fail
            go_meet
            exact ⟨by rw [hok], rfl⟩
    case rest =>
      obtain ⟨rfl, hwc⟩ := hcut
      obtain rfl := hwc.symm
      clear hwc HX HE0 HE1 HN1
      obtain ⟨ok, hok⟩ : ∃ ok, nameOk l = ok := ⟨_, rfl⟩
      have HOk : Hid (nameOk l = ok) := hok
      rw [hok]
      clear hok
      obtain ⟨FT, hFT⟩ : ∃ FT, decide (0 ≤ lo ∧ lo < hi ∧ hi ≤ 50) = FT := ⟨_, rfl⟩
      have HFT : Hid (decide (0 ≤ lo ∧ lo < hi ∧ hi ≤ 50) = FT) := hFT
      clear hFT
      go_upto_region 11 with fail
      go_cut [12] (fun v12 wx => v12 = .bool FT ∧ wx = w1)
      case first =>
        by_cases f1 : 0 ≤ lo
        · have a1 : decide (lo ≥ 0) = true := decide_eq_true f1
          have a2 : decide (0 ≤ lo) = true := decide_eq_true f1
          by_cases f2 : lo < hi
          · have a3 : decide (lo < hi) = true := decide_eq_true f2
            by_cases f3 : hi ≤ 50
            · have a4 : decide (hi ≤ 50) = true := decide_eq_true f3
              obtain rfl : FT = true := by rw [← HFT.out]; exact decide_eq_true ⟨f1, f2, f3⟩
              go_wp2_with fail
              go_meet
              exact ⟨rfl, rfl⟩
            · have a4 : decide (hi ≤ 50) = false := decide_eq_false f3
              obtain rfl : FT = false := by rw [← HFT.out]; exact decide_eq_false (fun h => f3 h.2.2)
              go_wp2_with fail
              go_meet
              exact ⟨rfl, rfl⟩
          · have a3 : decide (lo < hi) = false := decide_eq_false f2
            obtain rfl : FT = false := by rw [← HFT.out]; exact decide_eq_false (fun h => f2 h.2.1)
            go_wp2_with fail
            go_meet
            exact ⟨rfl, rfl⟩
        · have a1 : decide (lo ≥ 0) = false := decide_eq_false f1
          have a2 : decide (0 ≤ lo) = false := decide_eq_false f1
          obtain rfl : FT = false := by rw [← HFT.out]; exact decide_eq_false (fun h => f1 h.1)
          go_wp2_with fail
          go_meet
          exact ⟨rfl, rfl⟩
      case rest =>
        obtain ⟨rfl, hwc⟩ := hcut
        obtain rfl := hwc.symm
        clear hwc
        obtain ⟨f, g, d, L1, L2', E, P1, P2, P3⟩ := title_puts l HLen.out lo hi B p
        have HC : Hid ((ok = false → f = 200 ∧ g = 200 ∧ d = 60) ∧ (ok = true → FT = false → f = 12 ∧ g = 0 ∧ d = 0) ∧ (ok = true → FT = true → f = 0 ∧ g = 201 ∧ d = 0)) := by
          have h := E
          rw [HOk.out, HFT.out] at h
          exact h
        rw [HStr.out] at P1 P2 P3
        have HP1 := hid_of P1
        have HP2' := hid_of P2
        have HP3 := hid_of P3
        clear E P1 P2 P3 HFT HOk
        go_wp2_with fail
        refine (HP1.out w1 HS.out.1).mono ?_
        rintro e w2 ⟨rfl, hbk, hbb⟩
        have HS2 : Hid (Bk B w2 p 50 L1 ∧ Below w.heap.size w w2) := ⟨hbk, HS.out.2.1.trans (hbb.mono HS.out.2.2)⟩
        clear hbk hbb
        go_wp2_with fail
        refine (HP2'.out w2 HS2.out.1).mono ?_
        rintro e w3 ⟨rfl, hbk, hbb⟩
        have HS3 : Hid (Bk B w3 p 50 L2' ∧ Below w.heap.size w w3) := ⟨hbk, HS2.out.2.trans (hbb.mono HS.out.2.2)⟩
        clear hbk hbb
        go_wp2_with fail
        refine (HP3.out w3 HS3.out.1).mono ?_
        rintro e w4 ⟨rfl, hbk, hbb⟩
        have HS4 : Hid (Bk B w4 p 50 [] ∧ Below w.heap.size w w4) := ⟨hbk, HS3.out.2.trans (hbb.mono HS.out.2.2)⟩
        clear hbk hbb
        clear HP1 HP2' HP3
        go_upto_block 2 with fail
        go_cut [12] (fun v12 wx => v12 = .bool FT ∧ wx = w4)
        case first =>
          obtain ⟨c1, c2, c3⟩ := HC.out
          cases ok with
          | false =>
            obtain ⟨rfl, rfl, rfl⟩ := c1 rfl
            clear c2 c3 HC
            go_wp2_with fail
            go_meet
            exact ⟨rfl, rfl⟩
          | true =>
            cases FT with
            | false =>
              obtain ⟨rfl, rfl, rfl⟩ := c2 rfl rfl
              clear c1 c3 HC
              go_wp2_with fail
              go_meet
              exact ⟨rfl, rfl⟩
            | true =>
              obtain ⟨rfl, rfl, rfl⟩ := c3 rfl rfl
              clear c1 c2 HC
              go_wp2_with fail
              go_meet
              exact ⟨rfl, rfl⟩
        case rest =>
          obtain ⟨rfl, hwc⟩ := hcut
          obtain rfl := hwc.symm
          clear hwc HC
          have HS5 : Hid (Bk B w4 p 50 [] ∧ Below w.heap.size w w4 ∧ w.heap.size ≤ B) := ⟨HS4.out.1, HS4.out.2, HS.out.2.2⟩
          rename_i K9 hK9
          refine hK9 _ _ ?_
          exact marksTitles_tail HS5
end Go.Proofs.Ytelcjhflopgojaa
