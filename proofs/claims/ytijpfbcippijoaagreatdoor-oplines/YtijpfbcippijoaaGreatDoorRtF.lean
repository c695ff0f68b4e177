import Derived.Test.YtijpfbcippijoaaGreatDoorRtCG
namespace Go.Proofs.YtijpfbcippijoaaGreatDoor
open Go.RowKit Go.Lib
set_option maxRecDepth 100000
theorem sides_q {w : World} {n : Tr} {g : Nat} (h : At w n g) (hf : n.Fine) (h2 : 2 ≤ n.sm.high) (hn : n.row.length ≤ 2097152) :
    Calls Tryz.prog 92 #[.pointer (some ⟨g, 0, none⟩)] w fun e w' => ∃ gl gr l r, e = .returned (.tuple #[.pointer (some ⟨gl, 0, none⟩), .pointer (some ⟨gr, 0, none⟩)]) ∧ At w' l gl ∧ At w' r gr ∧ (SidesOf n l r ∧ n.sm = l.sm.both r.sm) ∧ Below w.heap.size w w' := by
  obtain ⟨l, r, st, rfl⟩ := hf.node_of h2
  refine (sides_any h hf.wf hf.bd hn).mono ?_
  rintro e w' ⟨gl, gr, rfl, hl, hr, hb⟩
  exact ⟨gl, gr, _, _, rfl, hl, hr, ⟨hf.sides, Tr.sm_node hf.wf.1 hf.wf.2 st⟩, hb⟩
theorem raised_zero (s : Sm) : s.raised 0 = s := by simp [Sm.raised]
theorem again {n l r l' r' : Tr} (hs : SidesOf n l r) (hsm : n.sm = l.sm.both r.sm) (hP : Pcs n.lv) (fl : l'.Fine) (fr : r'.Fine) (el : l'.sm = l.sm) (er : r'.sm = r.sm) (pl : Pcs l'.lv) (pr : Pcs r'.lv) :
    (Tr.node l' r' 0).Fine ∧ (Tr.node l' r' 0).sm = n.sm ∧ Pcs (Tr.node l' r' 0).lv ∧ (Tr.node l' r' 0).row = l'.row ++ r'.row := by
  refine ⟨fl.pair fr (by rw [el, er]; exact hs.h1) (by rw [el, er]; exact hs.h2), ?_, ?_, Tr.row_pair l' r'⟩
  · show (l'.sm.both r'.sm).raised 0 = _
    rw [raised_zero, el, er, hsm]
  · rw [Tr.lv_pair]
    refine pl.append pr fun p q hp hq hf => ?_
    rw [hs.lv] at hP
    obtain ⟨_, ⟨p0, k0, e1, e2, e3⟩⟩ := hs.fl.wf.ends
    obtain ⟨⟨q0, m0, f1, f2, f3⟩, _⟩ := hs.fr.wf.ends
    obtain ⟨_, ⟨p1, k1, g1, g2, g3⟩⟩ := fl.wf.ends
    obtain ⟨⟨q1, m1, i1, i2, i3⟩, _⟩ := fr.wf.ends
    rw [g1, List.getLast?_append] at hp
    rw [i1] at hq
    simp only [List.getLast?_singleton, Option.some_or, Option.some.injEq, List.head?_cons] at hp hq
    subst hp hq
    refine hP.meet p0 q0 (by rw [e1, List.getLast?_append]; simp) (by rw [f1]; rfl) ?_
    rw [el] at g2 g3
    rw [er] at i2 i3
    unfold Fit at hf ⊢
    omega
theorem bout_row {t l0 r0 l1 r1 : Tr} {f : Nat} {l L : List (Int × Int)} {d : Int} (hr : t.row = l0.row ++ r0.row) (hin : ∀ q, (f : Int) ≤ q → q < (f : Int) + t.sm.cells → inL L q = inL l q) (bl : Bout l0 f L d l1) (br : Bout r0 (f + l0.row.length) L d r1) : l1.row ++ r1.row = bmp l d f t.row := by
  have hsc := t.sm_cells
  rw [bl.row, br.row, Int.natCast_add, ← bmp_append, ← hr]
  exact bmp_congr _ _ fun q q1 q2 => hin q q1 (by omega)
theorem bout_concat {t l0 r0 l1 r1 t' : Tr} {f : Nat} {l L : List (Int × Int)} {d : Int} (hr : t.row = l0.row ++ r0.row) (hin : ∀ q, (f : Int) ≤ q → q < (f : Int) + t.sm.cells → inL L q = inL l q) (bl : Bout l0 f L d l1) (br : Bout r0 (f + l0.row.length) L d r1) (hlv : t'.lv = glue l1.lv r1.lv) (hc : t'.Can) : Bout t f l d t' := by
  have e := bout_row hr hin bl br
  have er : t'.row = l1.row ++ r1.row := by rw [Tr.row_lv, hlv, rowOf_glue, Tr.row_lv l1, Tr.row_lv r1]
  refine ⟨hc.resolve_left ?_, hlv ▸ bl.pcs.glue br.pcs, er.trans e⟩
  rintro rfl
  have := bl.fine.wf.pos
  have h2 := congrArg List.length er
  rw [List.length_append] at h2
  simp only [Tr.row, List.length_nil] at h2
  omega
theorem Bout.len {t t' : Tr} {f : Nat} {l : List (Int × Int)} {d : Int} (h : Bout t f l d t') : t'.row.length = t.row.length := by rw [h.row, bmp_len]
set_option maxHeartbeats 8000000 in
theorem bumped_fine (d : Int) (hd : -1 ≤ d ∧ d ≤ 1) : ∀ (N : Nat) {w : World} {t : Tr} {g f : Nat} {a : Option Addr} {m cap : Nat} {l : List (Int × Int)}, t.sm.high ≤ (N : Int) → At w t g → Bin t f l → Rw pieceV 2 w a m cap l → m ≤ 4294967296 → ∀ fi : Int, fi = (f : Int) →
    Calls Tryz.prog 60 #[.pointer (some ⟨g, 0, none⟩), .int .i64 fi, .slice a m cap, .int .i64 d] w fun e w' => ∃ g' t', e = .returned (.pointer (some ⟨g', 0, none⟩)) ∧ At w' t' g' ∧ Bout t f l d t' ∧ Below w.heap.size w w' := by
  intro N
  induction N with
  | zero =>
    intro w t g f a m cap l hN hA hi
    have := hi.fine.pos
    omega
  | succ N ih =>
    intro w t g f a m cap l hN hA hi hl hm fi hfi
    subst hfi
    have IH : Hid (∀ {w : World} {t : Tr} {g f : Nat} {a : Option Addr} {m cap : Nat} {l : List (Int × Int)}, t.sm.high ≤ (N : Int) → At w t g → Bin t f l → Rw pieceV 2 w a m cap l → m ≤ 4294967296 → ∀ fi : Int, fi = (f : Int) → Calls Tryz.prog 60 #[.pointer (some ⟨g, 0, none⟩), .int .i64 fi, .slice a m cap, .int .i64 d] w fun e w' => ∃ g' t', e = .returned (.pointer (some ⟨g', 0, none⟩)) ∧ At w' t' g' ∧ Bout t f l d t' ∧ Below w.heap.size w w') := ih
    clear ih
    cases hn : meetL f ((f : Int) + t.sm.cells) l with
    | nil => exact bumped_none hA hi hl hm d hn
    | cons x k =>
    by_cases hw : x.1 ≤ f ∧ (f : Int) + t.sm.cells ≤ x.2
    · exact bumped_whole hA hi hl hm d hd hn hw.1 hw.2
    by_cases hh : t.sm.high ≤ 1
    · cases t with
      | nil => exact hi.fine.wf.elim
      | leaf rs h st => exact bumped_leaf hA hi hl hm d hd hn hw
      | node l r st => have := hi.fine.wf.high_node; omega
    have hsc := t.sm_cells
    have hlen := hi.len
    obtain ⟨c0, c1, c2, c3, c4, c5, c6, c7, c8, c9⟩ := hA.ten
    have hgl := hA.lt
    have HIP := smIsPiece_any t.sm
    rw [show decide (t.sm.high ≤ 1) = false by simp; omega] at HIP
    have u0 : IntKind.i64.wrap ((f : Int) + t.sm.cells) = (f : Int) + t.sm.cells := IntWalk.i64_in _ (by omega)
    have HM := meeting_list hl hm hi.srt (f : Int) ((f : Int) + t.sm.cells) (by omega)
    have hll := hl.len
    have hml := meetL_len (f : Int) ((f : Int) + t.sm.cells) l
    have hms := hi.srt.meet (f : Int) ((f : Int) + t.sm.cells)
    have hmb : ∀ y ∈ meetL (f : Int) ((f : Int) + t.sm.cells) l, 0 ≤ y.1 ∧ y.2 ≤ 1048576 := fun y hy => hi.bd y (meetL_mem hy).1
    have HIN : Hid (∀ q, (f : Int) ≤ q → q < (f : Int) + t.sm.cells → inL (x :: k) q = inL l q) := fun q q1 q2 => by rw [← hn]; exact inL_meet l q1 q2
    rw [hn] at HM hms hmb hml
    simp only [List.length_cons] at HM hml
    obtain ⟨K, hK⟩ : ∃ K, k.length = K := ⟨_, rfl⟩
    rw [hK] at HM hml
    have HC : (decide (x.1 ≤ (f : Int)) = true ∧ decide ((f : Int) + t.sm.cells ≤ x.2) = false) ∨ decide (x.1 ≤ (f : Int)) = false := by simp only [decide_eq_true_eq, decide_eq_false_iff_not]; omega
    have HIB : Hid (Bin t f l) := hi
    have HMS : Hid (Srt (x :: k)) := hms
    have HMB : Hid (∀ y ∈ x :: k, 0 ≤ y.1 ∧ y.2 ≤ 1048576) := hmb
    have HA : Hid (At w t g) := hA
    have HSC : Hid (t.sm.cells = (t.row.length : Int)) := hsc
    have hKm : K + 1 ≤ 4294967296 := by omega
    clear hw hi hl hn hms hmb hA hml hll hsc
    rcases HC with ⟨hx1, hx3⟩ | hx1
    all_goals
      go_enter Tryz.func60, Tryz.ntmps60
      go_wp2_with fail
      refine HM.mono ?_
      rintro e w1 ⟨a1, cap1, rfl, hr1, hb1⟩
      clear HM
      have HR1 : Hid (Rw pieceV 2 w1 a1 (K + 1) cap1 (x :: k)) := hr1
      obtain ⟨g1, o1, y, rfl, hg1, hy, hc1⟩ := hr1.at 0 (by omega)
      obtain rfl : x = y := by simpa using hy
      have k0 := hc1 0 _ rfl
      have k1 := hc1 1 _ rfl
      simp only [Nat.zero_mul, Nat.add_zero] at k0 k1
      have e0 := (hb1.cell (p := ⟨g, 0, none⟩) hgl).trans c0
      clear hc1 hr1 hy
      go_wp2_with fail
      go_quiet (fail)
      have hbr := below_drewN (Below.refl w1.heap.size w1) nq
      have hbq := hb1.trans (hbr.mono hb1.size)
      generalize w1.drewN nq = wq at *
      have z0 := (hbq.cell (p := ⟨g, 0, none⟩) hgl).trans c0
      have z1 := (hbq.cell (p := ⟨g, 1, none⟩) hgl).trans c1
      have z2 := (hbq.cell (p := ⟨g, 2, none⟩) hgl).trans c2
      have z3 := (hbq.cell (p := ⟨g, 3, none⟩) hgl).trans c3
      have z4 := (hbq.cell (p := ⟨g, 4, none⟩) hgl).trans c4
      have z5 := (hbq.cell (p := ⟨g, 5, none⟩) hgl).trans c5
      have z6 := (hbq.cell (p := ⟨g, 6, none⟩) hgl).trans c6
      have z7 := (hbq.cell (p := ⟨g, 7, none⟩) hgl).trans c7
      have z8 := (hbq.cell (p := ⟨g, 8, none⟩) hgl).trans c8
      have z9 := (hbq.cell (p := ⟨g, 9, none⟩) hgl).trans c9
      clear k0 k1 e0 c0 c1 c2 c3 c4 c5 c6 c7 c8 c9
      go_wp2_with fail
      refine (HIP _).mono ?_
      rintro e w2 ⟨rfl, hb2⟩
      have hB2 := hbq.trans (hb2.mono hbq.size)
      have hR2 := HR1.out.below (hbr.trans (hb2.mono hbr.size))
      clear z0 z1 z2 z3 z4 z5 z6 z7 z8 z9 HIP
      go_wp2_with fail
      refine (sides_q (HA.out.below hB2) HIB.out.fine (by omega) (by omega)).mono ?_
      rintro e w3 ⟨gl, gr, l0, r0, rfl, hL, hR, ⟨hS, hsm⟩, hb3⟩
      have HSM : Hid (t.sm = l0.sm.both r0.sm) := hsm
      clear hsm
      have hB3 := hB2.trans (hb3.mono hB2.size)
      have hsc := HSC.out
      have hlen2 := hS.len
      have hrow : t.row = l0.row ++ r0.row := by rw [Tr.row_lv, Tr.row_lv, Tr.row_lv, hS.lv, rowOf_append]
      have q0 := hS.high
      have hlc := l0.sm_cells
      have hPl : Pcs l0.lv ∧ Pcs r0.lv := by have := HIB.out.pcs; rw [hS.lv] at this; exact ⟨this.left, this.right⟩
      have hcl : ∀ c ∈ l0.row, 0 ≤ c.2 ∧ c.2 ≤ 1048576 := fun c hc => HIB.out.cnt c (by rw [hrow]; exact List.mem_append_left _ hc)
      have hcr : ∀ c ∈ r0.row, 0 ≤ c.2 ∧ c.2 ≤ 1048576 := fun c hc => HIB.out.cnt c (by rw [hrow]; exact List.mem_append_right _ hc)
      have BL : Bin l0 f (x :: k) := ⟨hS.fl, hPl.1, hcl, by omega, HMS.out, HMB.out⟩
      have BR : Bin r0 (f + l0.row.length) (x :: k) := ⟨hS.fr, hPl.2, hcr, by omega, HMS.out, HMB.out⟩
      have hR3 := hR2.below hb3
      go_wp2_with fail
      refine (IH.out (by omega) hL BL hR3 hKm _ rfl).mono ?_
      rintro e w4 ⟨gl', l1, rfl, hL4, hBL, hb4⟩
      have hB4 := hB3.trans (hb4.mono hB3.size)
      have d0 := (hL.below hb4).cells
      have u1 : IntKind.i64.wrap ((f : Int) + l0.sm.cells) = (f : Int) + l0.sm.cells := IntWalk.i64_in _ (by omega)
      have HSC : Hid (t.sm.cells = (t.row.length : Int)) := hsc
      have HLC : Hid (l0.sm.cells = (l0.row.length : Int)) := hlc
      have CR := IH.out (fi := (f : Int) + l0.sm.cells) (by omega) (hR.below hb4) BR (hR3.below hb4) hKm (by omega)
      clear hsc hlc hlen2
      go_wp2_with fail
      refine CR.mono ?_
      rintro e w5 ⟨gr', r1, rfl, hR5, hBR, hb5⟩
      clear CR
      have hB5 := hB4.trans (hb5.mono hB4.size)
      have hL5 := hL4.below hb5
      have hl5 := hL.below (hb4.trans (hb5.mono hb4.size))
      have hr5 := hR.below (hb4.trans (hb5.mono hb4.size))
      clear d0
      obtain ⟨bL, eL, rL⟩ := run_eqSm l1.sm l0.sm
      obtain ⟨bR, eR, rR⟩ := run_eqSm r1.sm r0.sm
      obtain ⟨p0, p1, p2, p3, p4, p5, p6, p7, p8, p9⟩ := hL5.ten
      obtain ⟨j0, j1, j2, j3, j4, j5, j6, j7, j8, j9⟩ := hl5.ten
      obtain ⟨y0, y1, y2, y3, y4, y5, y6, y7, y8, y9⟩ := hR5.ten
      obtain ⟨v0, v1, v2, v3, v4, v5, v6, v7, v8, v9⟩ := hr5.ten
      have HF : Hid (t.row = l0.row ++ r0.row ∧ SidesOf t l0 r0 ∧ Bout l0 f (x :: k) d l1 ∧ Bout r0 (f + l0.row.length) (x :: k) d r1 ∧ (bL = true ↔ l1.sm = l0.sm) ∧ (bR = true ↔ r1.sm = r0.sm)) := ⟨hrow, hS, hBL, hBR, eL, eR⟩
      clear hrow hS hBL hBR eL eR q0 hPl hcl hcr BL BR
      cases bL with
      | false =>
        go_wp2_with fail
        go_quiet (fail)
        have hbw := below_drewN (Below.refl w5.heap.size w5) nq
        generalize w5.drewN nq = w6 at *
        have hB6 := hB5.trans (hbw.mono hB5.size)
        have hL6 := hL5.below hbw
        have hR6 := hR5.below hbw
        obtain ⟨hrow, hS, hBL, hBR, _, _⟩ := HF.out
        have n1 := hBL.len
        have n2 := hBR.len
        have n3 := congrArg List.length hrow
        rw [List.length_append] at n3
        have HF2 := HF
        clear HF rL rR
        go_wp2_with fail
        refine (concat_any hL6 hR6 (.inr hBL.fine) (.inr hBR.fine) hBL.pcs hBR.pcs (by omega)).mono ?_
        rintro e w7 ⟨g7, t7, rfl, hA7, hl7, hc7, hb7⟩
        go_wp2_with fail
        go_ret
        exact ⟨g7, t7, rfl, hA7, bout_concat hrow HIN.out hBL hBR hl7 hc7, hB6.trans (hb7.mono hB6.size)⟩
      | true =>
        cases bR with
        | false =>
          go_wp2_with fail
          go_quiet (fail)
          have hbw := below_drewN (Below.refl w5.heap.size w5) nq
          generalize w5.drewN nq = w6 at *
          have hB6 := hB5.trans (hbw.mono hB5.size)
          have hL6 := hL5.below hbw
          have hR6 := hR5.below hbw
          obtain ⟨hrow, hS, hBL, hBR, _, _⟩ := HF.out
          have n1 := hBL.len
          have n2 := hBR.len
          have n3 := congrArg List.length hrow
          rw [List.length_append] at n3
          have HF2 := HF
          clear HF rL rR
          go_wp2_with fail
          refine (concat_any hL6 hR6 (.inr hBL.fine) (.inr hBR.fine) hBL.pcs hBR.pcs (by omega)).mono ?_
          rintro e w7 ⟨g7, t7, rfl, hA7, hl7, hc7, hb7⟩
          go_wp2_with fail
          go_ret
          exact ⟨g7, t7, rfl, hA7, bout_concat hrow HIN.out hBL hBR hl7 hc7, hB6.trans (hb7.mono hB6.size)⟩
        | true =>
          go_wp2_with fail
          go_quiet (fail)
          have hbw := below_drewN (Below.refl w5.heap.size w5) nq
          generalize w5.drewN nq = w6 at *
          have hB6 := hB5.trans (hbw.mono hB5.size)
          have hL6 := hL5.below hbw
          have hR6 := hR5.below hbw
          obtain ⟨hrow, hS, hBL, hBR, eL, eR⟩ := HF.out
          obtain ⟨z0, z1, z2, z3, z4, z5, z6, z7, z8, z9⟩ := (HA.out.below hB6).ten
          obtain ⟨a1, a2, a3, a4⟩ := again hS HSM.out HIB.out.pcs hBL.fine hBR.fine (eL.1 trivial) (eR.1 trivial) hBL.pcs hBR.pcs
          have HB : Hid (Bout t f l d (.node l1 r1 0)) := ⟨a1, a3, a4.trans (bout_row hrow HIN.out hBL hBR)⟩
          have HS2 : Hid ((Tr.node l1 r1 0).sm = t.sm) := a2
          clear rL rR HF hrow hS hBL hBR eL eR a1 a2 a3 a4
          go_wp2_with fail
          go_ret
          have hB7 : Below w6.heap.size w6 (w6.alloc (.cells (nodeCells t.sm (.slice none 0 0) (.pointer (some ⟨gl', 0, none⟩)) (.pointer (some ⟨gr', 0, none⟩)) 0) 96)) := (Below.refl _ _).alloc (Nat.le_refl _) _
          refine ⟨w6.heap.size, .node l1 r1 0, rfl, ⟨gl', gr', ?_, hL6.below hB7, hR6.below hB7⟩, HB.out, hB6.trans (hB7.mono hB6.size)⟩
          rw [HS2.out]
          exact heap_alloc_new _ _
end Go.Proofs.YtijpfbcippijoaaGreatDoor
