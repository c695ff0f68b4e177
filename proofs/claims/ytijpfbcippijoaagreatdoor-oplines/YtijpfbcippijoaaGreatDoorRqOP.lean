import Derived.Test.YtijpfbcippijoaaGreatDoorRqMN
import Derived.Sort.QuietIn
namespace Go.Proofs.YtijpfbcippijoaaGreatDoor
open Go.RowKit Go.Lib Go.Shelf
set_option maxRecDepth 100000
attribute [local go_sem] Oper.semAt_some
set_option maxHeartbeats 1000000 in
theorem give_out (l n : Nat) (J Jx : List Pc → World → Prop) (hJ : ∀ s A B, J s A → Below A.heap.size A B → J s B) {t : Tr} {g : Nat} {W : World} (pre : List Pc) (f lo hi : Int) (hA : At W t g) (hf : t.Can) (hf0 : 0 ≤ f) (hfn : f + t.row.length ≤ 2097152) (hj : J pre W) (hle : min hi (f + t.sm.cells) ≤ max lo f) :
    CallsIn Fence.wide n Tryz.prog 69 #[.pointer (some ⟨g, 0, none⟩), .int .i64 f, .int .i64 lo, .int .i64 hi, .func (.yield l) #[] #[]] W fun e W' => (e = .returned (.bool true) ∧ ∃ ys : List Pc, ys.map Pc.dat = gv t.lv f lo hi ∧ J (pre ++ ys) W' ∧ KpT W W') ∨ (e = .returned (.bool false) ∧ ∃ ys : List Pc, ys.map Pc.dat <+: gv t.lv f lo hi ∧ Jx (pre ++ ys) W') := by
  have hsc := t.sm_cells
  have hbd := hf.smBd (by omega)
  have hcb := hbd.cells
  have hmx := max_run
  have hmn := min_run
  have u0 : IntKind.i64.wrap (f + t.sm.cells) = f + t.sm.cells := IntWalk.i64_in _ (by omega)
  obtain ⟨c0, c1, c2, c3, c4, c5, c6, c7, c8, c9⟩ := hA.ten
  have hg0 : gv t.lv f lo hi = [] := gv_none t.lv f lo hi (by rw [hsc, Tr.row_len] at hle; exact hle)
  rw [hg0]
  clear hsc hg0
  refine callsIn_of_wp Tryz.func69 rfl trivial ?_ rfl
  simp only [Tryz.ntmps69, List.size_toArray, List.length_cons, List.length_nil, Nat.reduceAdd, Nat.reduceSub, Array.replicate_succ, Array.replicate_zero, List.push_toArray, List.append_toArray, List.nil_append, List.cons_append]
  gi_wp2
  gi_quiet_th (fail)
  have hb1 := below_drewN (Below.refl W.heap.size W) nq
  generalize W.drewN nq = W1 at *
  gi_wp2
  go_ret
  exact .inl ⟨rfl, [], rfl, by simpa using hJ _ _ _ hj hb1, KpT.below hb1⟩
set_option maxHeartbeats 4000000 in
theorem give_in (l : Nat) (J Jx : List Pc → World → Prop) (Q : List Pc → Prop) (hJ : ∀ s A B, J s A → Below A.heap.size A B → J s B)
    (hY : ∀ m pre x W1, J pre W1 → Pc.V x W1 → Q (pre ++ [x]) → YieldAt Fence.wide m Tryz.prog l (Pc.encs x) W1 fun e W' => (e = .returned (.bool true) ∧ J (pre ++ [x]) W' ∧ KpT W1 W') ∨ (e = .returned (.bool false) ∧ Jx (pre ++ [x]) W')) :
    ∀ (N n : Nat) {t : Tr} {g : Nat} {W : World} (pre : List Pc) (f lo hi : Int), t.sm.high ≤ (N : Int) → At W t g → t.Can → Pcs t.lv → Okl t.lv → 0 ≤ f → f + t.row.length ≤ 2097152 → J pre W → (∀ ys : List Pc, ys.map Pc.dat <+: gv t.lv f lo hi → Q (pre ++ ys)) →
      CallsIn Fence.wide n Tryz.prog 69 #[.pointer (some ⟨g, 0, none⟩), .int .i64 f, .int .i64 lo, .int .i64 hi, .func (.yield l) #[] #[]] W fun e W' => (e = .returned (.bool true) ∧ ∃ ys : List Pc, ys.map Pc.dat = gv t.lv f lo hi ∧ J (pre ++ ys) W' ∧ KpT W W') ∨ (e = .returned (.bool false) ∧ ∃ ys : List Pc, ys.map Pc.dat <+: gv t.lv f lo hi ∧ Jx (pre ++ ys) W') := by
  intro N
  induction N with
  | zero =>
    intro n t g W pre f lo hi hN hA hf hP hO hf0 hfn hj hQ
    rcases hf with rfl | hf
    · exact give_out l n J Jx hJ pre f lo hi hA (.inl rfl) hf0 hfn hj (by have e0 : Tr.nil.sm.cells = 0 := rfl; rw [e0]; omega)
    · have := hf.pos; omega
  | succ N ih =>
    intro n t g W pre f lo hi hN hA hf hP hO hf0 hfn hj hQ
    by_cases hle : min hi (f + t.sm.cells) ≤ max lo f
    · exact give_out l n J Jx hJ pre f lo hi hA hf hf0 hfn hj hle
    have hfi : t.Fine := hf.resolve_left (by rintro rfl; have e0 : Tr.nil.sm.cells = 0 := rfl; rw [e0] at hle; omega)
    have HIH : Hid (∀ (n : Nat) {t : Tr} {g : Nat} {W : World} (pre : List Pc) (f lo hi : Int), t.sm.high ≤ (N : Int) → At W t g → t.Can → Pcs t.lv → Okl t.lv → 0 ≤ f → f + t.row.length ≤ 2097152 → J pre W → (∀ ys : List Pc, ys.map Pc.dat <+: gv t.lv f lo hi → Q (pre ++ ys)) → CallsIn Fence.wide n Tryz.prog 69 #[.pointer (some ⟨g, 0, none⟩), .int .i64 f, .int .i64 lo, .int .i64 hi, .func (.yield l) #[] #[]] W fun e W' => (e = .returned (.bool true) ∧ ∃ ys : List Pc, ys.map Pc.dat = gv t.lv f lo hi ∧ J (pre ++ ys) W' ∧ KpT W W') ∨ (e = .returned (.bool false) ∧ ∃ ys : List Pc, ys.map Pc.dat <+: gv t.lv f lo hi ∧ Jx (pre ++ ys) W')) := ih
    have HJ : Hid (∀ s A B, J s A → Below A.heap.size A B → J s B) := hJ
    have HY : Hid (∀ m pre x W1, J pre W1 → Pc.V x W1 → Q (pre ++ [x]) → YieldAt Fence.wide m Tryz.prog l (Pc.encs x) W1 fun e W' => (e = .returned (.bool true) ∧ J (pre ++ [x]) W' ∧ KpT W1 W') ∨ (e = .returned (.bool false) ∧ Jx (pre ++ [x]) W')) := hY
    clear ih hJ hY
    have hsc := t.sm_cells
    have hbd := hf.smBd (by omega)
    have hcb := hbd.cells
    have hmx := max_run
    have hmn := min_run
    have u0 : IntKind.i64.wrap (f + t.sm.cells) = f + t.sm.cells := IntWalk.i64_in _ (by omega)
    obtain ⟨c0, c1, c2, c3, c4, c5, c6, c7, c8, c9⟩ := hA.ten
    have hgl := hA.lt
    have hlo' : max lo f < min hi (f + t.sm.cells) := by omega
    have hlow : f ≤ max lo f := by omega
    have hhiw : min hi (f + t.sm.cells) ≤ f + t.sm.cells := by omega
    cases t with
    | nil => exact hfi.wf.elim
    | leaf rs hid st =>
      have HIP := smIsPiece_any (Tr.leaf rs hid st).sm
      rw [Tr.sm_high_leaf] at HIP
      have hcr : (Tr.leaf rs hid st).sm.cells = (rs.length : Int) := rfl
      have hOk : ∀ r ∈ rs, okR r := fun r hr => hO (rs, hid) (by simp [Tr.lv]) r hr
      have h32 : rs.length ≤ 32 := hP.few (rs, hid) (by simp [Tr.lv])
      have HG : Hid (gv (Tr.leaf rs hid st).lv f lo hi = [(max lo f, (rs.take (min hi (f + rs.length) - f).toNat).drop (max lo f - f).toNat, hid)]) := by
        show _ = _
        simp only [Tr.lv, gv, one, List.append_nil]
        rw [hcr] at hlo'
        rw [if_pos hlo']
      have HPT : Hid (∀ W', Below W.heap.size W W' → Calls Tryz.prog 91 #[.pointer (some ⟨g, 0, none⟩), .int .i64 (max lo f - f), .int .i64 (min hi (f + (Tr.leaf rs hid st).sm.cells) - f)] W' fun e W2 => ∃ g' t', e = .returned (.pointer (some ⟨g', 0, none⟩)) ∧ At W2 t' g' ∧ PartOf rs hid (max lo f - f).toNat (min hi (f + rs.length) - f).toNat t' ∧ Below W'.heap.size W' W2) := fun W' hW' => by
        have h := part_any (hA.below hW') hfi (max lo f - f).toNat (min hi (f + rs.length) - f).toNat (by rw [hcr] at hlo'; omega) (by omega) (by omega)
        rw [Int.toNat_of_nonneg (by omega), Int.toNat_of_nonneg (by rw [hcr] at hlo'; omega)] at h
        rw [hcr]
        exact h
      have hab : (max lo f - f).toNat < (min hi (f + rs.length) - f).toNat := by rw [hcr] at hlo'; omega
      have hbr : (min hi (f + rs.length) - f).toNat ≤ rs.length := by omega
      clear hcr hsc
      generalize hlf : Tr.leaf rs hid st = lf at *
      generalize hLO : max lo f = lo' at *
      have HLF : Hid (Tr.leaf rs hid st = lf) := hlf
      have HLO : Hid (max lo f = lo') := hLO
      clear hlf hLO
      generalize hHI : min hi (f + lf.sm.cells) = hi' at *
      have HHI : Hid (min hi (f + lf.sm.cells) = hi') := hHI
      clear hHI
      refine callsIn_of_wp Tryz.func69 rfl trivial ?_ rfl
      simp only [Tryz.ntmps69, List.size_toArray, List.length_cons, List.length_nil, Nat.reduceAdd, Nat.reduceSub, Array.replicate_succ, Array.replicate_zero, List.push_toArray, List.append_toArray, List.nil_append, List.cons_append]
      gi_wp2
      gi_quiet_th (fail)
      have hb1 := below_drewN (Below.refl W.heap.size W) nq
      rw [HLO.out, HHI.out]
      generalize W.drewN nq = W1 at *
      replace c0 := (hb1.cell (p := ⟨g, 0, none⟩) hgl).trans c0
      replace c1 := (hb1.cell (p := ⟨g, 1, none⟩) hgl).trans c1
      replace c2 := (hb1.cell (p := ⟨g, 2, none⟩) hgl).trans c2
      replace c3 := (hb1.cell (p := ⟨g, 3, none⟩) hgl).trans c3
      replace c4 := (hb1.cell (p := ⟨g, 4, none⟩) hgl).trans c4
      replace c5 := (hb1.cell (p := ⟨g, 5, none⟩) hgl).trans c5
      replace c6 := (hb1.cell (p := ⟨g, 6, none⟩) hgl).trans c6
      replace c7 := (hb1.cell (p := ⟨g, 7, none⟩) hgl).trans c7
      replace c8 := (hb1.cell (p := ⟨g, 8, none⟩) hgl).trans c8
      replace c9 := (hb1.cell (p := ⟨g, 9, none⟩) hgl).trans c9
      clear hmx hmn
      gi_wp2
      refine ⟨trivial, fun h => (by cases h), (callsIn_wide.2 (HIP _)).mono ?_⟩
      rintro e W2 ⟨rfl, hb2⟩
      have hB2 := hb1.trans (hb2.mono hb1.size)
      clear c0 c1 c2 c3 c4 c5 c6 c7 c8 c9
      gi_wp2
      refine ⟨trivial, fun h => (by cases h), (callsIn_wide.2 (HPT.out _ hB2)).mono ?_⟩
      rintro e W3 ⟨g3, t3, rfl, hA3, hp3, hb3⟩
      have hB3 := hB2.trans (hb3.mono hB2.size)
      have hlv3 : t3.lv = [((rs.take (min hi (f + rs.length) - f).toNat).drop (lo' - f).toNat, hid)] := by rw [hp3.lv]; unfold partL; rw [if_neg (by omega)]
      obtain ⟨st3, rfl⟩ := hp3.can.one hlv3
      have hfin := hp3.can.resolve_left (by simp)
      have hV3 : Pc.V ⟨lo', g3, (rs.take (min hi (f + rs.length) - f).toNat).drop (lo' - f).toNat, hid⟩ W3 := ⟨st3, hA3, hfin, by simp only [List.length_drop, List.length_take]; omega, fun r hr => hOk r (List.mem_of_mem_take (List.mem_of_mem_drop hr))⟩
      obtain ⟨fn, tmps, assign, body, hy, hR⟩ := HY.out (n - 1) pre ⟨lo', g3, (rs.take (min hi (f + rs.length) - f).toNat).drop (lo' - f).toNat, hid⟩ W3 (HJ.out _ _ _ hj hB3) hV3 (hQ [_] (by rw [HG.out]; exact List.prefix_refl _))
      have HG2 : Hid (([⟨lo', g3, (rs.take (min hi (f + rs.length) - f).toNat).drop (lo' - f).toNat, hid⟩] : List Pc).map Pc.dat = gv lf.lv f lo hi) := by
        show _ = _
        rw [HG.out]; rfl
      simp only [Pc.encs] at hy
      generalize (Pc.mk lo' g3 ((rs.take (min hi (f + rs.length) - f).toNat).drop (lo' - f).toNat) hid) = x at *
      clear hV3 hlv3 hA3 hfin hp3
      gi_wp2
      refine ⟨fun h => (by cases h), hR.mono ?_⟩
      rintro e W4 (⟨rfl, hJ4, hk4⟩ | ⟨rfl, hx4⟩)
      · gi_wp2
        go_ret
        exact .inl ⟨rfl, [x], HG2.out, hJ4, (KpT.below hB3).trans hk4⟩
      · gi_wp2
        go_ret
        exact .inr ⟨rfl, [x], by rw [HG2.out]; exact List.prefix_refl _, hx4⟩
    | node l0 r0 st =>
      have HIP := smIsPiece_any (Tr.node l0 r0 st).sm
      have hh2 := hfi.wf.high_node
      rw [show decide ((Tr.node l0 r0 st).sm.high ≤ 1) = false by simp; omega] at HIP
      have HSC : Hid ((Tr.node l0 r0 st).sm.cells = ((Tr.node l0 r0 st).row.length : Int)) := hsc
      clear hsc
      generalize Tr.node l0 r0 st = t at *
      generalize hLO : max lo f = lo' at *
      have HLO : Hid (max lo f = lo') := hLO
      clear hLO
      generalize hHI : min hi (f + t.sm.cells) = hi' at *
      have HHI : Hid (min hi (f + t.sm.cells) = hi') := hHI
      clear hHI
      refine callsIn_of_wp Tryz.func69 rfl trivial ?_ rfl
      simp only [Tryz.ntmps69, List.size_toArray, List.length_cons, List.length_nil, Nat.reduceAdd, Nat.reduceSub, Array.replicate_succ, Array.replicate_zero, List.push_toArray, List.append_toArray, List.nil_append, List.cons_append]
      gi_wp2
      gi_quiet_th (fail)
      have hb1 := below_drewN (Below.refl W.heap.size W) nq
      rw [HLO.out, HHI.out]
      generalize W.drewN nq = W1 at *
      replace c0 := (hb1.cell (p := ⟨g, 0, none⟩) hgl).trans c0
      replace c1 := (hb1.cell (p := ⟨g, 1, none⟩) hgl).trans c1
      replace c2 := (hb1.cell (p := ⟨g, 2, none⟩) hgl).trans c2
      replace c3 := (hb1.cell (p := ⟨g, 3, none⟩) hgl).trans c3
      replace c4 := (hb1.cell (p := ⟨g, 4, none⟩) hgl).trans c4
      replace c5 := (hb1.cell (p := ⟨g, 5, none⟩) hgl).trans c5
      replace c6 := (hb1.cell (p := ⟨g, 6, none⟩) hgl).trans c6
      replace c7 := (hb1.cell (p := ⟨g, 7, none⟩) hgl).trans c7
      replace c8 := (hb1.cell (p := ⟨g, 8, none⟩) hgl).trans c8
      replace c9 := (hb1.cell (p := ⟨g, 9, none⟩) hgl).trans c9
      clear hmx hmn
      gi_wp2
      refine ⟨trivial, fun h => (by cases h), (callsIn_wide.2 (HIP _)).mono ?_⟩
      rintro e W2 ⟨rfl, hb2⟩
      have hB2 := hb1.trans (hb2.mono hb1.size)
      clear c0 c1 c2 c3 c4 c5 c6 c7 c8 c9
      gi_wp2
      refine ⟨trivial, fun h => (by cases h), (callsIn_wide.2 (sides_p (hA.below hB2) hfi hh2 (by omega))).mono ?_⟩
      rintro e W3 ⟨gl, gr, tl, tr, rfl, hl, hr, hs, hb3⟩
      have hB3 := hB2.trans (hb3.mono hB2.size)
      have hlen := hs.len
      have q0 := hs.high
      have hPl : Pcs tl.lv := by rw [hs.lv] at hP; exact hP.left
      have hPr : Pcs tr.lv := by rw [hs.lv] at hP; exact hP.right
      have hOl : Okl tl.lv := by rw [hs.lv] at hO; exact hO.left
      have hOr : Okl tr.lv := by rw [hs.lv] at hO; exact hO.right
      have hlc := tl.sm_cells
      have hHsc := HSC.out
      have HL : Hid (gv tl.lv f lo' hi' = gv tl.lv f lo hi) := by
        show _ = _
        rw [← HLO.out, ← HHI.out]
        exact gv_clip tl.lv f lo hi f _ (by omega) (by rw [← Tr.row_len]; omega)
      have HR : Hid (gv tr.lv (f + tl.sm.cells) lo' hi' = gv tr.lv (f + tl.sm.cells) lo hi) := by
        show _ = _
        rw [← HLO.out, ← HHI.out]
        exact gv_clip tr.lv _ lo hi f _ (by omega) (by rw [← Tr.row_len]; omega)
      have HG : Hid (gv t.lv f lo hi = gv tl.lv f lo hi ++ gv tr.lv (f + tl.sm.cells) lo hi) := by
        show _ = _
        rw [hs.lv, gv_append, ← Tr.row_len, hlc]
      have HLC : Hid (tl.sm.cells = (tl.row.length : Int)) := hlc
      have hlb : 0 ≤ tl.sm.cells ∧ tl.sm.cells ≤ 2097152 := by omega
      have hfl2 : f + tl.sm.cells + (tr.row.length : Int) ≤ 2097152 := by omega
      have hflb : f + (tl.row.length : Int) ≤ 2097152 := by omega
      clear hlc hHsc
      gi_wp2
      refine ⟨trivial, fun h => (by cases h), (HIH.out (n - 1) pre f lo' hi' (by have := hs.fr.pos; omega) hl (.inr hs.fl) hPl hOl hf0 hflb (HJ.out _ _ _ hj hB3) (fun ys hys => hQ ys (by rw [HG.out]; rw [HL.out] at hys; exact hys.trans (List.prefix_append _ _)))).mono ?_⟩
      rintro e W4 (⟨rfl, ys, hy4, hJ4, hk4⟩ | ⟨rfl, ys, hy4, hx4⟩)
      · have hl4 := hl.kpT hk4
        have hr4 := hr.kpT hk4
        have d0 := hl4.cells
        gi_wp2
        refine ⟨trivial, fun h => (by cases h), (HIH.out (n - 1) (pre ++ ys) (f + tl.sm.cells) lo' hi' (by have := hs.fl.pos; omega) hr4 (.inr hs.fr) hPr hOr (by omega) hfl2 hJ4 (fun zs hzs => by rw [List.append_assoc]; exact hQ (ys ++ zs) (by rw [List.map_append, hy4, HG.out, HL.out]; rw [HR.out] at hzs; exact (List.prefix_append_right_inj _).2 hzs))).mono ?_⟩
        rintro e W5 (⟨rfl, zs, hy5, hJ5, hk5⟩ | ⟨rfl, zs, hy5, hx5⟩)
        · gi_wp2
          go_ret
          exact .inl ⟨rfl, ys ++ zs, by rw [List.map_append, hy4, hy5, HL.out, HR.out, HG.out], by rw [← List.append_assoc]; exact hJ5, (KpT.below hB3).trans (hk4.trans hk5)⟩
        · gi_wp2
          go_ret
          exact .inr ⟨rfl, ys ++ zs, by rw [List.map_append, hy4, HG.out, HL.out]; rw [HR.out] at hy5; exact (List.prefix_append_right_inj _).2 hy5, by rw [← List.append_assoc]; exact hx5⟩
      · gi_wp2
        refine ⟨trivial, ?_⟩
        gi_wp2
        go_ret
        exact .inr ⟨rfl, ys, by rw [HG.out]; rw [HL.out] at hy4; exact hy4.trans (List.prefix_append _ _), hx4⟩
end Go.Proofs.YtijpfbcippijoaaGreatDoor

namespace Go.Proofs.YtijpfbcippijoaaGreatDoor
open Go.RowKit Go.Lib Go.Shelf
set_option maxRecDepth 100000
attribute [local go_sem] Oper.semAt_some
set_option maxHeartbeats 1000000 in
theorem pieces1_seq (n : Nat) {w : World} {t : Tr} {g b1 b2 b3 : Nat} {lo hi : Int} (hA : At w t g) (hf : t.Can) (hP : Pcs t.lv) (hO : Okl t.lv) (hn : t.row.length ≤ 2097152)
    (k1 : w.cell? ⟨b1, 0, none⟩ = some (.pointer (some ⟨g, 0, none⟩))) (k2 : w.cell? ⟨b2, 0, none⟩ = some (.int .i64 lo)) (k3 : w.cell? ⟨b3, 0, none⟩ = some (.int .i64 hi)) (l1 : b1 < w.heap.size) (l2 : b2 < w.heap.size) (l3 : b3 < w.heap.size) :
    SeqV Fence.wide n Tryz.prog 68 #[.pointer (some ⟨b1, 0, none⟩), .pointer (some ⟨b2, 0, none⟩), .pointer (some ⟨b3, 0, none⟩)] Pc.encs KpT Pc.V (fun xs => xs.map Pc.dat = gv t.lv 0 lo hi) (fun xs => xs.map Pc.dat <+: gv t.lv 0 lo hi) w := by
  intro l J Jx W hb hJ hY h0
  replace k1 := (hb.cell (p := ⟨b1, 0, none⟩) l1).trans k1
  replace k2 := (hb.cell (p := ⟨b2, 0, none⟩) l2).trans k2
  replace k3 := (hb.cell (p := ⟨b3, 0, none⟩) l3).trans k3
  have hA' := hA.below hb
  obtain ⟨N, hN⟩ : ∃ N : Nat, t.sm.high ≤ (N : Int) := ⟨t.sm.high.toNat, by omega⟩
  have HG : Hid (∀ m, CallsIn Fence.wide m Tryz.prog 69 #[.pointer (some ⟨g, 0, none⟩), .int .i64 0, .int .i64 lo, .int .i64 hi, .func (.yield l) #[] #[]] W fun e W' => (e = .returned (.bool true) ∧ ∃ ys : List Pc, ys.map Pc.dat = gv t.lv 0 lo hi ∧ J ([] ++ ys) W' ∧ KpT W W') ∨ (e = .returned (.bool false) ∧ ∃ ys : List Pc, ys.map Pc.dat <+: gv t.lv 0 lo hi ∧ Jx ([] ++ ys) W')) := fun m =>
    give_in l J Jx (fun xs => xs.map Pc.dat <+: gv t.lv 0 lo hi) hJ hY N m [] 0 lo hi hN hA' hf hP hO (Int.le_refl _) (by omega) h0 (fun ys h => h)
  clear hA hA' hf hP hO hJ hY h0 hN hn hb
  refine callsIn_of_wp Tryz.func68 rfl trivial ?_ rfl
  simp only [Tryz.ntmps68, List.size_toArray, List.length_cons, List.length_nil, Nat.reduceAdd, Nat.reduceSub, Array.replicate_succ, Array.replicate_zero, List.push_toArray, List.append_toArray, List.nil_append, List.cons_append]
  gi_wp2
  refine ⟨trivial, fun h => (by cases h), (HG.out _).mono ?_⟩
  rintro e W4 (⟨rfl, ys, hy4, hJ4, hk4⟩ | ⟨rfl, ys, hy4, hx4⟩)
  · gi_wp2
    go_end0
    exact ⟨⟨_, rfl⟩, .inl ⟨ys, hy4, hJ4⟩⟩
  · gi_wp2
    go_end0
    exact ⟨⟨_, rfl⟩, .inr ⟨ys, hy4, hx4⟩⟩
theorem cell_new (w : World) (v : Value) (T : TypeId) : (w.alloc (.cells #[v] T)).cell? ⟨w.heap.size, 0, none⟩ = some v := by
  have h := World.alloc_heap_new w (.cells #[v] T)
  generalize w.alloc (.cells #[v] T) = w' at *
  simp only [World.cell?, h]
  rfl
theorem cell_old (w : World) (o : Obj) (p : Addr) (h : p.block < w.heap.size) : (w.alloc o).cell? p = w.cell? p := ((Below.refl _ w).alloc (Nat.le_refl _) o).cell h
theorem cell_at (w : World) (v : Value) (T : TypeId) (b : Nat) (e : b = w.heap.size) : (w.alloc (.cells #[v] T)).cell? ⟨b, 0, none⟩ = some v := by subst e; exact cell_new w v T
set_option maxHeartbeats 1000000 in
theorem pieces_any {w : World} {q : Nat} {t : Tr} (h : RopeAt w q t) (hR : t.Rp) (hO : Okl t.lv) (lo hi : Int) :
    Calls Tryz.prog 29 #[.pointer (some ⟨q, 0, none⟩), .int .i64 lo, .int .i64 hi] w fun e w' => ∃ lb, e = .returned (.func (.func 68) #[] lb) ∧ Below w.heap.size w w' ∧
      ∀ n, SeqV Fence.wide n Tryz.prog 68 lb Pc.encs KpT Pc.V (fun xs => xs.map Pc.dat = gv t.lv 0 lo hi) (fun xs => xs.map Pc.dat <+: gv t.lv 0 lo hi) w' := by
  obtain ⟨g, hc, hA⟩ := h.cell
  have hql := h.lt
  have hn := hR.len
  have HR : Hid t.Rp := hR
  have HA : Hid (At w t g) := hA
  have HO : Hid (Okl t.lv) := hO
  clear h hR hA hO
  go_enter Tryz.func29, Tryz.ntmps29
  go_wp2_with fail
  go_ret
  refine ⟨_, rfl, ?_, fun n => pieces1_seq n (g := g) (HA.out.below ?_) HR.out.can HR.out.pcs HO.out (by omega) ?_ ?_ ?_ ?_ ?_ ?_⟩
  · exact (((Below.refl _ w).alloc (Nat.le_refl _) _).alloc (by simp) _).alloc (by simp; omega) _
  · exact (((Below.refl _ w).alloc (Nat.le_refl _) _).alloc (by simp) _).alloc (by simp; omega) _
  · exact cell_at _ _ _ _ (by simp [World.size_alloc])
  · exact (cell_old _ _ _ (by simp [World.size_alloc]; omega)).trans ((cell_old _ _ _ (by simp [World.size_alloc])).trans (cell_new _ _ _))
  · exact (cell_old _ _ _ (by simp [World.size_alloc])).trans (cell_at _ _ _ _ (by simp [World.size_alloc]))
  · simp [World.size_alloc]
  · simp [World.size_alloc]; omega
  · simp [World.size_alloc]
end Go.Proofs.YtijpfbcippijoaaGreatDoor
