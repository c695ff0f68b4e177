import Derived.Test.YtggdocnnbgcniaaDoorRqH
namespace Go.Proofs.YtggdocnnbgcniaaDoor
open Go.RowKit Go.Lib
set_option maxRecDepth 100000

theorem Tr.Fine.lv_two {l r : Tr} {st : Int} (h : (Tr.node l r st).Fine) : 2 ≤ (Tr.node l r st).lv.length := by
  have hs := h.sides
  obtain ⟨⟨p, k, e1, _⟩, _⟩ := hs.fl.wf.ends
  obtain ⟨⟨q, m, f1, _⟩, _⟩ := hs.fr.wf.ends
  rw [hs.lv, List.length_append, e1, f1]
  simp only [List.length_cons]
  omega
/-- A tree of one piece is that piece. -/
theorem Tr.Can.one {t : Tr} (h : t.Can) {p : List Int × Int} (e : t.lv = [p]) : ∃ st, t = .leaf p.1 p.2 st := by
  cases t with
  | nil => simp [Tr.lv] at e
  | leaf rs hid st => simp [Tr.lv] at e; subst e; exact ⟨st, rfl⟩
  | node l r st =>
    have := (h.resolve_left (by simp)).lv_two
    rw [e] at this
    simp at this
set_option maxHeartbeats 2000000 in
/-- 'concat' where two pieces become one. -/
theorem concat_fit {w : World} {a b : Tr} {ga gb : Nat} (ha : At w a ga) (hb : At w b gb) (fa : a.Fine) (fb : b.Fine) (pa : Pcs a.lv) (pb : Pcs b.lv) {A0 B0 : List (List Int × Int)} {p q : List Int × Int} (ea : a.lv = A0 ++ [p]) (eb : b.lv = q :: B0) (hfit : Fit p q) (hn : a.row.length + b.row.length ≤ 1048576) :
    Calls Tryd.prog 54 #[.pointer (some ⟨ga, 0, none⟩), .pointer (some ⟨gb, 0, none⟩)] w fun e w' => ∃ g t, e = .returned (.pointer (some ⟨g, 0, none⟩)) ∧ At w' t g ∧ t.lv = A0 ++ (p.1 ++ q.1, p.2) :: B0 ∧ t.Can ∧ Below w.heap.size w w' := by
  have lta := ha.lt
  have ltb := hb.lt
  obtain ⟨elc, elh, efc, efh⟩ := fit_sm fa fb ea eb
  have c0 := ha.cells
  have d0 := hb.cells
  have za := fa.cells_ne
  have zb := fb.cells_ne
  obtain ⟨_, _, c8, c9⟩ := ha.cell8
  obtain ⟨d6, d7, _, _⟩ := hb.cell8
  have ba := fa.smBd (by omega)
  have bb := fb.smBd (by omega)
  have HF : ∀ W, Calls Tryd.prog 69 #[.agg #[.int .i64 a.sm.lc, .int .i64 a.sm.lh], .agg #[.int .i64 b.sm.fc, .int .i64 b.sm.fh]] W fun e w' => e = .returned (.bool true) ∧ Below W.heap.size W w' := fun W => fits_yes _ _ _ _ (by rw [elh, efh]; exact hfit.1) (by rw [elc, efc]; have := hfit.2; omega) ba.lc bb.fc W
  have hra : a.row.length = (rowOf A0).length + p.1.length := by rw [Tr.row_len, ea, rowOf_append, List.length_append]; simp [rowOf]
  have hrb : b.row.length = q.1.length + (rowOf B0).length := by rw [Tr.row_len, eb, rowOf_cons, List.length_append, List.length_map]
  have hsa := a.sm_cells
  have hd : a.sm.cells - a.sm.lc = ((rowOf A0).length : Int) := by omega
  have hfc : b.sm.fc = ((rowOf [q]).length : Int) := by rw [efc]; simp [rowOf]
  have hp0 : p.1 ≠ [] := pa.some_ p (by rw [ea]; simp)
  have hq0 : q.1 ≠ [] := pb.some_ q (by rw [eb]; simp)
  have hf2 := hfit.2
  have u0 : IntKind.i64.wrap (a.sm.cells - a.sm.lc) = a.sm.cells - a.sm.lc := IntWalk.i64_in _ (by have := ba.cells; have := ba.lc; omega)
  have HS1 : Hid (∀ W, Below w.heap.size w W → Calls Tryd.prog 53 #[.pointer (some ⟨ga, 0, none⟩), .int .i64 (a.sm.cells - a.sm.lc)] W fun e w' => ∃ g1 g2 x y, e = .returned (.tuple #[.pointer (some ⟨g1, 0, none⟩), .pointer (some ⟨g2, 0, none⟩)]) ∧ At w' x g1 ∧ At w' y g2 ∧ SB A0 [p] x y ∧ Below W.heap.size W w') := fun W hW => split_bdry a.sm.high.toNat (by have := fa.pos; omega) (ha.below hW) fa pa (by omega) ea _ hd
  have HS2 : Hid (∀ W, Below w.heap.size w W → Calls Tryd.prog 53 #[.pointer (some ⟨gb, 0, none⟩), .int .i64 b.sm.fc] W fun e w' => ∃ g1 g2 x y, e = .returned (.tuple #[.pointer (some ⟨g1, 0, none⟩), .pointer (some ⟨g2, 0, none⟩)]) ∧ At w' x g1 ∧ At w' y g2 ∧ SB [q] B0 x y ∧ Below W.heap.size W w') := fun W hW => split_bdry b.sm.high.toNat (by have := fb.pos; omega) (hb.below hW) fb pb (by omega) (by rw [eb]; rfl) _ hfc
  have hlim : Lim p.2 := fa.bd.row ((p.1.head hp0), p.2) (by
    rw [Tr.row_lv, ea, rowOf_append]
    refine List.mem_append_right _ ?_
    simp only [rowOf, List.flatMap_cons, List.flatMap_nil, List.append_nil, List.mem_map]
    exact ⟨_, List.head_mem hp0, rfl⟩)
  have hr1 : (rowOf A0).length ≤ 1048576 := by omega
  have hr2 : (rowOf A0).length + (rowOf B0).length ≤ 1048576 := by omega
  have hcb := ba.cells
  have hlcb := ba.lc
  clear ba bb elc elh efc efh hsa hd hfc hra hrb hb fa fb pa pb ha ea eb
  generalize a.sm = sa at *
  generalize b.sm = sb at *
  have hcur : Below w.heap.size w w := Below.refl _ _
  go_enter Tryd.func54, Tryd.ntmps54
  go_wp2_with fail
  go_region_held3 (fun W => W.cell? ⟨ga, 0, none⟩ = some (.int .i64 sa.cells) ∧ W.cell? ⟨ga, 8, none⟩ = some (.int .i64 sa.lc) ∧ W.cell? ⟨ga, 9, none⟩ = some (.int .i64 sa.lh) ∧ W.cell? ⟨gb, 0, none⟩ = some (.int .i64 sb.cells) ∧ W.cell? ⟨gb, 6, none⟩ = some (.int .i64 sb.fc) ∧ W.cell? ⟨gb, 7, none⟩ = some (.int .i64 sb.fh)) (first | exact ⟨c0, c8, c9, d0, d6, d7⟩ | exact ⟨e0, e8, e9, f0, f6, f7⟩)
    (first
      | (go_at_call 69; refine (HF _).mono ?_; rintro e w1 ⟨rfl, hb1⟩; have hcur : Below w.heap.size w w1 := (by first | exact hcur.trans (hb1.mono hcur.size) | exact hcur.drew.trans (hb1.mono hcur.size)); have e0 := (hcur.cell (p := ⟨ga, 0, none⟩) lta).trans c0; have e8 := (hcur.cell (p := ⟨ga, 8, none⟩) lta).trans c8; have e9 := (hcur.cell (p := ⟨ga, 9, none⟩) lta).trans c9; have f0 := (hcur.cell (p := ⟨gb, 0, none⟩) ltb).trans d0; have f6 := (hcur.cell (p := ⟨gb, 6, none⟩) ltb).trans d6; have f7 := (hcur.cell (p := ⟨gb, 7, none⟩) ltb).trans d7))
  all_goals
    clear c0 c8 c9 d0 d6 d7 HF
    go_wp2_with fail
    go_region_held3 (fun W => W.cell? ⟨ga, 0, none⟩ = some (.int .i64 sa.cells) ∧ W.cell? ⟨ga, 8, none⟩ = some (.int .i64 sa.lc)) (first | exact ⟨e0, e8⟩ | exact ⟨k0, k8⟩)
      (first
        | (go_at_call 53; refine (HS1.out _ ?_).mono ?_; (first | exact hcur | exact hcur.drew); rintro e w2 ⟨g1, g2, x, y, rfl, hx, hy, hsb, hb2⟩; have hcur : Below w.heap.size w w2 := (by first | exact hcur.trans (hb2.mono hcur.size) | exact hcur.drew.trans (hb2.mono hcur.size)); have hcurw : Below w.heap.size w w1 := (by assumption); have k0 := (hb2.cell (p := ⟨ga, 0, none⟩) (by have := hcurw.size; show ga < w1.heap.size; omega)).trans e0; have k8 := (hb2.cell (p := ⟨ga, 8, none⟩) (by have := hcurw.size; show ga < w1.heap.size; omega)).trans e8))
    all_goals
      have m6 : w2.cell? ⟨gb, 6, none⟩ = some (.int .i64 sb.fc) := (hb2.cell (p := ⟨gb, 6, none⟩) (by have := hcurw.size; show gb < w1.heap.size; omega)).trans f6
      clear e0 e8 e9 f0 f6 f7 k0 k8
      go_wp2_with fail
      refine (HS2.out _ hcur).mono ?_
      rintro e w3 ⟨g3, g4, x', y', rfl, hx', hy', hsb', hb3⟩
      have hB3 := hcur.trans (hb3.mono hcur.size)
      obtain ⟨s1, rfl⟩ := hsb.cb.one hsb.lb
      obtain ⟨s2, rfl⟩ := hsb'.ca.one hsb'.la
      have hx3 := hx.below hb3
      have hy3 := hy.below hb3
      have hq2 : q.2 = p.2 := hfit.1.symm
      rw [hq2] at hx'
      go_wp2_with fail
      refine (merged_any hy3 hx' hp0 hq0 (by omega) (by omega)).mono ?_
      rintro e w4 ⟨g5, rfl, hM, hb4⟩
      have hB4 := hB3.trans (hb4.mono hB3.size)
      have fM : (Tr.leaf (p.1 ++ q.1) p.2 0).Fine := ⟨by show p.1 ++ q.1 ≠ []; simp [hp0], ⟨hlim, by rw [Int.sub_zero]; exact hlim⟩, trivial⟩
      have hxl : x.row.length = (rowOf A0).length := by rw [Tr.row_len, hsb.la]
      have hyl : y'.row.length = (rowOf B0).length := by rw [Tr.row_len, hsb'.lb]
      have hml : (Tr.leaf (p.1 ++ q.1) p.2 0).row.length = p.1.length + q.1.length := by simp [Tr.row]
      go_wp2_with fail
      refine (join_any (hx3.below hb4) hM hsb.ca (.inr fM) (by omega)).mono ?_
      rintro e w5 ⟨g6, t6, rfl, hA6, hj6, hb5⟩
      have hB5 := hB4.trans (hb5.mono hB4.size)
      have h6l : t6.row.length = x.row.length + (Tr.leaf (p.1 ++ q.1) p.2 0).row.length := by rw [Tr.row_len, Tr.row_len x, Tr.row_len (Tr.leaf _ _ _), hj6.lv, rowOf_append, List.length_append]
      go_wp2_with fail
      refine (join_any hA6 (hy'.below (hb4.trans (hb5.mono hb4.size))) hj6.can hsb'.cb (by omega)).mono ?_
      rintro e w6 ⟨g7, t7, rfl, hA7, hj7, hb6⟩
      go_wp2_with fail
      go_ret
      refine ⟨g7, t7, rfl, hA7, ?_, hj7.can, hB5.trans (hb6.mono hB5.size)⟩
      rw [hj7.lv, hj6.lv, hsb.la, hsb'.lb]
      simp [Tr.lv]
/-- 'concat'. -/
theorem concat_any {w : World} {a b : Tr} {ga gb : Nat} (ha : At w a ga) (hb : At w b gb) (fa : a.Can) (fb : b.Can) (pa : Pcs a.lv) (pb : Pcs b.lv) (hn : a.row.length + b.row.length ≤ 1048576) :
    Calls Tryd.prog 54 #[.pointer (some ⟨ga, 0, none⟩), .pointer (some ⟨gb, 0, none⟩)] w fun e w' => ∃ g t, e = .returned (.pointer (some ⟨g, 0, none⟩)) ∧ At w' t g ∧ t.lv = glue a.lv b.lv ∧ t.Can ∧ Below w.heap.size w w' := by
  by_cases hm : Meet a.lv b.lv
  · refine (concat_meet ha hb fa fb hm (by omega)).mono ?_
    rintro e w' ⟨g, t, rfl, hA, hj, hB⟩
    exact ⟨g, t, rfl, hA, by rw [glue_meet hm]; exact hj.lv, hj.can, hB⟩
  · have hx : ∃ p q, a.lv.getLast? = some p ∧ b.lv.head? = some q ∧ Fit p q := by
      refine Classical.byContradiction fun h => hm fun p q hp hq hf => h ⟨p, q, hp, hq, hf⟩
    obtain ⟨p, q, hp, hq, hf⟩ := hx
    obtain ⟨A0, ea⟩ := List.getLast?_eq_some_iff.1 hp
    obtain ⟨B0, eb⟩ : ∃ B0, b.lv = q :: B0 := by
      cases hbl : b.lv with
      | nil => rw [hbl] at hq; cases hq
      | cons x t => rw [hbl] at hq; simp at hq; subst hq; exact ⟨t, rfl⟩
    have fa' : a.Fine := fa.resolve_left (by rintro rfl; simp [Tr.lv] at ea)
    have fb' : b.Fine := fb.resolve_left (by rintro rfl; simp [Tr.lv] at eb)
    refine (concat_fit ha hb fa' fb' pa pb ea eb hf hn).mono ?_
    rintro e w' ⟨g, t, rfl, hA, hl, hc, hB⟩
    exact ⟨g, t, rfl, hA, by rw [ea, eb, glue_fit A0 p q B0 hf]; exact hl, hc, hB⟩
end Go.Proofs.YtggdocnnbgcniaaDoor
