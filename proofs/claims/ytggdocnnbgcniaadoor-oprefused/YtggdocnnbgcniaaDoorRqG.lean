import Derived.Test.YtggdocnnbgcniaaDoorRqF
namespace Go.Proofs.YtggdocnnbgcniaaDoor
open Go.RowKit Go.Lib
set_option maxRecDepth 100000

theorem fit_sm {a b : Tr} (fa : a.Fine) (fb : b.Fine) {A0 B0 : List (List Int × Int)} {p q : List Int × Int} (ea : a.lv = A0 ++ [p]) (eb : b.lv = q :: B0) : a.sm.lc = p.1.length ∧ a.sm.lh = p.2 ∧ b.sm.fc = q.1.length ∧ b.sm.fh = q.2 := by
  obtain ⟨_, ⟨p', k, e1, e2, e3⟩⟩ := fa.wf.ends
  obtain ⟨⟨q', m, f1, f2, f3⟩, _⟩ := fb.wf.ends
  rw [ea] at e1
  rw [eb] at f1
  have h1 := List.append_inj' e1 rfl
  simp at h1
  obtain ⟨_, rfl⟩ := h1
  simp at f1
  obtain ⟨rfl, _⟩ := f1
  exact ⟨e2, e3, f2, f3⟩
theorem At.cell8 {w : World} {t : Tr} {g : Nat} (h : At w t g) : w.cell? ⟨g, 6, none⟩ = some (.int .i64 t.sm.fc) ∧ w.cell? ⟨g, 7, none⟩ = some (.int .i64 t.sm.fh) ∧ w.cell? ⟨g, 8, none⟩ = some (.int .i64 t.sm.lc) ∧ w.cell? ⟨g, 9, none⟩ = some (.int .i64 t.sm.lh) := by
  obtain ⟨_, _, _, _, _, _, h6, h7, h8, h9⟩ := h.ten
  exact ⟨h6, h7, h8, h9⟩
set_option maxHeartbeats 2000000 in
/-- 'concat' where nothing fits. -/
theorem concat_meet {w : World} {a b : Tr} {ga gb : Nat} (ha : At w a ga) (hb : At w b gb) (fa : a.Can) (fb : b.Can) (hm : Meet a.lv b.lv) (hn : a.row.length + b.row.length ≤ 2097152) :
    Calls Tryd.prog 54 #[.pointer (some ⟨ga, 0, none⟩), .pointer (some ⟨gb, 0, none⟩)] w fun e w' => ∃ g t, e = .returned (.pointer (some ⟨g, 0, none⟩)) ∧ At w' t g ∧ JC a b t ∧ Below w.heap.size w w' := by
  have lta := ha.lt
  have ltb := hb.lt
  have HJ : Hid (∀ W, Below w.heap.size w W → Calls Tryd.prog 70 #[.pointer (some ⟨ga, 0, none⟩), .pointer (some ⟨gb, 0, none⟩)] W fun e w' => ∃ g t, e = .returned (.pointer (some ⟨g, 0, none⟩)) ∧ At w' t g ∧ JC a b t ∧ Below W.heap.size W w') := fun W hW => join_any (ha.below hW) (hb.below hW) fa fb hn
  have c0 := ha.cells
  have d0 := hb.cells
  have hb0 : Below w.heap.size w w := Below.refl _ _
  rcases fa with rfl | fa
  · have e0 : Tr.nil.sm.cells = 0 := rfl
    rw [e0] at c0
    clear d0 hm
    go_enter Tryd.func54, Tryd.ntmps54
    go_wp2_with fail
    go_quiet (fail)
    have hb1 := below_drewN hb0 nq
    generalize w.drewN nq = w1 at *
    go_wp2_with fail
    refine (HJ.out _ hb1).mono ?_
    rintro e w2 ⟨g2, t2, rfl, hA2, hj2, hb2⟩
    go_wp2_with fail
    go_ret
    exact ⟨g2, t2, rfl, hA2, hj2, hb1.trans (hb2.mono hb1.size)⟩
  · have za := fa.cells_ne
    rcases fb with rfl | fb
    · have e0 : Tr.nil.sm.cells = 0 := rfl
      rw [e0] at d0
      clear hm
      go_enter Tryd.func54, Tryd.ntmps54
      go_wp2_with fail
      go_quiet (fail)
      have hb1 := below_drewN hb0 nq
      generalize w.drewN nq = w1 at *
      go_wp2_with fail
      refine (HJ.out _ hb1).mono ?_
      rintro e w2 ⟨g2, t2, rfl, hA2, hj2, hb2⟩
      go_wp2_with fail
      go_ret
      exact ⟨g2, t2, rfl, hA2, hj2, hb1.trans (hb2.mono hb1.size)⟩
    · have zb := fb.cells_ne
      obtain ⟨_, _, c8, c9⟩ := ha.cell8
      obtain ⟨d6, d7, _, _⟩ := hb.cell8
      have ba := fa.smBd (by omega)
      have bb := fb.smBd (by omega)
      have HF : ∀ W, Calls Tryd.prog 69 #[.agg #[.int .i64 a.sm.lc, .int .i64 a.sm.lh], .agg #[.int .i64 b.sm.fc, .int .i64 b.sm.fh]] W fun e w' => e = .returned (.bool false) ∧ Below W.heap.size W w' := fun W => by
        obtain ⟨_, ⟨p, A0, ea, e2, e3⟩⟩ := fa.wf.ends
        obtain ⟨⟨q, B0, eb, f2, f3⟩, _⟩ := fb.wf.ends
        refine fits_no _ _ _ _ ?_ ba.lc bb.fc W
        rw [ea, eb] at hm
        have := hm p q (by simp) rfl
        rw [e2, e3, f2, f3]
        intro h
        exact this ⟨h.1, by omega⟩
      clear ba bb hm
      generalize a.sm = sa at *
      generalize b.sm = sb at *
      have hcur := hb0
      go_enter Tryd.func54, Tryd.ntmps54
      go_wp2_with fail
      go_region_held3 (fun W => W.cell? ⟨ga, 0, none⟩ = some (.int .i64 sa.cells) ∧ W.cell? ⟨ga, 8, none⟩ = some (.int .i64 sa.lc) ∧ W.cell? ⟨ga, 9, none⟩ = some (.int .i64 sa.lh) ∧ W.cell? ⟨gb, 0, none⟩ = some (.int .i64 sb.cells) ∧ W.cell? ⟨gb, 6, none⟩ = some (.int .i64 sb.fc) ∧ W.cell? ⟨gb, 7, none⟩ = some (.int .i64 sb.fh)) (first | exact ⟨c0, c8, c9, d0, d6, d7⟩ | exact ⟨e0, e8, e9, f0, f6, f7⟩)
        (first
          | (go_at_call 69; refine (HF _).mono ?_; rintro e w1 ⟨rfl, hb1⟩; have hcur : Below w.heap.size w w1 := (by first | exact hcur.trans (hb1.mono hcur.size) | exact hcur.drew.trans (hb1.mono hcur.size)); have e0 := (hcur.cell (p := ⟨ga, 0, none⟩) lta).trans c0; have e8 := (hcur.cell (p := ⟨ga, 8, none⟩) lta).trans c8; have e9 := (hcur.cell (p := ⟨ga, 9, none⟩) lta).trans c9; have f0 := (hcur.cell (p := ⟨gb, 0, none⟩) ltb).trans d0; have f6 := (hcur.cell (p := ⟨gb, 6, none⟩) ltb).trans d6; have f7 := (hcur.cell (p := ⟨gb, 7, none⟩) ltb).trans d7))
      all_goals
        go_wp2_with fail
        refine (HJ.out _ hcur).mono ?_
        rintro e w2 ⟨g2, t2, rfl, hA2, hj2, hb2⟩
        go_wp2_with fail
        go_ret
        exact ⟨g2, t2, rfl, hA2, hj2, hcur.trans (hb2.mono hcur.size)⟩
end Go.Proofs.YtggdocnnbgcniaaDoor
