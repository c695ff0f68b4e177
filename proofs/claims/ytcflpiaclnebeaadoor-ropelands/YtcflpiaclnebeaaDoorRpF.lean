import Derived.Test.YtcflpiaclnebeaaDoorRpE
namespace Go.Proofs.YtcflpiaclnebeaaDoor
open Go.RowKit Go.Lib
set_option maxRecDepth 100000

theorem below_drw {B : Nat} {a w : World} (h : Below B a w) : Below B a w.drew := h.drew
/-- 'raised', of a tree whose numbers are within bounds. -/
theorem raised_any {w : World} {t : Tr} {g : Nat} (h : At w t g) (hw : t.Wf) (hb : t.Bd) (hn : t.row.length ≤ 2097152) (d : Int) (hd : -1048600 ≤ d ∧ d ≤ 1048600) :
    Calls Tryd.prog 73 #[ptr g, .int .i64 d] w fun e w' => ∃ g', e = .returned (ptr g') ∧ At w' (t.raise d) g' ∧ Below w.heap.size w w' := by
  refine nodeRaised_any h hw (Tr.smBd (.inr hw) hb hn) d hd fun a n cap pl pr st hst => ?_
  cases t with
  | nil => exact hw.elim
  | leaf rs hid st' =>
    obtain ⟨a', cap', h1, _⟩ := h
    obtain ⟨_, _, _, rfl⟩ := h1.unique hst
    exact hb.leafStill
  | node l r st' =>
    obtain ⟨gl, gr, h1, _⟩ := h
    obtain ⟨_, _, _, rfl⟩ := h1.unique hst
    exact hb.still hw
set_option maxHeartbeats 2000000 in
theorem sides_any {w : World} {l r : Tr} {st : Int} {g : Nat} (h : At w (.node l r st) g) (hw : (Tr.node l r st).Wf) (hb : (Tr.node l r st).Bd) (hn : (Tr.node l r st).row.length ≤ 2097152) :
    Calls Tryd.prog 63 #[ptr g] w fun e w' => ∃ gl gr, e = .returned (.tuple #[ptr gl, ptr gr]) ∧ At w' (l.raise st) gl ∧ At w' (r.raise st) gr ∧ Below w.heap.size w w' := by
  obtain ⟨gl, gr, hN, hl, hr⟩ := h
  have hlen : l.row.length ≤ 2097152 ∧ r.row.length ≤ 2097152 := by
    simp only [Tr.row, upL_length, List.length_append] at hn; omega
  have HL : Hid (∀ W, Below w.heap.size w W → Calls Tryd.prog 73 #[.pointer (some ⟨gl, 0, none⟩), .int .i64 st] W fun e w' => ∃ g', e = .returned (.pointer (some ⟨g', 0, none⟩)) ∧ At w' (l.raise st) g' ∧ Below W.heap.size W w') := fun W hW => raised_any (hl.below hW) hw.1 hb.1 hlen.1 st (hb.still hw)
  have HR : Hid (∀ W, Below w.heap.size w W → Calls Tryd.prog 73 #[.pointer (some ⟨gr, 0, none⟩), .int .i64 st] W fun e w' => ∃ g', e = .returned (.pointer (some ⟨g', 0, none⟩)) ∧ At w' (r.raise st) g' ∧ Below W.heap.size W w') := fun W hW => raised_any (hr.below hW) hw.2 hb.2.1 hlen.2 st (hb.still hw)
  obtain ⟨_, c11, c12, c13⟩ := hN.four
  have hgl := hN.lt
  clear hN hl hr hlen hn hb hw
  unfold ptr
  have hcur : Below w.heap.size w w := Below.refl _ _
  go_enter Tryd.func63, Tryd.ntmps63
  go_wp2_with fail
  go_region_held3 (fun W => W.cell? ⟨g, 11, none⟩ = some (.pointer (some ⟨gl, 0, none⟩)) ∧ W.cell? ⟨g, 12, none⟩ = some (.pointer (some ⟨gr, 0, none⟩)) ∧ W.cell? ⟨g, 13, none⟩ = some (.int .i64 st)) (first | exact ⟨c11, c12, c13⟩ | exact ⟨e11, e12, e13⟩)
    (first
      | (go_at_call_of 73 (Value.pointer (some ⟨gl, 0, none⟩)); refine (HL.out _ ?_).mono ?_; (first | exact hcur | exact hcur.drew | exact hcur.drew.drew); rintro e w1 ⟨gl1, rfl, hl1, hb1⟩; have hcur : Below w.heap.size w w1 := (by first | exact hcur.trans (hb1.mono hcur.size) | exact hcur.drew.trans (hb1.mono hcur.size)); have e11 := (hcur.cell (p := ⟨g, 11, none⟩) hgl).trans c11; have e12 := (hcur.cell (p := ⟨g, 12, none⟩) hgl).trans c12; have e13 := (hcur.cell (p := ⟨g, 13, none⟩) hgl).trans c13)
      | (go_at_call_of 73 (Value.pointer (some ⟨gr, 0, none⟩)); refine (HR.out _ ?_).mono ?_; (first | exact hcur | exact hcur.drew | exact hcur.drew.drew); rintro e w2 ⟨gr1, rfl, hr1, hb2⟩; have hl2 : At w2 (l.raise st) gl1 := hl1.below hb2; have hcur : Below w.heap.size w w2 := (by first | exact hcur.trans (hb2.mono hcur.size) | exact hcur.drew.trans (hb2.mono hcur.size)); have e11 := (hcur.cell (p := ⟨g, 11, none⟩) hgl).trans c11; have e12 := (hcur.cell (p := ⟨g, 12, none⟩) hgl).trans c12; have e13 := (hcur.cell (p := ⟨g, 13, none⟩) hgl).trans c13))
  all_goals
    go_wp2_with fail
    go_ret2
    exact ⟨gl1, gr1, rfl, hl2, hr1, hcur⟩
end Go.Proofs.YtcflpiaclnebeaaDoor
