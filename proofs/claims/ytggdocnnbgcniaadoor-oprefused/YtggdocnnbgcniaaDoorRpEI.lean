import Derived.Test.YtggdocnnbgcniaaDoorRpD
import Derived.Test.YtggdocnnbgcniaaDoorRpPR
namespace Go.Proofs.YtggdocnnbgcniaaDoor
open Go.RowKit Go.Lib
set_option maxRecDepth 100000

/-- A pointer to a tree. -/
def ptr (g : Nat) : Value := .pointer (some ⟨g, 0, none⟩)
theorem nodeAt_raise {w w' : World} {t : Tr} (hw : t.Wf) {d : Int} {g g' : Nat} (h : At w t g) (hb : Below w.heap.size w w')
    (hn : ∀ (a : Option Addr) (n cap : Nat) (pl pr : Option Addr) (st : Int), NodeAt w g t.sm (.slice a n cap) (.pointer pl) (.pointer pr) st → NodeAt w' g' (t.sm.raised d) (.slice a n cap) (.pointer pl) (.pointer pr) (st + d)) : At w' (t.raise d) g' := by
  have hsm := Tr.sm_raise t hw d
  cases t with
  | nil => exact hw.elim
  | leaf rs hid st =>
    obtain ⟨a, cap, h1, h2⟩ := h
    have := hn _ _ _ _ _ _ h1
    rw [← hsm] at this
    exact ⟨a, cap, this, h2.below hb⟩
  | node l r st =>
    obtain ⟨gl, gr, h1, h2, h3⟩ := h
    have := hn _ _ _ _ _ _ h1
    rw [← hsm] at this
    exact ⟨gl, gr, this, h2.below hb, h3.below hb⟩
/-- A node whose sums and whose 'still' are written anew. -/
theorem setNode {w1 : World} {B : Nat} {s : Sm} {rs l r : Value} {st : Int} (h : NodeAt w1 B s rs l r st) (s2 : Sm) (st2 : Int) :
    NodeAt (((((((((((w1.setCell ⟨B, 0, none⟩ (.int .i64 s2.cells)).setCell ⟨B, 1, none⟩ (.int .i64 s2.pieces)).setCell ⟨B, 2, none⟩ (.int .i64 s2.high)).setCell ⟨B, 3, none⟩ (.int .i64 s2.least)).setCell ⟨B, 4, none⟩ (.int .i64 s2.most)).setCell ⟨B, 5, none⟩ (.int .i64 s2.lowest)).setCell ⟨B, 6, none⟩ (.int .i64 s2.fc)).setCell ⟨B, 7, none⟩ (.int .i64 s2.fh)).setCell ⟨B, 8, none⟩ (.int .i64 s2.lc)).setCell ⟨B, 9, none⟩ (.int .i64 s2.lh)).setCell ⟨B, 13, none⟩ (.int .i64 st2)) B s2 rs l r st2 := by
  obtain ⟨x0, x1, x2, x3, x4, x5, x6, x7, x8, x9⟩ := s2
  have h0 : NodeAt (w1.setCell ⟨B, 0, none⟩ (.int .i64 x0)) B ⟨x0, s.pieces, s.high, s.least, s.most, s.lowest, s.fc, s.fh, s.lc, s.lh⟩ rs l r st := (heap_setCell_same _ B 0 _ _ _ h).trans (by unfold nodeCells; simp)
  have h1 : NodeAt ((w1.setCell ⟨B, 0, none⟩ (.int .i64 x0)).setCell ⟨B, 1, none⟩ (.int .i64 x1)) B ⟨x0, x1, s.high, s.least, s.most, s.lowest, s.fc, s.fh, s.lc, s.lh⟩ rs l r st := (heap_setCell_same _ B 1 _ _ _ h0).trans (by unfold nodeCells; simp)
  have h2 : NodeAt (((w1.setCell ⟨B, 0, none⟩ (.int .i64 x0)).setCell ⟨B, 1, none⟩ (.int .i64 x1)).setCell ⟨B, 2, none⟩ (.int .i64 x2)) B ⟨x0, x1, x2, s.least, s.most, s.lowest, s.fc, s.fh, s.lc, s.lh⟩ rs l r st := (heap_setCell_same _ B 2 _ _ _ h1).trans (by unfold nodeCells; simp)
  have h3 : NodeAt ((((w1.setCell ⟨B, 0, none⟩ (.int .i64 x0)).setCell ⟨B, 1, none⟩ (.int .i64 x1)).setCell ⟨B, 2, none⟩ (.int .i64 x2)).setCell ⟨B, 3, none⟩ (.int .i64 x3)) B ⟨x0, x1, x2, x3, s.most, s.lowest, s.fc, s.fh, s.lc, s.lh⟩ rs l r st := (heap_setCell_same _ B 3 _ _ _ h2).trans (by unfold nodeCells; simp)
  have h4 : NodeAt (((((w1.setCell ⟨B, 0, none⟩ (.int .i64 x0)).setCell ⟨B, 1, none⟩ (.int .i64 x1)).setCell ⟨B, 2, none⟩ (.int .i64 x2)).setCell ⟨B, 3, none⟩ (.int .i64 x3)).setCell ⟨B, 4, none⟩ (.int .i64 x4)) B ⟨x0, x1, x2, x3, x4, s.lowest, s.fc, s.fh, s.lc, s.lh⟩ rs l r st := (heap_setCell_same _ B 4 _ _ _ h3).trans (by unfold nodeCells; simp)
  have h5 : NodeAt ((((((w1.setCell ⟨B, 0, none⟩ (.int .i64 x0)).setCell ⟨B, 1, none⟩ (.int .i64 x1)).setCell ⟨B, 2, none⟩ (.int .i64 x2)).setCell ⟨B, 3, none⟩ (.int .i64 x3)).setCell ⟨B, 4, none⟩ (.int .i64 x4)).setCell ⟨B, 5, none⟩ (.int .i64 x5)) B ⟨x0, x1, x2, x3, x4, x5, s.fc, s.fh, s.lc, s.lh⟩ rs l r st := (heap_setCell_same _ B 5 _ _ _ h4).trans (by unfold nodeCells; simp)
  have h6 : NodeAt (((((((w1.setCell ⟨B, 0, none⟩ (.int .i64 x0)).setCell ⟨B, 1, none⟩ (.int .i64 x1)).setCell ⟨B, 2, none⟩ (.int .i64 x2)).setCell ⟨B, 3, none⟩ (.int .i64 x3)).setCell ⟨B, 4, none⟩ (.int .i64 x4)).setCell ⟨B, 5, none⟩ (.int .i64 x5)).setCell ⟨B, 6, none⟩ (.int .i64 x6)) B ⟨x0, x1, x2, x3, x4, x5, x6, s.fh, s.lc, s.lh⟩ rs l r st := (heap_setCell_same _ B 6 _ _ _ h5).trans (by unfold nodeCells; simp)
  have h7 : NodeAt ((((((((w1.setCell ⟨B, 0, none⟩ (.int .i64 x0)).setCell ⟨B, 1, none⟩ (.int .i64 x1)).setCell ⟨B, 2, none⟩ (.int .i64 x2)).setCell ⟨B, 3, none⟩ (.int .i64 x3)).setCell ⟨B, 4, none⟩ (.int .i64 x4)).setCell ⟨B, 5, none⟩ (.int .i64 x5)).setCell ⟨B, 6, none⟩ (.int .i64 x6)).setCell ⟨B, 7, none⟩ (.int .i64 x7)) B ⟨x0, x1, x2, x3, x4, x5, x6, x7, s.lc, s.lh⟩ rs l r st := (heap_setCell_same _ B 7 _ _ _ h6).trans (by unfold nodeCells; simp)
  have h8 : NodeAt (((((((((w1.setCell ⟨B, 0, none⟩ (.int .i64 x0)).setCell ⟨B, 1, none⟩ (.int .i64 x1)).setCell ⟨B, 2, none⟩ (.int .i64 x2)).setCell ⟨B, 3, none⟩ (.int .i64 x3)).setCell ⟨B, 4, none⟩ (.int .i64 x4)).setCell ⟨B, 5, none⟩ (.int .i64 x5)).setCell ⟨B, 6, none⟩ (.int .i64 x6)).setCell ⟨B, 7, none⟩ (.int .i64 x7)).setCell ⟨B, 8, none⟩ (.int .i64 x8)) B ⟨x0, x1, x2, x3, x4, x5, x6, x7, x8, s.lh⟩ rs l r st := (heap_setCell_same _ B 8 _ _ _ h7).trans (by unfold nodeCells; simp)
  have h9 : NodeAt ((((((((((w1.setCell ⟨B, 0, none⟩ (.int .i64 x0)).setCell ⟨B, 1, none⟩ (.int .i64 x1)).setCell ⟨B, 2, none⟩ (.int .i64 x2)).setCell ⟨B, 3, none⟩ (.int .i64 x3)).setCell ⟨B, 4, none⟩ (.int .i64 x4)).setCell ⟨B, 5, none⟩ (.int .i64 x5)).setCell ⟨B, 6, none⟩ (.int .i64 x6)).setCell ⟨B, 7, none⟩ (.int .i64 x7)).setCell ⟨B, 8, none⟩ (.int .i64 x8)).setCell ⟨B, 9, none⟩ (.int .i64 x9)) B ⟨x0, x1, x2, x3, x4, x5, x6, x7, x8, x9⟩ rs l r st := (heap_setCell_same _ B 9 _ _ _ h8).trans (by unfold nodeCells; simp)
  exact (heap_setCell_same _ B 13 _ _ _ h9).trans (by unfold nodeCells; simp)
theorem NodeAt.unique {w : World} {g : Nat} {s : Sm} {rs l r : Value} {st : Int} {rs' l' r' : Value} {st' : Int} (h : NodeAt w g s rs l r st) (h' : NodeAt w g s rs' l' r' st') : rs' = rs ∧ l' = l ∧ r' = r ∧ st' = st := by
  unfold NodeAt at h h'
  rw [h] at h'
  simp [nodeCells] at h'
  exact ⟨h'.1.symm, h'.2.1.symm, h'.2.2.1.symm, h'.2.2.2.symm⟩
set_option maxHeartbeats 2000000 in
theorem nodeRaised_any {w : World} {t : Tr} {g : Nat} (h : At w t g) (hw : t.Wf) (hs : SmBd t.sm) (d : Int) (hd : -1048600 ≤ d ∧ d ≤ 1048600) (hst : ∀ (a : Option Addr) (n cap : Nat) (pl pr : Option Addr) (st : Int), NodeAt w g t.sm (.slice a n cap) (.pointer pl) (.pointer pr) st → -1048600 ≤ st ∧ st ≤ 1048600) :
    Calls Tryd.prog 67 #[ptr g, .int .i64 d] w fun e w' => ∃ g', e = .returned (ptr g') ∧ At w' (t.raise d) g' ∧ Below w.heap.size w w' := by
  unfold ptr
  by_cases h0 : d = 0
  · subst h0
    rw [Tr.raise_zero]
    go_enter Tryd.func67, Tryd.ntmps67
    go_wp2_with fail
    go_ret
    exact ⟨g, rfl, h, Below.refl _ _⟩
  · have hz : (d == 0) = false := by simpa using h0
    obtain ⟨an, nn, cn, pl, pr, st, hn⟩ := h.node
    have hst' := hst _ _ _ _ _ _ hn
    have hsh := hs
    obtain ⟨b0, b1, b2, b3, b4, b5, b6, b7, b8, b9⟩ := hsh
    have HR := smRaised_any t.sm d (by omega) (by omega) (by omega) (by omega) (by omega)
    obtain ⟨c0, c1, c2, c3, c4, c5, c6, c7, c8, c9⟩ := hn.ten
    obtain ⟨c10, c11, c12, c13⟩ := hn.four
    have hgl := hn.lt
    have HN : Hid (NodeAt w g t.sm (.slice an nn cn) (.pointer pl) (.pointer pr) st) := hn
    clear hn hst h0
    go_enter Tryd.func67, Tryd.ntmps67
    go_wp2_with fail
    refine (HR _).mono ?_
    rintro e w1 ⟨rfl, hb1⟩
    have hs1 := hb1.size
    have hB : w1.heap[w.heap.size]? = some (.cells (nodeCells t.sm (.slice an nn cn) (.pointer pl) (.pointer pr) st) 90) := (hb1.block _ (by simp)).trans (heap_alloc_new _ _)
    have hN1 : NodeAt w1 w.heap.size t.sm (.slice an nn cn) (.pointer pl) (.pointer pr) st := hB
    obtain ⟨d0, d1, d2, d3, d4, d5, d6, d7, d8, d9⟩ := hN1.ten
    obtain ⟨d10, d11, d12, d13⟩ := hN1.four
    have hfz : ∀ j, w1.frozen? ⟨w.heap.size, j, none⟩ = false := fun j => frozen_of_row w1 w.heap.size j _ _ hB
    have f0 := hfz 0
    have f1 := hfz 1
    have f2 := hfz 2
    have f3 := hfz 3
    have f4 := hfz 4
    have f5 := hfz 5
    have f6 := hfz 6
    have f7 := hfz 7
    have f8 := hfz 8
    have f9 := hfz 9
    have f13 := hfz 13
    have HB : Hid (w1.heap[w.heap.size]? = some (.cells (nodeCells t.sm (.slice an nn cn) (.pointer pl) (.pointer pr) st) 90)) := hB
    clear hN1 hB hfz c0 c1 c2 c3 c4 c5 c6 c7 c8 c9 c10 c11 c12 c13
    unfold Sm.vals Sm.raised
    go_wp2_with fail
    go_ret
    have hB0 : Below w.heap.size w w1 := ((Below.refl _ _).alloc (Nat.le_refl _) _).trans (hb1.mono (by simp))
    have hBf : Below w.heap.size w _ := (((((((((((hB0.setCell (p := ⟨w.heap.size, 0, none⟩) (Nat.le_refl _) (.int .i64 t.sm.cells)).setCell (p := ⟨w.heap.size, 1, none⟩) (Nat.le_refl _) (.int .i64 t.sm.pieces)).setCell (p := ⟨w.heap.size, 2, none⟩) (Nat.le_refl _) (.int .i64 t.sm.high)).setCell (p := ⟨w.heap.size, 3, none⟩) (Nat.le_refl _) (.int .i64 (t.sm.least + d))).setCell (p := ⟨w.heap.size, 4, none⟩) (Nat.le_refl _) (.int .i64 (t.sm.most + d))).setCell (p := ⟨w.heap.size, 5, none⟩) (Nat.le_refl _) (.int .i64 t.sm.lowest)).setCell (p := ⟨w.heap.size, 6, none⟩) (Nat.le_refl _) (.int .i64 t.sm.fc)).setCell (p := ⟨w.heap.size, 7, none⟩) (Nat.le_refl _) (.int .i64 (t.sm.fh + d))).setCell (p := ⟨w.heap.size, 8, none⟩) (Nat.le_refl _) (.int .i64 t.sm.lc)).setCell (p := ⟨w.heap.size, 9, none⟩) (Nat.le_refl _) (.int .i64 (t.sm.lh + d))).setCell (p := ⟨w.heap.size, 13, none⟩) (Nat.le_refl _) (.int .i64 (st + d)))
    refine ⟨w.heap.size, rfl, nodeAt_raise hw h hBf fun a' n' cap' pl' pr' st' hn' => ?_, hBf⟩
    obtain ⟨e1, e2, e3, rfl⟩ := HN.out.unique hn'
    rw [e1, e2, e3]
    exact setNode (s := t.sm) (l := .pointer pl) (r := .pointer pr) (st := st') HB.out (t.sm.raised d) (st' + d)
end Go.Proofs.YtggdocnnbgcniaaDoor

namespace Go.Proofs.YtggdocnnbgcniaaDoor
open Go.RowKit Go.Lib
set_option maxRecDepth 100000

theorem below_drw {B : Nat} {a w : World} (h : Below B a w) : Below B a w.drew := h.drew
/-- 'raised', of a tree whose numbers are within bounds. -/
theorem raised_any {w : World} {t : Tr} {g : Nat} (h : At w t g) (hw : t.Wf) (hb : t.Bd) (hn : t.row.length ≤ 2097152) (d : Int) (hd : -1048600 ≤ d ∧ d ≤ 1048600) :
    Calls Tryd.prog 67 #[ptr g, .int .i64 d] w fun e w' => ∃ g', e = .returned (ptr g') ∧ At w' (t.raise d) g' ∧ Below w.heap.size w w' := by
  refine nodeRaised_any h hw (Tr.smBd (.inr hw) hb hn) d hd fun a n cap pl pr st hst => ?_
  cases t with
  | nil => exact hw.elim
  | leaf rs hid st' =>
    obtain ⟨a', cap', h1, _⟩ := h
    obtain ⟨_, _, _, rfl⟩ := h1.unique hst
    exact hb.leafStill
  | node l r st' =>
    obtain ⟨gl, gr, h1, _⟩ := h
    obtain ⟨_, _, _, rfl⟩ := h1.unique hst
    exact hb.still hw
set_option maxHeartbeats 2000000 in
theorem sides_any {w : World} {l r : Tr} {st : Int} {g : Nat} (h : At w (.node l r st) g) (hw : (Tr.node l r st).Wf) (hb : (Tr.node l r st).Bd) (hn : (Tr.node l r st).row.length ≤ 2097152) :
    Calls Tryd.prog 52 #[ptr g] w fun e w' => ∃ gl gr, e = .returned (.tuple #[ptr gl, ptr gr]) ∧ At w' (l.raise st) gl ∧ At w' (r.raise st) gr ∧ Below w.heap.size w w' := by
  obtain ⟨gl, gr, hN, hl, hr⟩ := h
  have hlen : l.row.length ≤ 2097152 ∧ r.row.length ≤ 2097152 := by
    simp only [Tr.row, upL_length, List.length_append] at hn; omega
  have HL : Hid (∀ W, Below w.heap.size w W → Calls Tryd.prog 67 #[.pointer (some ⟨gl, 0, none⟩), .int .i64 st] W fun e w' => ∃ g', e = .returned (.pointer (some ⟨g', 0, none⟩)) ∧ At w' (l.raise st) g' ∧ Below W.heap.size W w') := fun W hW => raised_any (hl.below hW) hw.1 hb.1 hlen.1 st (hb.still hw)
  have HR : Hid (∀ W, Below w.heap.size w W → Calls Tryd.prog 67 #[.pointer (some ⟨gr, 0, none⟩), .int .i64 st] W fun e w' => ∃ g', e = .returned (.pointer (some ⟨g', 0, none⟩)) ∧ At w' (r.raise st) g' ∧ Below W.heap.size W w') := fun W hW => raised_any (hr.below hW) hw.2 hb.2.1 hlen.2 st (hb.still hw)
  obtain ⟨_, c11, c12, c13⟩ := hN.four
  have hgl := hN.lt
  clear hN hl hr hlen hn hb hw
  unfold ptr
  have hcur : Below w.heap.size w w := Below.refl _ _
  go_enter Tryd.func52, Tryd.ntmps52
  go_wp2_with fail
  go_region_held3 (fun W => W.cell? ⟨g, 11, none⟩ = some (.pointer (some ⟨gl, 0, none⟩)) ∧ W.cell? ⟨g, 12, none⟩ = some (.pointer (some ⟨gr, 0, none⟩)) ∧ W.cell? ⟨g, 13, none⟩ = some (.int .i64 st)) (first | exact ⟨c11, c12, c13⟩ | exact ⟨e11, e12, e13⟩)
    (first
      | (go_at_call_of 67 (Value.pointer (some ⟨gl, 0, none⟩)); refine (HL.out _ ?_).mono ?_; (first | exact hcur | exact hcur.drew | exact hcur.drew.drew); rintro e w1 ⟨gl1, rfl, hl1, hb1⟩; have hcur : Below w.heap.size w w1 := (by first | exact hcur.trans (hb1.mono hcur.size) | exact hcur.drew.trans (hb1.mono hcur.size)); have e11 := (hcur.cell (p := ⟨g, 11, none⟩) hgl).trans c11; have e12 := (hcur.cell (p := ⟨g, 12, none⟩) hgl).trans c12; have e13 := (hcur.cell (p := ⟨g, 13, none⟩) hgl).trans c13)
      | (go_at_call_of 67 (Value.pointer (some ⟨gr, 0, none⟩)); refine (HR.out _ ?_).mono ?_; (first | exact hcur | exact hcur.drew | exact hcur.drew.drew); rintro e w2 ⟨gr1, rfl, hr1, hb2⟩; have hl2 : At w2 (l.raise st) gl1 := hl1.below hb2; have hcur : Below w.heap.size w w2 := (by first | exact hcur.trans (hb2.mono hcur.size) | exact hcur.drew.trans (hb2.mono hcur.size)); have e11 := (hcur.cell (p := ⟨g, 11, none⟩) hgl).trans c11; have e12 := (hcur.cell (p := ⟨g, 12, none⟩) hgl).trans c12; have e13 := (hcur.cell (p := ⟨g, 13, none⟩) hgl).trans c13))
  all_goals
    go_wp2_with fail
    go_ret2
    exact ⟨gl1, gr1, rfl, hl2, hr1, hcur⟩
end Go.Proofs.YtggdocnnbgcniaaDoor

namespace Go.Proofs.YtggdocnnbgcniaaDoor
open Go.RowKit Go.Lib
set_option maxRecDepth 100000

def Tr.dep : Tr → Nat
  | .nil => 0
  | .leaf _ _ _ => 0
  | .node l r _ => max l.dep r.dep + 1
theorem Tr.dep_raise (t : Tr) (d : Int) : (t.raise d).dep = t.dep := by cases t <;> rfl
theorem At.ten {w : World} {t : Tr} {g : Nat} (h : At w t g) : w.cell? ⟨g, 0, none⟩ = some (.int .i64 t.sm.cells) ∧ w.cell? ⟨g, 1, none⟩ = some (.int .i64 t.sm.pieces) ∧ w.cell? ⟨g, 2, none⟩ = some (.int .i64 t.sm.high) ∧ w.cell? ⟨g, 3, none⟩ = some (.int .i64 t.sm.least) ∧ w.cell? ⟨g, 4, none⟩ = some (.int .i64 t.sm.most) ∧ w.cell? ⟨g, 5, none⟩ = some (.int .i64 t.sm.lowest) ∧ w.cell? ⟨g, 6, none⟩ = some (.int .i64 t.sm.fc) ∧ w.cell? ⟨g, 7, none⟩ = some (.int .i64 t.sm.fh) ∧ w.cell? ⟨g, 8, none⟩ = some (.int .i64 t.sm.lc) ∧ w.cell? ⟨g, 9, none⟩ = some (.int .i64 t.sm.lh) := by
  obtain ⟨an, nn, cn, pl, pr, st, hn⟩ := h.node
  exact hn.ten
set_option maxHeartbeats 4000000 in
theorem totalOf_dep : ∀ (n : Nat) (t : Tr), t.dep ≤ n → ∀ {w : World} {g : Nat}, At w t g → t.Wf → t.Bd → Nonneg t.row → t.row.length ≤ 2097152 → ∀ p : Nat, p < vis t.row →
    Calls Tryd.prog 29 #[ptr g, .int .i64 (p : Int)] w fun e w' => e = .returned (.int .i64 (place t.row p : Int)) ∧ Below w.heap.size w w' := by
  intro n
  induction n with
  | zero =>
    intro t hd w g h hw hb hn hl p hp
    unfold ptr
    cases t with
    | nil => exact hw.elim
    | node l r st => simp [Tr.dep] at hd
    | leaf rs hid st =>
      have HP := smIsPiece_any (Tr.leaf rs hid st).sm
      rw [Tr.sm_high_leaf] at HP
      have epl : place (Tr.leaf rs hid st).row p = p := by
        simp only [Tr.row] at hp ⊢
        rw [vis_piece] at hp
        by_cases e : hid = 0
        · subst e; rw [if_pos rfl] at hp; exact place_piece rs p hp
        · rw [if_neg e] at hp; omega
      rw [epl]
      obtain ⟨c0, c1, c2, c3, c4, c5, c6, c7, c8, c9⟩ := h.ten
      clear epl hp hn hb hw
      generalize (Tr.leaf rs hid st).sm = s at *
      go_enter Tryd.func29, Tryd.ntmps29
      go_wp2_with fail
      refine (HP _).mono ?_
      rintro e w1 ⟨rfl, hb1⟩
      go_wp2_with fail
      go_ret
      exact ⟨rfl, hb1⟩
  | succ n ih =>
    intro t hd w g h hw hb hn hl p hp
    cases t with
    | nil => exact hw.elim
    | leaf rs hid st => exact (ih _ (Nat.zero_le _) h hw hb hn hl p hp)
    | node l r st =>
      have HP := smIsPiece_any (Tr.node l r st).sm
      have hh := hw.high_node
      have hnp : decide ((Tr.node l r st).sm.high ≤ 1) = false := by simp; omega
      rw [hnp] at HP
      have HSD : Hid (∀ W, Below w.heap.size w W → Calls Tryd.prog 52 #[.pointer (some ⟨g, 0, none⟩)] W fun e w' => ∃ gl gr, e = .returned (.tuple #[.pointer (some ⟨gl, 0, none⟩), .pointer (some ⟨gr, 0, none⟩)]) ∧ At w' (l.raise st) gl ∧ At w' (r.raise st) gr ∧ Below W.heap.size W w') := fun W hW => sides_any (h.below hW) hw hb hl
      obtain ⟨c0, c1, c2, c3, c4, c5, c6, c7, c8, c9⟩ := h.ten
      have hbs := hb.sides hw
      have hwl := Tr.wf_raise l hw.1 st
      have hwr := Tr.wf_raise r hw.2 st
      rw [Tr.row_node] at hn hl hp ⊢
      have hnl := nonneg_left hn
      have hnr := nonneg_right hn
      have dl : (l.raise st).dep ≤ n := by rw [Tr.dep_raise]; simp only [Tr.dep] at hd; omega
      have dr : (r.raise st).dep ≤ n := by rw [Tr.dep_raise]; simp only [Tr.dep] at hd; omega
      rw [List.length_append] at hl
      rw [vis_append] at hp
      rw [place_append]
      have hvl := vis_le (l.raise st).row
      have hvr := vis_le (r.raise st).row
      have HSH := smShown_any (l.raise st).sm
      have hshw := Tr.Ok.shown (.inr hwl) hnl
      rw [hshw] at HSH
      have HCL : Hid ((l.raise st).sm.cells = ((l.raise st).row.length : Int)) := Tr.sm_cells (l.raise st)
      have hcb : 0 ≤ (l.raise st).sm.cells ∧ (l.raise st).sm.cells ≤ 2097152 := by rw [HCL.out]; omega
      have HI : Hid (∀ W gl, At W (l.raise st) gl → p < vis (l.raise st).row → Calls Tryd.prog 29 #[.pointer (some ⟨gl, 0, none⟩), .int .i64 (p : Int)] W fun e w' => e = .returned (.int .i64 (place (l.raise st).row p : Int)) ∧ Below W.heap.size W w') := fun W gl hg h1 => ih _ dl hg hwl hbs.1 hnl (by omega) p h1
      have HJ : Hid (∀ W gr, At W (r.raise st) gr → vis (l.raise st).row ≤ p → Calls Tryd.prog 29 #[.pointer (some ⟨gr, 0, none⟩), .int .i64 ((p : Int) - (vis (l.raise st).row : Int))] W fun e w' => e = .returned (.int .i64 (place (r.raise st).row (p - vis (l.raise st).row) : Int)) ∧ Below W.heap.size W w') := fun W gr hg h1 => by
        have := ih _ dr hg hwr hbs.2 hnr (by omega) (p - vis (l.raise st).row) (by omega)
        rw [show ((p - vis (l.raise st).row : Nat) : Int) = (p : Int) - (vis (l.raise st).row : Int) by omega] at this
        exact this
      have hpr := place_le (r.raise st).row (p - vis (l.raise st).row)
      clear ih hbs hwl hwr hnl hnr dl dr hn hd hnp hshw hb hw h
      generalize (Tr.node l r st).sm = s at *
      generalize l.raise st = L at *
      generalize r.raise st = R at *
      have hcur0 : Below w.heap.size w w := Below.refl _ _
      unfold ptr
      generalize hVL : vis L.row = vl at *
      generalize hPR : place R.row (p - vl) = prr at *
      clear hVL hPR
      by_cases hlt : p < vl
      · rw [if_pos hlt]
        have hlt2 : (p : Int) < (vl : Int) := by omega
        go_enter Tryd.func29, Tryd.ntmps29
        go_wp2_with fail
        refine (HP _).mono ?_
        rintro e w1 ⟨rfl, hb1⟩
        clear c0 c1 c2 c3 c4 c5 c6 c7 c8 c9
        go_wp2_with fail
        refine (HSD.out _ hb1).mono ?_
        rintro e w2 ⟨gl, gr, rfl, hL, hR, hb2⟩
        have hB2 : Below w.heap.size w w2 := hb1.trans (hb2.mono hb1.size)
        obtain ⟨c0, c1, c2, c3, c4, c5, c6, c7, c8, c9⟩ := hL.ten
        have hgl := hL.lt
        clear hb1 hb2
        go_wp2_with fail
        refine (HSH _).mono ?_
        rintro e w3 ⟨rfl, hb3⟩
        have hB3 : Below w.heap.size w w3 := hB2.trans (hb3.mono hB2.size)
        go_wp2_with fail
        refine (HI.out _ _ (hL.below hb3) hlt).mono ?_
        rintro e w4 ⟨rfl, hb4⟩
        go_wp2_with fail
        go_ret
        exact ⟨rfl, hB3.trans (hb4.mono hB3.size)⟩
      · rw [if_neg hlt]
        have hlt2 : ¬ (p : Int) < (vl : Int) := by omega
        have hge : vl ≤ p := by omega
        have u0 : IntKind.i64.wrap ((p : Int) - (vl : Int)) = (p : Int) - (vl : Int) := IntWalk.i64_in _ (by omega)
        have u1 : IntKind.i64.wrap (L.sm.cells + (prr : Int)) = L.sm.cells + (prr : Int) := IntWalk.i64_in _ (by omega)
        go_enter Tryd.func29, Tryd.ntmps29
        go_wp2_with fail
        refine (HP _).mono ?_
        rintro e w1 ⟨rfl, hb1⟩
        clear c0 c1 c2 c3 c4 c5 c6 c7 c8 c9
        go_wp2_with fail
        refine (HSD.out _ hb1).mono ?_
        rintro e w2 ⟨gl, gr, rfl, hL, hR, hb2⟩
        have hB2 : Below w.heap.size w w2 := hb1.trans (hb2.mono hb1.size)
        obtain ⟨c0, c1, c2, c3, c4, c5, c6, c7, c8, c9⟩ := hL.ten
        have hgl := hL.lt
        clear hb1 hb2
        go_wp2_with fail
        refine (HSH _).mono ?_
        rintro e w3 ⟨rfl, hb3⟩
        have hB3 : Below w.heap.size w w3 := hB2.trans (hb3.mono hB2.size)
        have hcur : Below w2.heap.size w2 w3 := hb3
        replace c0 := (hb3.cell (p := ⟨gl, 0, none⟩) hgl).trans c0
        replace c1 := (hb3.cell (p := ⟨gl, 1, none⟩) hgl).trans c1
        replace c2 := (hb3.cell (p := ⟨gl, 2, none⟩) hgl).trans c2
        replace c3 := (hb3.cell (p := ⟨gl, 3, none⟩) hgl).trans c3
        replace c4 := (hb3.cell (p := ⟨gl, 4, none⟩) hgl).trans c4
        replace c5 := (hb3.cell (p := ⟨gl, 5, none⟩) hgl).trans c5
        replace c6 := (hb3.cell (p := ⟨gl, 6, none⟩) hgl).trans c6
        replace c7 := (hb3.cell (p := ⟨gl, 7, none⟩) hgl).trans c7
        replace c8 := (hb3.cell (p := ⟨gl, 8, none⟩) hgl).trans c8
        replace c9 := (hb3.cell (p := ⟨gl, 9, none⟩) hgl).trans c9
        have hgl3 : gl < w3.heap.size := by have := hb3.size; omega
        have hL3 := hL.below hb3
        have hR3 := hR.below hb3
        clear hL hR hlt hB2 hb3 hcur
        have hcur : Below w3.heap.size w3 w3 := Below.refl _ _
        go_wp2_with fail
        go_region_held3 (fun W => W.cell? ⟨gl, 0, none⟩ = some (.int .i64 L.sm.cells) ∧ W.cell? ⟨gl, 1, none⟩ = some (.int .i64 L.sm.pieces) ∧ W.cell? ⟨gl, 2, none⟩ = some (.int .i64 L.sm.high) ∧ W.cell? ⟨gl, 3, none⟩ = some (.int .i64 L.sm.least) ∧ W.cell? ⟨gl, 4, none⟩ = some (.int .i64 L.sm.most) ∧ W.cell? ⟨gl, 5, none⟩ = some (.int .i64 L.sm.lowest) ∧ W.cell? ⟨gl, 6, none⟩ = some (.int .i64 L.sm.fc) ∧ W.cell? ⟨gl, 7, none⟩ = some (.int .i64 L.sm.fh) ∧ W.cell? ⟨gl, 8, none⟩ = some (.int .i64 L.sm.lc) ∧ W.cell? ⟨gl, 9, none⟩ = some (.int .i64 L.sm.lh)) (first | exact ⟨c0, c1, c2, c3, c4, c5, c6, c7, c8, c9⟩ | exact ⟨e0, e1, e2, e3, e4, e5, e6, e7, e8, e9⟩)
          (first
            | (go_at_call 28; refine (HSH _).mono ?_; rintro e w4 ⟨rfl, hb4⟩; have hcur : Below w3.heap.size w3 w4 := (by first | exact hcur.trans (hb4.mono hcur.size) | exact hcur.drew.trans (hb4.mono hcur.size)); have e0 := (hcur.cell (p := ⟨gl, 0, none⟩) hgl3).trans c0; have e1 := (hcur.cell (p := ⟨gl, 1, none⟩) hgl3).trans c1; have e2 := (hcur.cell (p := ⟨gl, 2, none⟩) hgl3).trans c2; have e3 := (hcur.cell (p := ⟨gl, 3, none⟩) hgl3).trans c3; have e4 := (hcur.cell (p := ⟨gl, 4, none⟩) hgl3).trans c4; have e5 := (hcur.cell (p := ⟨gl, 5, none⟩) hgl3).trans c5; have e6 := (hcur.cell (p := ⟨gl, 6, none⟩) hgl3).trans c6; have e7 := (hcur.cell (p := ⟨gl, 7, none⟩) hgl3).trans c7; have e8 := (hcur.cell (p := ⟨gl, 8, none⟩) hgl3).trans c8; have e9 := (hcur.cell (p := ⟨gl, 9, none⟩) hgl3).trans c9)
            | (go_at_call 29; refine (HJ.out _ _ (hR3.below ?_) hge).mono ?_; (first | exact hcur | exact hcur.drew | exact hcur.drew.drew); rintro e w5 ⟨rfl, hb5⟩; have hcur : Below w3.heap.size w3 w5 := (by first | exact hcur.trans (hb5.mono hcur.size) | exact hcur.drew.trans (hb5.mono hcur.size)); have e0 := (hcur.cell (p := ⟨gl, 0, none⟩) hgl3).trans c0; have e1 := (hcur.cell (p := ⟨gl, 1, none⟩) hgl3).trans c1; have e2 := (hcur.cell (p := ⟨gl, 2, none⟩) hgl3).trans c2; have e3 := (hcur.cell (p := ⟨gl, 3, none⟩) hgl3).trans c3; have e4 := (hcur.cell (p := ⟨gl, 4, none⟩) hgl3).trans c4; have e5 := (hcur.cell (p := ⟨gl, 5, none⟩) hgl3).trans c5; have e6 := (hcur.cell (p := ⟨gl, 6, none⟩) hgl3).trans c6; have e7 := (hcur.cell (p := ⟨gl, 7, none⟩) hgl3).trans c7; have e8 := (hcur.cell (p := ⟨gl, 8, none⟩) hgl3).trans c8; have e9 := (hcur.cell (p := ⟨gl, 9, none⟩) hgl3).trans c9))
        all_goals
          go_wp2_with fail
          go_ret
          refine ⟨?_, hB3.trans (hcur.mono hB3.size)⟩
          rw [HCL.out]
          go_num
end Go.Proofs.YtggdocnnbgcniaaDoor

namespace Go.Proofs.YtggdocnnbgcniaaDoor
open Go.RowKit Go.Lib
set_option maxRecDepth 100000

theorem vis_take_append (a b : List (Int × Int)) (c : Nat) : vis ((a ++ b).take c) = if c ≤ a.length then vis (a.take c) else vis a + vis (b.take (c - a.length)) := by
  rw [List.take_append, vis_append]
  by_cases h : c ≤ a.length
  · rw [if_pos h, show c - a.length = 0 by omega]; simp [vis, cnt]
  · rw [if_neg h, List.take_of_length_le (by omega)]
theorem vis_take_le (l : List (Int × Int)) (c : Nat) : vis (l.take c) ≤ vis l := by
  conv => rhs; rw [← List.take_append_drop c l]
  rw [vis_append]; omega
theorem vis_take_piece (rs : List Int) (h : Int) (c : Nat) : vis ((rs.map fun x => (x, h)).take c) = min c (vis (rs.map fun x => (x, h))) ∨ rs.length < c := by
  rw [← List.map_take, vis_piece, vis_piece, List.length_take]
  by_cases e : h = 0
  · rw [if_pos e, if_pos e]; exact .inl rfl
  · rw [if_neg e, if_neg e]; exact .inl (by omega)
end Go.Proofs.YtggdocnnbgcniaaDoor

namespace Go.Proofs.YtggdocnnbgcniaaDoor
open Go.RowKit Go.Lib
set_option maxRecDepth 100000

/-- A rope in the world: its box, its tree. -/
def RopeAt (w : World) (q : Nat) (t : Tr) : Prop := ∃ g, w.heap[q]? = some (.cells #[.pointer (some ⟨g, 0, none⟩)] 79) ∧ At w t g
theorem RopeAt.below {w w' : World} {q : Nat} {t : Tr} (h : RopeAt w q t) (hb : Below w.heap.size w w') : RopeAt w' q t := by
  obtain ⟨g, h1, h2⟩ := h
  exact ⟨g, (hb.block q (Array.getElem?_eq_some_iff.1 h1).1).trans h1, h2.below hb⟩
theorem RopeAt.lt {w : World} {q : Nat} {t : Tr} (h : RopeAt w q t) : q < w.heap.size := by
  obtain ⟨g, h1, h2⟩ := h
  exact (Array.getElem?_eq_some_iff.1 h1).1
theorem RopeAt.cell {w : World} {q : Nat} {t : Tr} (h : RopeAt w q t) : ∃ g, w.cell? ⟨q, 0, none⟩ = some (.pointer (some ⟨g, 0, none⟩)) ∧ At w t g := by
  obtain ⟨g, h1, h2⟩ := h
  refine ⟨g, ?_, h2⟩
  simp [World.cell?, h1]
/-- A tree as a rope has it between two calls. -/
structure Tr.Good (t : Tr) : Prop where
  ok : t.Ok
  bd : t.Bd
  nonneg : Nonneg t.row
  len : t.row.length ≤ 1048576
theorem ropeTotal_any {w : World} {q : Nat} {t : Tr} (h : RopeAt w q t) : Calls Tryd.prog 27 #[ptr q] w fun e w' => e = .returned (.int .i64 (t.row.length : Int)) ∧ w' = w := by
  obtain ⟨g, h1, h2⟩ := h.cell
  rw [← Tr.sm_cells]
  exact total_any h2 h1
theorem ropeShownR_any {w : World} {q : Nat} {t : Tr} (h : RopeAt w q t) (hg : t.Good) : Calls Tryd.prog 9 #[ptr q] w fun e w' => e = .returned (.int .i64 (vis t.row : Int)) ∧ Below w.heap.size w w' := by
  obtain ⟨g, h1, h2⟩ := h.cell
  rw [← hg.ok.shown hg.nonneg]
  exact ropeShown_any h2 h1
set_option maxHeartbeats 1000000 in
theorem ropeTotalOf_any {w : World} {q : Nat} {t : Tr} (h : RopeAt w q t) (hg : t.Good) (p : Nat) (hp : p ≤ vis t.row) :
    Calls Tryd.prog 12 #[ptr q, .int .i64 (p : Int)] w fun e w' => e = .returned (.tuple #[.int .i64 (place t.row p : Int), .int .i64 0]) ∧ Below w.heap.size w w' := by
  have HS : Hid (∀ W, Below w.heap.size w W → Calls Tryd.prog 9 #[.pointer (some ⟨q, 0, none⟩)] W fun e w' => e = .returned (.int .i64 (vis t.row : Int)) ∧ Below W.heap.size W w') := fun W hW => ropeShownR_any (h.below hW) hg
  have HT : Hid (∀ W, Below w.heap.size w W → Calls Tryd.prog 27 #[.pointer (some ⟨q, 0, none⟩)] W fun e w' => e = .returned (.int .i64 (t.row.length : Int)) ∧ w' = W) := fun W hW => ropeTotal_any (h.below hW)
  obtain ⟨g, hc, hA⟩ := h.cell
  have hql := h.lt
  have hle := vis_le t.row
  have hlen := hg.len
  have HO : Hid (∀ W, Below w.heap.size w W → p < vis t.row → Calls Tryd.prog 29 #[.pointer (some ⟨g, 0, none⟩), .int .i64 (p : Int)] W fun e w' => e = .returned (.int .i64 (place t.row p : Int)) ∧ Below W.heap.size W w') := fun W hW hlt => by
    rcases hg.ok with e | hw
    · rw [e] at hlt; simp [Tr.row, vis, cnt] at hlt
    · exact totalOf_dep t.dep t (Nat.le_refl _) (hA.below hW) hw hg.bd hg.nonneg (by omega) p hlt
  have hend := place_end t.row p
  clear hg h hA
  unfold ptr
  generalize hv : vis t.row = v at *
  generalize ht : t.row.length = n at *
  generalize hpl : place t.row p = pl at *
  clear hv ht hpl
  have hp2 : (p : Int) ≤ (v : Int) := by omega
  by_cases hall : p = v
  · have he : ((p : Int) == (v : Int)) = true := by rw [beq_iff_eq]; omega
    have hpn : pl = n := hend (by omega)
    subst hpn
    clear hend hall HO
    go_enter Tryd.func12, Tryd.ntmps12
    go_wp2_with fail
    refine (HS.out _ (Below.refl _ _)).mono ?_
    rintro e w1 ⟨rfl, hb1⟩
    go_wp2_with fail
    refine (HS.out _ hb1).mono ?_
    rintro e w2 ⟨rfl, hb2⟩
    have hB2 : Below w.heap.size w w2 := hb1.trans (hb2.mono hb1.size)
    go_wp2_with fail
    refine (HT.out _ hB2).mono ?_
    rintro e w3 ⟨rfl, rfl⟩
    go_wp2_with fail
    go_ret2
    exact ⟨rfl, hB2⟩
  · have he : ((p : Int) == (v : Int)) = false := by rw [beq_eq_false_iff_ne]; omega
    have hlt : p < v := by omega
    clear hend hall
    go_enter Tryd.func12, Tryd.ntmps12
    go_wp2_with fail
    refine (HS.out _ (Below.refl _ _)).mono ?_
    rintro e w1 ⟨rfl, hb1⟩
    go_wp2_with fail
    refine (HS.out _ hb1).mono ?_
    rintro e w2 ⟨rfl, hb2⟩
    have hB2 : Below w.heap.size w w2 := hb1.trans (hb2.mono hb1.size)
    have hc2 := (hB2.cell (p := ⟨q, 0, none⟩) hql).trans hc
    go_wp2_with fail
    refine (HO.out _ hB2 hlt).mono ?_
    rintro e w3 ⟨rfl, hb3⟩
    go_wp2_with fail
    go_ret2
    exact ⟨rfl, hB2.trans (hb3.mono hB2.size)⟩
set_option maxHeartbeats 1000000 in
theorem ropeTotalOf_no {w : World} {q : Nat} {t : Tr} (h : RopeAt w q t) (hg : t.Good) (p : Int) (hp : p < 0 ∨ (vis t.row : Int) < p) :
    Calls Tryd.prog 12 #[ptr q, .int .i64 p] w fun e w' => e = .returned (.tuple #[.int .i64 0, .int .i64 12]) ∧ Below w.heap.size w w' := by
  have HS : Hid (∀ W, Below w.heap.size w W → Calls Tryd.prog 9 #[.pointer (some ⟨q, 0, none⟩)] W fun e w' => e = .returned (.int .i64 (vis t.row : Int)) ∧ Below W.heap.size W w') := fun W hW => ropeShownR_any (h.below hW) hg
  clear hg h
  unfold ptr
  by_cases h0 : p < 0
  · clear hp
    go_enter Tryd.func12, Tryd.ntmps12
    go_wp2_with fail
    go_ret2
    exact ⟨rfl, Below.refl _ _⟩
  · have h1 : (vis t.row : Int) < p := by omega
    clear hp
    go_enter Tryd.func12, Tryd.ntmps12
    go_wp2_with fail
    refine (HS.out _ (Below.refl _ _)).mono ?_
    rintro e w1 ⟨rfl, hb1⟩
    go_wp2_with fail
    go_ret2
    exact ⟨rfl, hb1⟩
end Go.Proofs.YtggdocnnbgcniaaDoor
