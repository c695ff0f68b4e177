import Derived.Test.YtijpfbcippijoaaGreatDoorRpD
import Derived.Test.YtijpfbcippijoaaGreatDoorRpPR
namespace Go.Proofs.YtijpfbcippijoaaGreatDoor
open Go.RowKit Go.Lib
set_option maxRecDepth 100000
def ptr (g : Nat) : Value := .pointer (some ⟨g, 0, none⟩)
theorem nodeAt_raise {w w' : World} {t : Tr} (hw : t.Wf) {d : Int} {g g' : Nat} (h : At w t g) (hb : Below w.heap.size w w')
    (hn : ∀ (a : Option Addr) (n cap : Nat) (pl pr : Option Addr) (st : Int), NodeAt w g t.sm (.slice a n cap) (.pointer pl) (.pointer pr) st → NodeAt w' g' (t.sm.raised d) (.slice a n cap) (.pointer pl) (.pointer pr) (st + d)) : At w' (t.raise d) g' := by
  have hsm := Tr.sm_raise t hw d
  cases t with
  | nil => exact hw.elim
  | leaf rs hid st =>
    obtain ⟨a, cap, h1, h2⟩ := h
    have := hn _ _ _ _ _ _ h1
    rw [← hsm] at this
    exact ⟨a, cap, this, h2.below hb⟩
  | node l r st =>
    obtain ⟨gl, gr, h1, h2, h3⟩ := h
    have := hn _ _ _ _ _ _ h1
    rw [← hsm] at this
    exact ⟨gl, gr, this, h2.below hb, h3.below hb⟩
theorem setNode {w1 : World} {B : Nat} {s : Sm} {rs l r : Value} {st : Int} (h : NodeAt w1 B s rs l r st) (s2 : Sm) (st2 : Int) :
    NodeAt (((((((((((w1.setCell ⟨B, 0, none⟩ (.int .i64 s2.cells)).setCell ⟨B, 1, none⟩ (.int .i64 s2.pieces)).setCell ⟨B, 2, none⟩ (.int .i64 s2.high)).setCell ⟨B, 3, none⟩ (.int .i64 s2.least)).setCell ⟨B, 4, none⟩ (.int .i64 s2.most)).setCell ⟨B, 5, none⟩ (.int .i64 s2.lowest)).setCell ⟨B, 6, none⟩ (.int .i64 s2.fc)).setCell ⟨B, 7, none⟩ (.int .i64 s2.fh)).setCell ⟨B, 8, none⟩ (.int .i64 s2.lc)).setCell ⟨B, 9, none⟩ (.int .i64 s2.lh)).setCell ⟨B, 13, none⟩ (.int .i64 st2)) B s2 rs l r st2 := by
  obtain ⟨x0, x1, x2, x3, x4, x5, x6, x7, x8, x9⟩ := s2
  have h0 : NodeAt (w1.setCell ⟨B, 0, none⟩ (.int .i64 x0)) B ⟨x0, s.pieces, s.high, s.least, s.most, s.lowest, s.fc, s.fh, s.lc, s.lh⟩ rs l r st := (heap_setCell_same _ B 0 _ _ _ h).trans (by unfold nodeCells; simp)
  have h1 : NodeAt ((w1.setCell ⟨B, 0, none⟩ (.int .i64 x0)).setCell ⟨B, 1, none⟩ (.int .i64 x1)) B ⟨x0, x1, s.high, s.least, s.most, s.lowest, s.fc, s.fh, s.lc, s.lh⟩ rs l r st := (heap_setCell_same _ B 1 _ _ _ h0).trans (by unfold nodeCells; simp)
  have h2 : NodeAt (((w1.setCell ⟨B, 0, none⟩ (.int .i64 x0)).setCell ⟨B, 1, none⟩ (.int .i64 x1)).setCell ⟨B, 2, none⟩ (.int .i64 x2)) B ⟨x0, x1, x2, s.least, s.most, s.lowest, s.fc, s.fh, s.lc, s.lh⟩ rs l r st := (heap_setCell_same _ B 2 _ _ _ h1).trans (by unfold nodeCells; simp)
  have h3 : NodeAt ((((w1.setCell ⟨B, 0, none⟩ (.int .i64 x0)).setCell ⟨B, 1, none⟩ (.int .i64 x1)).setCell ⟨B, 2, none⟩ (.int .i64 x2)).setCell ⟨B, 3, none⟩ (.int .i64 x3)) B ⟨x0, x1, x2, x3, s.most, s.lowest, s.fc, s.fh, s.lc, s.lh⟩ rs l r st := (heap_setCell_same _ B 3 _ _ _ h2).trans (by unfold nodeCells; simp)
  have h4 : NodeAt (((((w1.setCell ⟨B, 0, none⟩ (.int .i64 x0)).setCell ⟨B, 1, none⟩ (.int .i64 x1)).setCell ⟨B, 2, none⟩ (.int .i64 x2)).setCell ⟨B, 3, none⟩ (.int .i64 x3)).setCell ⟨B, 4, none⟩ (.int .i64 x4)) B ⟨x0, x1, x2, x3, x4, s.lowest, s.fc, s.fh, s.lc, s.lh⟩ rs l r st := (heap_setCell_same _ B 4 _ _ _ h3).trans (by unfold nodeCells; simp)
  have h5 : NodeAt ((((((w1.setCell ⟨B, 0, none⟩ (.int .i64 x0)).setCell ⟨B, 1, none⟩ (.int .i64 x1)).setCell ⟨B, 2, none⟩ (.int .i64 x2)).setCell ⟨B, 3, none⟩ (.int .i64 x3)).setCell ⟨B, 4, none⟩ (.int .i64 x4)).setCell ⟨B, 5, none⟩ (.int .i64 x5)) B ⟨x0, x1, x2, x3, x4, x5, s.fc, s.fh, s.lc, s.lh⟩ rs l r st := (heap_setCell_same _ B 5 _ _ _ h4).trans (by unfold nodeCells; simp)
  have h6 : NodeAt (((((((w1.setCell ⟨B, 0, none⟩ (.int .i64 x0)).setCell ⟨B, 1, none⟩ (.int .i64 x1)).setCell ⟨B, 2, none⟩ (.int .i64 x2)).setCell ⟨B, 3, none⟩ (.int .i64 x3)).setCell ⟨B, 4, none⟩ (.int .i64 x4)).setCell ⟨B, 5, none⟩ (.int .i64 x5)).setCell ⟨B, 6, none⟩ (.int .i64 x6)) B ⟨x0, x1, x2, x3, x4, x5, x6, s.fh, s.lc, s.lh⟩ rs l r st := (heap_setCell_same _ B 6 _ _ _ h5).trans (by unfold nodeCells; simp)
  have h7 : NodeAt ((((((((w1.setCell ⟨B, 0, none⟩ (.int .i64 x0)).setCell ⟨B, 1, none⟩ (.int .i64 x1)).setCell ⟨B, 2, none⟩ (.int .i64 x2)).setCell ⟨B, 3, none⟩ (.int .i64 x3)).setCell ⟨B, 4, none⟩ (.int .i64 x4)).setCell ⟨B, 5, none⟩ (.int .i64 x5)).setCell ⟨B, 6, none⟩ (.int .i64 x6)).setCell ⟨B, 7, none⟩ (.int .i64 x7)) B ⟨x0, x1, x2, x3, x4, x5, x6, x7, s.lc, s.lh⟩ rs l r st := (heap_setCell_same _ B 7 _ _ _ h6).trans (by unfold nodeCells; simp)
  have h8 : NodeAt (((((((((w1.setCell ⟨B, 0, none⟩ (.int .i64 x0)).setCell ⟨B, 1, none⟩ (.int .i64 x1)).setCell ⟨B, 2, none⟩ (.int .i64 x2)).setCell ⟨B, 3, none⟩ (.int .i64 x3)).setCell ⟨B, 4, none⟩ (.int .i64 x4)).setCell ⟨B, 5, none⟩ (.int .i64 x5)).setCell ⟨B, 6, none⟩ (.int .i64 x6)).setCell ⟨B, 7, none⟩ (.int .i64 x7)).setCell ⟨B, 8, none⟩ (.int .i64 x8)) B ⟨x0, x1, x2, x3, x4, x5, x6, x7, x8, s.lh⟩ rs l r st := (heap_setCell_same _ B 8 _ _ _ h7).trans (by unfold nodeCells; simp)
  have h9 : NodeAt ((((((((((w1.setCell ⟨B, 0, none⟩ (.int .i64 x0)).setCell ⟨B, 1, none⟩ (.int .i64 x1)).setCell ⟨B, 2, none⟩ (.int .i64 x2)).setCell ⟨B, 3, none⟩ (.int .i64 x3)).setCell ⟨B, 4, none⟩ (.int .i64 x4)).setCell ⟨B, 5, none⟩ (.int .i64 x5)).setCell ⟨B, 6, none⟩ (.int .i64 x6)).setCell ⟨B, 7, none⟩ (.int .i64 x7)).setCell ⟨B, 8, none⟩ (.int .i64 x8)).setCell ⟨B, 9, none⟩ (.int .i64 x9)) B ⟨x0, x1, x2, x3, x4, x5, x6, x7, x8, x9⟩ rs l r st := (heap_setCell_same _ B 9 _ _ _ h8).trans (by unfold nodeCells; simp)
  exact (heap_setCell_same _ B 13 _ _ _ h9).trans (by unfold nodeCells; simp)
theorem NodeAt.unique {w : World} {g : Nat} {s : Sm} {rs l r : Value} {st : Int} {rs' l' r' : Value} {st' : Int} (h : NodeAt w g s rs l r st) (h' : NodeAt w g s rs' l' r' st') : rs' = rs ∧ l' = l ∧ r' = r ∧ st' = st := by
  unfold NodeAt at h h'
  rw [h] at h'
  simp [nodeCells] at h'
  exact ⟨h'.1.symm, h'.2.1.symm, h'.2.2.1.symm, h'.2.2.2.symm⟩
set_option maxHeartbeats 2000000 in
theorem nodeRaised_any {w : World} {t : Tr} {g : Nat} (h : At w t g) (hw : t.Wf) (hs : SmBd t.sm) (d : Int) (hd : -1048600 ≤ d ∧ d ≤ 1048600) (hst : ∀ (a : Option Addr) (n cap : Nat) (pl pr : Option Addr) (st : Int), NodeAt w g t.sm (.slice a n cap) (.pointer pl) (.pointer pr) st → -1048600 ≤ st ∧ st ≤ 1048600) :
    Calls Tryz.prog 98 #[ptr g, .int .i64 d] w fun e w' => ∃ g', e = .returned (ptr g') ∧ At w' (t.raise d) g' ∧ Below w.heap.size w w' := by
  unfold ptr
  by_cases h0 : d = 0
  · subst h0
    rw [Tr.raise_zero]
    go_enter Tryz.func98, Tryz.ntmps98
    go_wp2_with fail
    go_ret
    exact ⟨g, rfl, h, Below.refl _ _⟩
  · have hz : (d == 0) = false := by simpa using h0
    obtain ⟨an, nn, cn, pl, pr, st, hn⟩ := h.node
    have hst' := hst _ _ _ _ _ _ hn
    have hsh := hs
    obtain ⟨b0, b1, b2, b3, b4, b5, b6, b7, b8, b9⟩ := hsh
    have HR := smRaised_any t.sm d (by omega) (by omega) (by omega) (by omega) (by omega)
    obtain ⟨c0, c1, c2, c3, c4, c5, c6, c7, c8, c9⟩ := hn.ten
    obtain ⟨c10, c11, c12, c13⟩ := hn.four
    have hgl := hn.lt
    have HN : Hid (NodeAt w g t.sm (.slice an nn cn) (.pointer pl) (.pointer pr) st) := hn
    clear hn hst h0
    go_enter Tryz.func98, Tryz.ntmps98
    go_wp2_with fail
    refine (HR _).mono ?_
    rintro e w1 ⟨rfl, hb1⟩
    have hs1 := hb1.size
    have hB : w1.heap[w.heap.size]? = some (.cells (nodeCells t.sm (.slice an nn cn) (.pointer pl) (.pointer pr) st) 96) := (hb1.block _ (by simp)).trans (heap_alloc_new _ _)
    have hN1 : NodeAt w1 w.heap.size t.sm (.slice an nn cn) (.pointer pl) (.pointer pr) st := hB
    obtain ⟨d0, d1, d2, d3, d4, d5, d6, d7, d8, d9⟩ := hN1.ten
    obtain ⟨d10, d11, d12, d13⟩ := hN1.four
    have hfz : ∀ j, w1.frozen? ⟨w.heap.size, j, none⟩ = false := fun j => frozen_of_row w1 w.heap.size j _ _ hB
    have f0 := hfz 0
    have f1 := hfz 1
    have f2 := hfz 2
    have f3 := hfz 3
    have f4 := hfz 4
    have f5 := hfz 5
    have f6 := hfz 6
    have f7 := hfz 7
    have f8 := hfz 8
    have f9 := hfz 9
    have f13 := hfz 13
    have HB : Hid (w1.heap[w.heap.size]? = some (.cells (nodeCells t.sm (.slice an nn cn) (.pointer pl) (.pointer pr) st) 96)) := hB
    clear hN1 hB hfz c0 c1 c2 c3 c4 c5 c6 c7 c8 c9 c10 c11 c12 c13
    unfold Sm.vals Sm.raised
    go_wp2_with fail
    go_ret
    have hB0 : Below w.heap.size w w1 := ((Below.refl _ _).alloc (Nat.le_refl _) _).trans (hb1.mono (by simp))
    have hBf : Below w.heap.size w _ := (((((((((((hB0.setCell (p := ⟨w.heap.size, 0, none⟩) (Nat.le_refl _) (.int .i64 t.sm.cells)).setCell (p := ⟨w.heap.size, 1, none⟩) (Nat.le_refl _) (.int .i64 t.sm.pieces)).setCell (p := ⟨w.heap.size, 2, none⟩) (Nat.le_refl _) (.int .i64 t.sm.high)).setCell (p := ⟨w.heap.size, 3, none⟩) (Nat.le_refl _) (.int .i64 (t.sm.least + d))).setCell (p := ⟨w.heap.size, 4, none⟩) (Nat.le_refl _) (.int .i64 (t.sm.most + d))).setCell (p := ⟨w.heap.size, 5, none⟩) (Nat.le_refl _) (.int .i64 t.sm.lowest)).setCell (p := ⟨w.heap.size, 6, none⟩) (Nat.le_refl _) (.int .i64 t.sm.fc)).setCell (p := ⟨w.heap.size, 7, none⟩) (Nat.le_refl _) (.int .i64 (t.sm.fh + d))).setCell (p := ⟨w.heap.size, 8, none⟩) (Nat.le_refl _) (.int .i64 t.sm.lc)).setCell (p := ⟨w.heap.size, 9, none⟩) (Nat.le_refl _) (.int .i64 (t.sm.lh + d))).setCell (p := ⟨w.heap.size, 13, none⟩) (Nat.le_refl _) (.int .i64 (st + d)))
    refine ⟨w.heap.size, rfl, nodeAt_raise hw h hBf fun a' n' cap' pl' pr' st' hn' => ?_, hBf⟩
    obtain ⟨e1, e2, e3, rfl⟩ := HN.out.unique hn'
    rw [e1, e2, e3]
    exact setNode (s := t.sm) (l := .pointer pl) (r := .pointer pr) (st := st') HB.out (t.sm.raised d) (st' + d)
end Go.Proofs.YtijpfbcippijoaaGreatDoor

namespace Go.Proofs.YtijpfbcippijoaaGreatDoor
open Go.RowKit Go.Lib
set_option maxRecDepth 100000
theorem below_drw {B : Nat} {a w : World} (h : Below B a w) : Below B a w.drew := h.drew
theorem raised_any {w : World} {t : Tr} {g : Nat} (h : At w t g) (hw : t.Wf) (hb : t.Bd) (hn : t.row.length ≤ 2097152) (d : Int) (hd : -1048600 ≤ d ∧ d ≤ 1048600) :
    Calls Tryz.prog 98 #[ptr g, .int .i64 d] w fun e w' => ∃ g', e = .returned (ptr g') ∧ At w' (t.raise d) g' ∧ Below w.heap.size w w' := by
  refine nodeRaised_any h hw (Tr.smBd (.inr hw) hb hn) d hd fun a n cap pl pr st hst => ?_
  cases t with
  | nil => exact hw.elim
  | leaf rs hid st' =>
    obtain ⟨a', cap', h1, _⟩ := h
    obtain ⟨_, _, _, rfl⟩ := h1.unique hst
    exact hb.leafStill
  | node l r st' =>
    obtain ⟨gl, gr, h1, _⟩ := h
    obtain ⟨_, _, _, rfl⟩ := h1.unique hst
    exact hb.still hw
set_option maxHeartbeats 2000000 in
theorem sides_any {w : World} {l r : Tr} {st : Int} {g : Nat} (h : At w (.node l r st) g) (hw : (Tr.node l r st).Wf) (hb : (Tr.node l r st).Bd) (hn : (Tr.node l r st).row.length ≤ 2097152) :
    Calls Tryz.prog 92 #[ptr g] w fun e w' => ∃ gl gr, e = .returned (.tuple #[ptr gl, ptr gr]) ∧ At w' (l.raise st) gl ∧ At w' (r.raise st) gr ∧ Below w.heap.size w w' := by
  obtain ⟨gl, gr, hN, hl, hr⟩ := h
  have hlen : l.row.length ≤ 2097152 ∧ r.row.length ≤ 2097152 := by
    simp only [Tr.row, upL_length, List.length_append] at hn; omega
  have HL : Hid (∀ W, Below w.heap.size w W → Calls Tryz.prog 98 #[.pointer (some ⟨gl, 0, none⟩), .int .i64 st] W fun e w' => ∃ g', e = .returned (.pointer (some ⟨g', 0, none⟩)) ∧ At w' (l.raise st) g' ∧ Below W.heap.size W w') := fun W hW => raised_any (hl.below hW) hw.1 hb.1 hlen.1 st (hb.still hw)
  have HR : Hid (∀ W, Below w.heap.size w W → Calls Tryz.prog 98 #[.pointer (some ⟨gr, 0, none⟩), .int .i64 st] W fun e w' => ∃ g', e = .returned (.pointer (some ⟨g', 0, none⟩)) ∧ At w' (r.raise st) g' ∧ Below W.heap.size W w') := fun W hW => raised_any (hr.below hW) hw.2 hb.2.1 hlen.2 st (hb.still hw)
  obtain ⟨_, c11, c12, c13⟩ := hN.four
  have hgl := hN.lt
  clear hN hl hr hlen hn hb hw
  unfold ptr
  have hcur : Below w.heap.size w w := Below.refl _ _
  go_enter Tryz.func92, Tryz.ntmps92
  go_wp2_with fail
  go_region_held3 (fun W => W.cell? ⟨g, 11, none⟩ = some (.pointer (some ⟨gl, 0, none⟩)) ∧ W.cell? ⟨g, 12, none⟩ = some (.pointer (some ⟨gr, 0, none⟩)) ∧ W.cell? ⟨g, 13, none⟩ = some (.int .i64 st)) (first | exact ⟨c11, c12, c13⟩ | exact ⟨e11, e12, e13⟩)
    (first
      | (go_at_call_of 98 (Value.pointer (some ⟨gl, 0, none⟩)); refine (HL.out _ ?_).mono ?_; (first | exact hcur | exact hcur.drew | exact hcur.drew.drew); rintro e w1 ⟨gl1, rfl, hl1, hb1⟩; have hcur : Below w.heap.size w w1 := (by first | exact hcur.trans (hb1.mono hcur.size) | exact hcur.drew.trans (hb1.mono hcur.size)); have e11 := (hcur.cell (p := ⟨g, 11, none⟩) hgl).trans c11; have e12 := (hcur.cell (p := ⟨g, 12, none⟩) hgl).trans c12; have e13 := (hcur.cell (p := ⟨g, 13, none⟩) hgl).trans c13)
      | (go_at_call_of 98 (Value.pointer (some ⟨gr, 0, none⟩)); refine (HR.out _ ?_).mono ?_; (first | exact hcur | exact hcur.drew | exact hcur.drew.drew); rintro e w2 ⟨gr1, rfl, hr1, hb2⟩; have hl2 : At w2 (l.raise st) gl1 := hl1.below hb2; have hcur : Below w.heap.size w w2 := (by first | exact hcur.trans (hb2.mono hcur.size) | exact hcur.drew.trans (hb2.mono hcur.size)); have e11 := (hcur.cell (p := ⟨g, 11, none⟩) hgl).trans c11; have e12 := (hcur.cell (p := ⟨g, 12, none⟩) hgl).trans c12; have e13 := (hcur.cell (p := ⟨g, 13, none⟩) hgl).trans c13))
  all_goals
    go_wp2_with fail
    go_ret2
    exact ⟨gl1, gr1, rfl, hl2, hr1, hcur⟩
end Go.Proofs.YtijpfbcippijoaaGreatDoor

namespace Go.Proofs.YtijpfbcippijoaaGreatDoor
open Go.RowKit Go.Lib
set_option maxRecDepth 100000
def Tr.dep : Tr → Nat
  | .nil => 0
  | .leaf _ _ _ => 0
  | .node l r _ => max l.dep r.dep + 1
theorem Tr.dep_raise (t : Tr) (d : Int) : (t.raise d).dep = t.dep := by cases t <;> rfl
theorem At.ten {w : World} {t : Tr} {g : Nat} (h : At w t g) : w.cell? ⟨g, 0, none⟩ = some (.int .i64 t.sm.cells) ∧ w.cell? ⟨g, 1, none⟩ = some (.int .i64 t.sm.pieces) ∧ w.cell? ⟨g, 2, none⟩ = some (.int .i64 t.sm.high) ∧ w.cell? ⟨g, 3, none⟩ = some (.int .i64 t.sm.least) ∧ w.cell? ⟨g, 4, none⟩ = some (.int .i64 t.sm.most) ∧ w.cell? ⟨g, 5, none⟩ = some (.int .i64 t.sm.lowest) ∧ w.cell? ⟨g, 6, none⟩ = some (.int .i64 t.sm.fc) ∧ w.cell? ⟨g, 7, none⟩ = some (.int .i64 t.sm.fh) ∧ w.cell? ⟨g, 8, none⟩ = some (.int .i64 t.sm.lc) ∧ w.cell? ⟨g, 9, none⟩ = some (.int .i64 t.sm.lh) := by
  obtain ⟨an, nn, cn, pl, pr, st, hn⟩ := h.node
  exact hn.ten
end Go.Proofs.YtijpfbcippijoaaGreatDoor

namespace Go.Proofs.YtijpfbcippijoaaGreatDoor
open Go.RowKit Go.Lib
set_option maxRecDepth 100000
theorem vis_take_append (a b : List (Int × Int)) (c : Nat) : vis ((a ++ b).take c) = if c ≤ a.length then vis (a.take c) else vis a + vis (b.take (c - a.length)) := by
  rw [List.take_append, vis_append]
  by_cases h : c ≤ a.length
  · rw [if_pos h, show c - a.length = 0 by omega]; simp [vis, cnt]
  · rw [if_neg h, List.take_of_length_le (by omega)]
theorem vis_take_le (l : List (Int × Int)) (c : Nat) : vis (l.take c) ≤ vis l := by
  conv => rhs; rw [← List.take_append_drop c l]
  rw [vis_append]; omega
theorem vis_take_piece (rs : List Int) (h : Int) (c : Nat) : vis ((rs.map fun x => (x, h)).take c) = min c (vis (rs.map fun x => (x, h))) ∨ rs.length < c := by
  rw [← List.map_take, vis_piece, vis_piece, List.length_take]
  by_cases e : h = 0
  · rw [if_pos e, if_pos e]; exact .inl rfl
  · rw [if_neg e, if_neg e]; exact .inl (by omega)
end Go.Proofs.YtijpfbcippijoaaGreatDoor

namespace Go.Proofs.YtijpfbcippijoaaGreatDoor
open Go.RowKit Go.Lib
set_option maxRecDepth 100000
def RopeAt (w : World) (q : Nat) (t : Tr) : Prop := ∃ g, w.heap[q]? = some (.cells #[.pointer (some ⟨g, 0, none⟩)] 73) ∧ At w t g
theorem RopeAt.below {w w' : World} {q : Nat} {t : Tr} (h : RopeAt w q t) (hb : Below w.heap.size w w') : RopeAt w' q t := by
  obtain ⟨g, h1, h2⟩ := h
  exact ⟨g, (hb.block q (Array.getElem?_eq_some_iff.1 h1).1).trans h1, h2.below hb⟩
theorem RopeAt.lt {w : World} {q : Nat} {t : Tr} (h : RopeAt w q t) : q < w.heap.size := by
  obtain ⟨g, h1, h2⟩ := h
  exact (Array.getElem?_eq_some_iff.1 h1).1
theorem RopeAt.cell {w : World} {q : Nat} {t : Tr} (h : RopeAt w q t) : ∃ g, w.cell? ⟨q, 0, none⟩ = some (.pointer (some ⟨g, 0, none⟩)) ∧ At w t g := by
  obtain ⟨g, h1, h2⟩ := h
  refine ⟨g, ?_, h2⟩
  simp [World.cell?, h1]
structure Tr.Good (t : Tr) : Prop where
  ok : t.Ok
  bd : t.Bd
  nonneg : Nonneg t.row
  len : t.row.length ≤ 1048576
theorem ropeTotal_any {w : World} {q : Nat} {t : Tr} (h : RopeAt w q t) : Calls Tryz.prog 24 #[ptr q] w fun e w' => e = .returned (.int .i64 (t.row.length : Int)) ∧ w' = w := by
  obtain ⟨g, h1, h2⟩ := h.cell
  rw [← Tr.sm_cells]
  exact total_any h2 h1
end Go.Proofs.YtijpfbcippijoaaGreatDoor
