import Derived.Test.YtcflpiaclnebeaaDoorRpH
namespace Go.Proofs.YtcflpiaclnebeaaDoor
open Go.RowKit Go.Lib
set_option maxRecDepth 100000

/-- A rope in the world: its box, its tree. -/
def RopeAt (w : World) (q : Nat) (t : Tr) : Prop := ∃ g, w.heap[q]? = some (.cells #[.pointer (some ⟨g, 0, none⟩)] 76) ∧ At w t g
theorem RopeAt.below {w w' : World} {q : Nat} {t : Tr} (h : RopeAt w q t) (hb : Below w.heap.size w w') : RopeAt w' q t := by
  obtain ⟨g, h1, h2⟩ := h
  exact ⟨g, (hb.block q (Array.getElem?_eq_some_iff.1 h1).1).trans h1, h2.below hb⟩
theorem RopeAt.lt {w : World} {q : Nat} {t : Tr} (h : RopeAt w q t) : q < w.heap.size := by
  obtain ⟨g, h1, h2⟩ := h
  exact (Array.getElem?_eq_some_iff.1 h1).1
theorem RopeAt.cell {w : World} {q : Nat} {t : Tr} (h : RopeAt w q t) : ∃ g, w.cell? ⟨q, 0, none⟩ = some (.pointer (some ⟨g, 0, none⟩)) ∧ At w t g := by
  obtain ⟨g, h1, h2⟩ := h
  refine ⟨g, ?_, h2⟩
  simp [World.cell?, h1]
/-- A tree as a rope has it between two calls. -/
structure Tr.Good (t : Tr) : Prop where
  ok : t.Ok
  bd : t.Bd
  nonneg : Nonneg t.row
  len : t.row.length ≤ 1048576
theorem ropeTotal_any {w : World} {q : Nat} {t : Tr} (h : RopeAt w q t) : Calls Tryd.prog 13 #[ptr q] w fun e w' => e = .returned (.int .i64 (t.row.length : Int)) ∧ w' = w := by
  obtain ⟨g, h1, h2⟩ := h.cell
  rw [← Tr.sm_cells]
  exact total_any h2 h1
theorem ropeShownR_any {w : World} {q : Nat} {t : Tr} (h : RopeAt w q t) (hg : t.Good) : Calls Tryd.prog 14 #[ptr q] w fun e w' => e = .returned (.int .i64 (vis t.row : Int)) ∧ Below w.heap.size w w' := by
  obtain ⟨g, h1, h2⟩ := h.cell
  rw [← hg.ok.shown hg.nonneg]
  exact ropeShown_any h2 h1
set_option maxHeartbeats 1000000 in
theorem ropeTotalOf_any {w : World} {q : Nat} {t : Tr} (h : RopeAt w q t) (hg : t.Good) (p : Nat) (hp : p ≤ vis t.row) :
    Calls Tryd.prog 15 #[ptr q, .int .i64 (p : Int)] w fun e w' => e = .returned (.tuple #[.int .i64 (place t.row p : Int), .int .i64 0]) ∧ Below w.heap.size w w' := by
  have HS : Hid (∀ W, Below w.heap.size w W → Calls Tryd.prog 14 #[.pointer (some ⟨q, 0, none⟩)] W fun e w' => e = .returned (.int .i64 (vis t.row : Int)) ∧ Below W.heap.size W w') := fun W hW => ropeShownR_any (h.below hW) hg
  have HT : Hid (∀ W, Below w.heap.size w W → Calls Tryd.prog 13 #[.pointer (some ⟨q, 0, none⟩)] W fun e w' => e = .returned (.int .i64 (t.row.length : Int)) ∧ w' = W) := fun W hW => ropeTotal_any (h.below hW)
  obtain ⟨g, hc, hA⟩ := h.cell
  have hql := h.lt
  have hle := vis_le t.row
  have hlen := hg.len
  have HO : Hid (∀ W, Below w.heap.size w W → p < vis t.row → Calls Tryd.prog 39 #[.pointer (some ⟨g, 0, none⟩), .int .i64 (p : Int)] W fun e w' => e = .returned (.int .i64 (place t.row p : Int)) ∧ Below W.heap.size W w') := fun W hW hlt => by
    rcases hg.ok with e | hw
    · rw [e] at hlt; simp [Tr.row, vis, cnt] at hlt
    · exact totalOf_dep t.dep t (Nat.le_refl _) (hA.below hW) hw hg.bd hg.nonneg (by omega) p hlt
  have hend := place_end t.row p
  clear hg h hA
  unfold ptr
  generalize hv : vis t.row = v at *
  generalize ht : t.row.length = n at *
  generalize hpl : place t.row p = pl at *
  clear hv ht hpl
  have hp2 : (p : Int) ≤ (v : Int) := by omega
  by_cases hall : p = v
  · have he : ((p : Int) == (v : Int)) = true := by rw [beq_iff_eq]; omega
    have hpn : pl = n := hend (by omega)
    subst hpn
    clear hend hall HO
    go_enter Tryd.func15, Tryd.ntmps15
    go_wp2_with fail
    refine (HS.out _ (Below.refl _ _)).mono ?_
    rintro e w1 ⟨rfl, hb1⟩
    go_wp2_with fail
    refine (HS.out _ hb1).mono ?_
    rintro e w2 ⟨rfl, hb2⟩
    have hB2 : Below w.heap.size w w2 := hb1.trans (hb2.mono hb1.size)
    go_wp2_with fail
    refine (HT.out _ hB2).mono ?_
    rintro e w3 ⟨rfl, rfl⟩
    go_wp2_with fail
    go_ret2
    exact ⟨rfl, hB2⟩
  · have he : ((p : Int) == (v : Int)) = false := by rw [beq_eq_false_iff_ne]; omega
    have hlt : p < v := by omega
    clear hend hall
    go_enter Tryd.func15, Tryd.ntmps15
    go_wp2_with fail
    refine (HS.out _ (Below.refl _ _)).mono ?_
    rintro e w1 ⟨rfl, hb1⟩
    go_wp2_with fail
    refine (HS.out _ hb1).mono ?_
    rintro e w2 ⟨rfl, hb2⟩
    have hB2 : Below w.heap.size w w2 := hb1.trans (hb2.mono hb1.size)
    have hc2 := (hB2.cell (p := ⟨q, 0, none⟩) hql).trans hc
    go_wp2_with fail
    refine (HO.out _ hB2 hlt).mono ?_
    rintro e w3 ⟨rfl, hb3⟩
    go_wp2_with fail
    go_ret2
    exact ⟨rfl, hB2.trans (hb3.mono hB2.size)⟩
set_option maxHeartbeats 1000000 in
theorem ropeTotalOf_no {w : World} {q : Nat} {t : Tr} (h : RopeAt w q t) (hg : t.Good) (p : Int) (hp : p < 0 ∨ (vis t.row : Int) < p) :
    Calls Tryd.prog 15 #[ptr q, .int .i64 p] w fun e w' => e = .returned (.tuple #[.int .i64 0, .int .i64 12]) ∧ Below w.heap.size w w' := by
  have HS : Hid (∀ W, Below w.heap.size w W → Calls Tryd.prog 14 #[.pointer (some ⟨q, 0, none⟩)] W fun e w' => e = .returned (.int .i64 (vis t.row : Int)) ∧ Below W.heap.size W w') := fun W hW => ropeShownR_any (h.below hW) hg
  clear hg h
  unfold ptr
  by_cases h0 : p < 0
  · clear hp
    go_enter Tryd.func15, Tryd.ntmps15
    go_wp2_with fail
    go_ret2
    exact ⟨rfl, Below.refl _ _⟩
  · have h1 : (vis t.row : Int) < p := by omega
    clear hp
    go_enter Tryd.func15, Tryd.ntmps15
    go_wp2_with fail
    refine (HS.out _ (Below.refl _ _)).mono ?_
    rintro e w1 ⟨rfl, hb1⟩
    go_wp2_with fail
    go_ret2
    exact ⟨rfl, hb1⟩
set_option maxHeartbeats 1000000 in
theorem ropeShownBefore_any {w : World} {q : Nat} {t : Tr} (h : RopeAt w q t) (hg : t.Good) (c : Nat) (hc : c ≤ t.row.length) :
    Calls Tryd.prog 16 #[ptr q, .int .i64 (c : Int)] w fun e w' => e = .returned (.tuple #[.int .i64 (vis (t.row.take c) : Int), .int .i64 0]) ∧ Below w.heap.size w w' := by
  have HT : Hid (∀ W, Below w.heap.size w W → Calls Tryd.prog 13 #[.pointer (some ⟨q, 0, none⟩)] W fun e w' => e = .returned (.int .i64 (t.row.length : Int)) ∧ w' = W) := fun W hW => ropeTotal_any (h.below hW)
  obtain ⟨g, hcl, hA⟩ := h.cell
  have hlen := hg.len
  have HO : Hid (∀ W, Below w.heap.size w W → Calls Tryd.prog 40 #[.pointer (some ⟨g, 0, none⟩), .int .i64 (c : Int)] W fun e w' => e = .returned (.int .i64 (vis (t.row.take c) : Int)) ∧ Below W.heap.size W w') := fun W hW => by
    rcases hg.ok with e | hw
    · have e2 : c = t.row.length := by rw [e] at hc ⊢; simp [Tr.row] at hc ⊢; omega
      have := shownBefore_all (hA.below hW) hg.ok hg.nonneg
      rw [← e2] at this
      exact this
    · exact shownBefore_dep t.dep t (Nat.le_refl _) (hA.below hW) hw hg.bd hg.nonneg (by omega) c hc
  clear hg h hA
  unfold ptr
  generalize vis (t.row.take c) = v at *
  generalize t.row.length = n at *
  go_enter Tryd.func16, Tryd.ntmps16
  go_wp2_with fail
  refine (HT.out _ (Below.refl _ _)).mono ?_
  rintro e w1 ⟨rfl, rfl⟩
  go_wp2_with fail
  refine (HO.out _ (Below.refl _ _)).mono ?_
  rintro e w2 ⟨rfl, hb2⟩
  go_wp2_with fail
  go_ret2
  exact ⟨rfl, hb2⟩
end Go.Proofs.YtcflpiaclnebeaaDoor
