import Derived.Test.YtcflpiaclnebeaaDoorRpF
namespace Go.Proofs.YtcflpiaclnebeaaDoor
open Go.RowKit Go.Lib
set_option maxRecDepth 100000

def Tr.dep : Tr → Nat
  | .nil => 0
  | .leaf _ _ _ => 0
  | .node l r _ => max l.dep r.dep + 1
theorem Tr.dep_raise (t : Tr) (d : Int) : (t.raise d).dep = t.dep := by cases t <;> rfl
theorem At.ten {w : World} {t : Tr} {g : Nat} (h : At w t g) : w.cell? ⟨g, 0, none⟩ = some (.int .i64 t.sm.cells) ∧ w.cell? ⟨g, 1, none⟩ = some (.int .i64 t.sm.pieces) ∧ w.cell? ⟨g, 2, none⟩ = some (.int .i64 t.sm.high) ∧ w.cell? ⟨g, 3, none⟩ = some (.int .i64 t.sm.least) ∧ w.cell? ⟨g, 4, none⟩ = some (.int .i64 t.sm.most) ∧ w.cell? ⟨g, 5, none⟩ = some (.int .i64 t.sm.lowest) ∧ w.cell? ⟨g, 6, none⟩ = some (.int .i64 t.sm.fc) ∧ w.cell? ⟨g, 7, none⟩ = some (.int .i64 t.sm.fh) ∧ w.cell? ⟨g, 8, none⟩ = some (.int .i64 t.sm.lc) ∧ w.cell? ⟨g, 9, none⟩ = some (.int .i64 t.sm.lh) := by
  obtain ⟨an, nn, cn, pl, pr, st, hn⟩ := h.node
  exact hn.ten
set_option maxHeartbeats 4000000 in
theorem totalOf_dep : ∀ (n : Nat) (t : Tr), t.dep ≤ n → ∀ {w : World} {g : Nat}, At w t g → t.Wf → t.Bd → Nonneg t.row → t.row.length ≤ 2097152 → ∀ p : Nat, p < vis t.row →
    Calls Tryd.prog 39 #[ptr g, .int .i64 (p : Int)] w fun e w' => e = .returned (.int .i64 (place t.row p : Int)) ∧ Below w.heap.size w w' := by
  intro n
  induction n with
  | zero =>
    intro t hd w g h hw hb hn hl p hp
    unfold ptr
    cases t with
    | nil => exact hw.elim
    | node l r st => simp [Tr.dep] at hd
    | leaf rs hid st =>
      have HP := smIsPiece_any (Tr.leaf rs hid st).sm
      rw [Tr.sm_high_leaf] at HP
      have epl : place (Tr.leaf rs hid st).row p = p := by
        simp only [Tr.row] at hp ⊢
        rw [vis_piece] at hp
        by_cases e : hid = 0
        · subst e; rw [if_pos rfl] at hp; exact place_piece rs p hp
        · rw [if_neg e] at hp; omega
      rw [epl]
      obtain ⟨c0, c1, c2, c3, c4, c5, c6, c7, c8, c9⟩ := h.ten
      clear epl hp hn hb hw
      generalize (Tr.leaf rs hid st).sm = s at *
      go_enter Tryd.func39, Tryd.ntmps39
      go_wp2_with fail
      refine (HP _).mono ?_
      rintro e w1 ⟨rfl, hb1⟩
      go_wp2_with fail
      go_ret
      exact ⟨rfl, hb1⟩
  | succ n ih =>
    intro t hd w g h hw hb hn hl p hp
    cases t with
    | nil => exact hw.elim
    | leaf rs hid st => exact (ih _ (Nat.zero_le _) h hw hb hn hl p hp)
    | node l r st =>
      have HP := smIsPiece_any (Tr.node l r st).sm
      have hh := hw.high_node
      have hnp : decide ((Tr.node l r st).sm.high ≤ 1) = false := by simp; omega
      rw [hnp] at HP
      have HSD : Hid (∀ W, Below w.heap.size w W → Calls Tryd.prog 63 #[.pointer (some ⟨g, 0, none⟩)] W fun e w' => ∃ gl gr, e = .returned (.tuple #[.pointer (some ⟨gl, 0, none⟩), .pointer (some ⟨gr, 0, none⟩)]) ∧ At w' (l.raise st) gl ∧ At w' (r.raise st) gr ∧ Below W.heap.size W w') := fun W hW => sides_any (h.below hW) hw hb hl
      obtain ⟨c0, c1, c2, c3, c4, c5, c6, c7, c8, c9⟩ := h.ten
      have hbs := hb.sides hw
      have hwl := Tr.wf_raise l hw.1 st
      have hwr := Tr.wf_raise r hw.2 st
      rw [Tr.row_node] at hn hl hp ⊢
      have hnl := nonneg_left hn
      have hnr := nonneg_right hn
      have dl : (l.raise st).dep ≤ n := by rw [Tr.dep_raise]; simp only [Tr.dep] at hd; omega
      have dr : (r.raise st).dep ≤ n := by rw [Tr.dep_raise]; simp only [Tr.dep] at hd; omega
      rw [List.length_append] at hl
      rw [vis_append] at hp
      rw [place_append]
      have hvl := vis_le (l.raise st).row
      have hvr := vis_le (r.raise st).row
      have HSH := smShown_any (l.raise st).sm
      have hshw := Tr.Ok.shown (.inr hwl) hnl
      rw [hshw] at HSH
      have HCL : Hid ((l.raise st).sm.cells = ((l.raise st).row.length : Int)) := Tr.sm_cells (l.raise st)
      have hcb : 0 ≤ (l.raise st).sm.cells ∧ (l.raise st).sm.cells ≤ 2097152 := by rw [HCL.out]; omega
      have HI : Hid (∀ W gl, At W (l.raise st) gl → p < vis (l.raise st).row → Calls Tryd.prog 39 #[.pointer (some ⟨gl, 0, none⟩), .int .i64 (p : Int)] W fun e w' => e = .returned (.int .i64 (place (l.raise st).row p : Int)) ∧ Below W.heap.size W w') := fun W gl hg h1 => ih _ dl hg hwl hbs.1 hnl (by omega) p h1
      have HJ : Hid (∀ W gr, At W (r.raise st) gr → vis (l.raise st).row ≤ p → Calls Tryd.prog 39 #[.pointer (some ⟨gr, 0, none⟩), .int .i64 ((p : Int) - (vis (l.raise st).row : Int))] W fun e w' => e = .returned (.int .i64 (place (r.raise st).row (p - vis (l.raise st).row) : Int)) ∧ Below W.heap.size W w') := fun W gr hg h1 => by
        have := ih _ dr hg hwr hbs.2 hnr (by omega) (p - vis (l.raise st).row) (by omega)
        rw [show ((p - vis (l.raise st).row : Nat) : Int) = (p : Int) - (vis (l.raise st).row : Int) by omega] at this
        exact this
      have hpr := place_le (r.raise st).row (p - vis (l.raise st).row)
      clear ih hbs hwl hwr hnl hnr dl dr hn hd hnp hshw hb hw h
      generalize (Tr.node l r st).sm = s at *
      generalize l.raise st = L at *
      generalize r.raise st = R at *
      have hcur0 : Below w.heap.size w w := Below.refl _ _
      unfold ptr
      generalize hVL : vis L.row = vl at *
      generalize hPR : place R.row (p - vl) = prr at *
      clear hVL hPR
      by_cases hlt : p < vl
      · rw [if_pos hlt]
        have hlt2 : (p : Int) < (vl : Int) := by omega
        go_enter Tryd.func39, Tryd.ntmps39
        go_wp2_with fail
        refine (HP _).mono ?_
        rintro e w1 ⟨rfl, hb1⟩
        clear c0 c1 c2 c3 c4 c5 c6 c7 c8 c9
        go_wp2_with fail
        refine (HSD.out _ hb1).mono ?_
        rintro e w2 ⟨gl, gr, rfl, hL, hR, hb2⟩
        have hB2 : Below w.heap.size w w2 := hb1.trans (hb2.mono hb1.size)
        obtain ⟨c0, c1, c2, c3, c4, c5, c6, c7, c8, c9⟩ := hL.ten
        have hgl := hL.lt
        clear hb1 hb2
        go_wp2_with fail
        refine (HSH _).mono ?_
        rintro e w3 ⟨rfl, hb3⟩
        have hB3 : Below w.heap.size w w3 := hB2.trans (hb3.mono hB2.size)
        go_wp2_with fail
        refine (HI.out _ _ (hL.below hb3) hlt).mono ?_
        rintro e w4 ⟨rfl, hb4⟩
        go_wp2_with fail
        go_ret
        exact ⟨rfl, hB3.trans (hb4.mono hB3.size)⟩
      · rw [if_neg hlt]
        have hlt2 : ¬ (p : Int) < (vl : Int) := by omega
        have hge : vl ≤ p := by omega
        have u0 : IntKind.i64.wrap ((p : Int) - (vl : Int)) = (p : Int) - (vl : Int) := IntWalk.i64_in _ (by omega)
        have u1 : IntKind.i64.wrap (L.sm.cells + (prr : Int)) = L.sm.cells + (prr : Int) := IntWalk.i64_in _ (by omega)
        go_enter Tryd.func39, Tryd.ntmps39
        go_wp2_with fail
        refine (HP _).mono ?_
        rintro e w1 ⟨rfl, hb1⟩
        clear c0 c1 c2 c3 c4 c5 c6 c7 c8 c9
        go_wp2_with fail
        refine (HSD.out _ hb1).mono ?_
        rintro e w2 ⟨gl, gr, rfl, hL, hR, hb2⟩
        have hB2 : Below w.heap.size w w2 := hb1.trans (hb2.mono hb1.size)
        obtain ⟨c0, c1, c2, c3, c4, c5, c6, c7, c8, c9⟩ := hL.ten
        have hgl := hL.lt
        clear hb1 hb2
        go_wp2_with fail
        refine (HSH _).mono ?_
        rintro e w3 ⟨rfl, hb3⟩
        have hB3 : Below w.heap.size w w3 := hB2.trans (hb3.mono hB2.size)
        have hcur : Below w2.heap.size w2 w3 := hb3
        replace c0 := (hb3.cell (p := ⟨gl, 0, none⟩) hgl).trans c0
        replace c1 := (hb3.cell (p := ⟨gl, 1, none⟩) hgl).trans c1
        replace c2 := (hb3.cell (p := ⟨gl, 2, none⟩) hgl).trans c2
        replace c3 := (hb3.cell (p := ⟨gl, 3, none⟩) hgl).trans c3
        replace c4 := (hb3.cell (p := ⟨gl, 4, none⟩) hgl).trans c4
        replace c5 := (hb3.cell (p := ⟨gl, 5, none⟩) hgl).trans c5
        replace c6 := (hb3.cell (p := ⟨gl, 6, none⟩) hgl).trans c6
        replace c7 := (hb3.cell (p := ⟨gl, 7, none⟩) hgl).trans c7
        replace c8 := (hb3.cell (p := ⟨gl, 8, none⟩) hgl).trans c8
        replace c9 := (hb3.cell (p := ⟨gl, 9, none⟩) hgl).trans c9
        have hgl3 : gl < w3.heap.size := by have := hb3.size; omega
        have hL3 := hL.below hb3
        have hR3 := hR.below hb3
        clear hL hR hlt hB2 hb3 hcur
        have hcur : Below w3.heap.size w3 w3 := Below.refl _ _
        go_wp2_with fail
        go_region_held3 (fun W => W.cell? ⟨gl, 0, none⟩ = some (.int .i64 L.sm.cells) ∧ W.cell? ⟨gl, 1, none⟩ = some (.int .i64 L.sm.pieces) ∧ W.cell? ⟨gl, 2, none⟩ = some (.int .i64 L.sm.high) ∧ W.cell? ⟨gl, 3, none⟩ = some (.int .i64 L.sm.least) ∧ W.cell? ⟨gl, 4, none⟩ = some (.int .i64 L.sm.most) ∧ W.cell? ⟨gl, 5, none⟩ = some (.int .i64 L.sm.lowest) ∧ W.cell? ⟨gl, 6, none⟩ = some (.int .i64 L.sm.fc) ∧ W.cell? ⟨gl, 7, none⟩ = some (.int .i64 L.sm.fh) ∧ W.cell? ⟨gl, 8, none⟩ = some (.int .i64 L.sm.lc) ∧ W.cell? ⟨gl, 9, none⟩ = some (.int .i64 L.sm.lh)) (first | exact ⟨c0, c1, c2, c3, c4, c5, c6, c7, c8, c9⟩ | exact ⟨e0, e1, e2, e3, e4, e5, e6, e7, e8, e9⟩)
          (first
            | (go_at_call 38; refine (HSH _).mono ?_; rintro e w4 ⟨rfl, hb4⟩; have hcur : Below w3.heap.size w3 w4 := (by first | exact hcur.trans (hb4.mono hcur.size) | exact hcur.drew.trans (hb4.mono hcur.size)); have e0 := (hcur.cell (p := ⟨gl, 0, none⟩) hgl3).trans c0; have e1 := (hcur.cell (p := ⟨gl, 1, none⟩) hgl3).trans c1; have e2 := (hcur.cell (p := ⟨gl, 2, none⟩) hgl3).trans c2; have e3 := (hcur.cell (p := ⟨gl, 3, none⟩) hgl3).trans c3; have e4 := (hcur.cell (p := ⟨gl, 4, none⟩) hgl3).trans c4; have e5 := (hcur.cell (p := ⟨gl, 5, none⟩) hgl3).trans c5; have e6 := (hcur.cell (p := ⟨gl, 6, none⟩) hgl3).trans c6; have e7 := (hcur.cell (p := ⟨gl, 7, none⟩) hgl3).trans c7; have e8 := (hcur.cell (p := ⟨gl, 8, none⟩) hgl3).trans c8; have e9 := (hcur.cell (p := ⟨gl, 9, none⟩) hgl3).trans c9)
            | (go_at_call 39; refine (HJ.out _ _ (hR3.below ?_) hge).mono ?_; (first | exact hcur | exact hcur.drew | exact hcur.drew.drew); rintro e w5 ⟨rfl, hb5⟩; have hcur : Below w3.heap.size w3 w5 := (by first | exact hcur.trans (hb5.mono hcur.size) | exact hcur.drew.trans (hb5.mono hcur.size)); have e0 := (hcur.cell (p := ⟨gl, 0, none⟩) hgl3).trans c0; have e1 := (hcur.cell (p := ⟨gl, 1, none⟩) hgl3).trans c1; have e2 := (hcur.cell (p := ⟨gl, 2, none⟩) hgl3).trans c2; have e3 := (hcur.cell (p := ⟨gl, 3, none⟩) hgl3).trans c3; have e4 := (hcur.cell (p := ⟨gl, 4, none⟩) hgl3).trans c4; have e5 := (hcur.cell (p := ⟨gl, 5, none⟩) hgl3).trans c5; have e6 := (hcur.cell (p := ⟨gl, 6, none⟩) hgl3).trans c6; have e7 := (hcur.cell (p := ⟨gl, 7, none⟩) hgl3).trans c7; have e8 := (hcur.cell (p := ⟨gl, 8, none⟩) hgl3).trans c8; have e9 := (hcur.cell (p := ⟨gl, 9, none⟩) hgl3).trans c9))
        all_goals
          go_wp2_with fail
          go_ret
          refine ⟨?_, hB3.trans (hcur.mono hB3.size)⟩
          rw [HCL.out]
          go_num
end Go.Proofs.YtcflpiaclnebeaaDoor
