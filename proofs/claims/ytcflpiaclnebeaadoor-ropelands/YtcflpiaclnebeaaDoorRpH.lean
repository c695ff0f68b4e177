import Derived.Test.YtcflpiaclnebeaaDoorRpG
namespace Go.Proofs.YtcflpiaclnebeaaDoor
open Go.RowKit Go.Lib
set_option maxRecDepth 100000

theorem vis_take_append (a b : List (Int × Int)) (c : Nat) : vis ((a ++ b).take c) = if c ≤ a.length then vis (a.take c) else vis a + vis (b.take (c - a.length)) := by
  rw [List.take_append, vis_append]
  by_cases h : c ≤ a.length
  · rw [if_pos h, show c - a.length = 0 by omega]; simp [vis, cnt]
  · rw [if_neg h, List.take_of_length_le (by omega)]
theorem vis_take_le (l : List (Int × Int)) (c : Nat) : vis (l.take c) ≤ vis l := by
  conv => rhs; rw [← List.take_append_drop c l]
  rw [vis_append]; omega
theorem vis_take_piece (rs : List Int) (h : Int) (c : Nat) : vis ((rs.map fun x => (x, h)).take c) = min c (vis (rs.map fun x => (x, h))) ∨ rs.length < c := by
  rw [← List.map_take, vis_piece, vis_piece, List.length_take]
  by_cases e : h = 0
  · rw [if_pos e, if_pos e]; exact .inl rfl
  · rw [if_neg e, if_neg e]; exact .inl (by omega)
set_option maxHeartbeats 1000000 in
/-- All of it. -/
theorem shownBefore_all {t : Tr} {w : World} {g : Nat} (h : At w t g) (hok : t.Ok) (hn : Nonneg t.row) :
    Calls Tryd.prog 40 #[ptr g, .int .i64 (t.row.length : Int)] w fun e w' => e = .returned (.int .i64 (vis (t.row.take t.row.length) : Int)) ∧ Below w.heap.size w w' := by
  rw [List.take_length]
  have HS := smShown_any t.sm
  rw [hok.shown hn] at HS
  have hc := Tr.sm_cells t
  obtain ⟨c0, c1, c2, c3, c4, c5, c6, c7, c8, c9⟩ := h.ten
  have ec : ((t.row.length : Int) == t.sm.cells) = true := by rw [hc]; simp
  rw [← hc]
  rw [← hc] at ec
  clear hc
  unfold ptr
  go_enter Tryd.func40, Tryd.ntmps40
  go_wp2_with fail
  refine (HS _).mono ?_
  rintro e w1 ⟨rfl, hb1⟩
  go_wp2_with fail
  go_ret
  exact ⟨rfl, hb1⟩
set_option maxHeartbeats 4000000 in
theorem shownBefore_dep : ∀ (n : Nat) (t : Tr), t.dep ≤ n → ∀ {w : World} {g : Nat}, At w t g → t.Wf → t.Bd → Nonneg t.row → t.row.length ≤ 2097152 → ∀ c : Nat, c ≤ t.row.length →
    Calls Tryd.prog 40 #[ptr g, .int .i64 (c : Int)] w fun e w' => e = .returned (.int .i64 (vis (t.row.take c) : Int)) ∧ Below w.heap.size w w' := by
  intro n
  induction n with
  | zero =>
    intro t hd w g h hw hb hn hl c hc
    by_cases hall : c = t.row.length
    · subst hall; exact shownBefore_all h (.inr hw) hn
    unfold ptr
    cases t with
    | nil => exact hw.elim
    | node l r st => simp [Tr.dep] at hd
    | leaf rs hid st =>
      have HP := smIsPiece_any (Tr.leaf rs hid st).sm
      rw [Tr.sm_high_leaf] at HP
      have HS := smShown_any (Tr.leaf rs hid st).sm
      rw [Tr.Ok.shown (.inr hw) hn] at HS
      have hcs := Tr.sm_cells (Tr.leaf rs hid st)
      have hv : vis ((Tr.leaf rs hid st).row.take c) = min c (vis (Tr.leaf rs hid st).row) := by
        simp only [Tr.row] at hc ⊢
        rcases vis_take_piece rs hid c with h1 | h1
        · exact h1
        · simp at hc; omega
      rw [hv]
      have hvl := vis_le (Tr.leaf rs hid st).row
      obtain ⟨c0, c1, c2, c3, c4, c5, c6, c7, c8, c9⟩ := h.ten
      have ec : ((c : Int) == (Tr.leaf rs hid st).sm.cells) = false := by rw [hcs, beq_eq_false_iff_ne]; omega
      have hmn := min_run
      clear hv hn hb hw hcs hall
      generalize (Tr.leaf rs hid st).sm = s at *
      generalize vis (Tr.leaf rs hid st).row = v at *
      go_enter Tryd.func40, Tryd.ntmps40
      go_wp2_with fail
      refine (HP _).mono ?_
      rintro e w1 ⟨rfl, hb1⟩
      replace c0 := (hb1.cell (p := ⟨g, 0, none⟩) h.lt).trans c0
      replace c1 := (hb1.cell (p := ⟨g, 1, none⟩) h.lt).trans c1
      replace c2 := (hb1.cell (p := ⟨g, 2, none⟩) h.lt).trans c2
      replace c3 := (hb1.cell (p := ⟨g, 3, none⟩) h.lt).trans c3
      replace c4 := (hb1.cell (p := ⟨g, 4, none⟩) h.lt).trans c4
      replace c5 := (hb1.cell (p := ⟨g, 5, none⟩) h.lt).trans c5
      replace c6 := (hb1.cell (p := ⟨g, 6, none⟩) h.lt).trans c6
      replace c7 := (hb1.cell (p := ⟨g, 7, none⟩) h.lt).trans c7
      replace c8 := (hb1.cell (p := ⟨g, 8, none⟩) h.lt).trans c8
      replace c9 := (hb1.cell (p := ⟨g, 9, none⟩) h.lt).trans c9
      go_wp2_with fail
      refine (HS _).mono ?_
      rintro e w2 ⟨rfl, hb2⟩
      go_wp2_with fail
      go_ret
      exact ⟨ret_i64 (by omega), hb1.trans (hb2.mono hb1.size)⟩
  | succ n ih =>
    intro t hd w g h hw hb hn hl c hc
    by_cases hall : c = t.row.length
    · subst hall; exact shownBefore_all h (.inr hw) hn
    cases t with
    | nil => exact hw.elim
    | leaf rs hid st => exact (ih _ (Nat.zero_le _) h hw hb hn hl c hc)
    | node l r st =>
      have HP := smIsPiece_any (Tr.node l r st).sm
      have hh := hw.high_node
      have hnp : decide ((Tr.node l r st).sm.high ≤ 1) = false := by simp; omega
      rw [hnp] at HP
      have HSD : Hid (∀ W, Below w.heap.size w W → Calls Tryd.prog 63 #[.pointer (some ⟨g, 0, none⟩)] W fun e w' => ∃ gl gr, e = .returned (.tuple #[.pointer (some ⟨gl, 0, none⟩), .pointer (some ⟨gr, 0, none⟩)]) ∧ At w' (l.raise st) gl ∧ At w' (r.raise st) gr ∧ Below W.heap.size W w') := fun W hW => sides_any (h.below hW) hw hb hl
      obtain ⟨c0, c1, c2, c3, c4, c5, c6, c7, c8, c9⟩ := h.ten
      have hcs := Tr.sm_cells (Tr.node l r st)
      have ec : ((c : Int) == (Tr.node l r st).sm.cells) = false := by rw [hcs, beq_eq_false_iff_ne]; omega
      have hbs := hb.sides hw
      have hwl := Tr.wf_raise l hw.1 st
      have hwr := Tr.wf_raise r hw.2 st
      rw [Tr.row_node] at hn hl hc ⊢
      have hnl := nonneg_left hn
      have hnr := nonneg_right hn
      have dl : (l.raise st).dep ≤ n := by rw [Tr.dep_raise]; simp only [Tr.dep] at hd; omega
      have dr : (r.raise st).dep ≤ n := by rw [Tr.dep_raise]; simp only [Tr.dep] at hd; omega
      rw [List.length_append] at hl hc
      rw [vis_take_append]
      have hvl := vis_le (l.raise st).row
      have hvr := vis_le (r.raise st).row
      have HSH := smShown_any (l.raise st).sm
      have hshw := Tr.Ok.shown (.inr hwl) hnl
      rw [hshw] at HSH
      have HCL : Hid ((l.raise st).sm.cells = ((l.raise st).row.length : Int)) := Tr.sm_cells (l.raise st)
      have hcb : 0 ≤ (l.raise st).sm.cells ∧ (l.raise st).sm.cells ≤ 2097152 := by rw [HCL.out]; omega
      have HI : Hid (∀ W gl, At W (l.raise st) gl → c ≤ (l.raise st).row.length → Calls Tryd.prog 40 #[.pointer (some ⟨gl, 0, none⟩), .int .i64 (c : Int)] W fun e w' => e = .returned (.int .i64 (vis ((l.raise st).row.take c) : Int)) ∧ Below W.heap.size W w') := fun W gl hg h1 => ih _ dl hg hwl hbs.1 hnl (by omega) c h1
      have HJ : Hid (∀ W gr, At W (r.raise st) gr → (l.raise st).row.length ≤ c → Calls Tryd.prog 40 #[.pointer (some ⟨gr, 0, none⟩), .int .i64 ((c : Int) - (l.raise st).sm.cells)] W fun e w' => e = .returned (.int .i64 (vis ((r.raise st).row.take (c - (l.raise st).row.length)) : Int)) ∧ Below W.heap.size W w') := fun W gr hg h1 => by
        have := ih _ dr hg hwr hbs.2 hnr (by omega) (c - (l.raise st).row.length) (by omega)
        rw [show ((c - (l.raise st).row.length : Nat) : Int) = (c : Int) - (l.raise st).sm.cells by rw [HCL.out]; omega] at this
        exact this
      have hpr := vis_take_le (r.raise st).row (c - (l.raise st).row.length)
      clear ih hbs hwl hwr hnl hnr dl dr hn hd hnp hshw hb hw h hcs hall
      generalize (Tr.node l r st).sm = s at *
      generalize l.raise st = L at *
      generalize r.raise st = R at *
      unfold ptr
      generalize hVL : vis L.row = vl at *
      generalize hPR : vis (R.row.take (c - L.row.length)) = prr at *
      clear hVL hPR
      have HCL2 := HCL.out
      have hle3 : c ≤ L.row.length ↔ (c : Int) ≤ L.sm.cells := by rw [HCL2]; omega
      by_cases hlt : c ≤ L.row.length
      · rw [if_pos hlt]
        have hlt2 : (c : Int) ≤ L.sm.cells := hle3.1 hlt
        clear hle3 HCL2
        go_enter Tryd.func40, Tryd.ntmps40
        go_wp2_with fail
        refine (HP _).mono ?_
        rintro e w1 ⟨rfl, hb1⟩
        clear c0 c1 c2 c3 c4 c5 c6 c7 c8 c9
        go_wp2_with fail
        refine (HSD.out _ hb1).mono ?_
        rintro e w2 ⟨gl, gr, rfl, hL, hR, hb2⟩
        have hB2 : Below w.heap.size w w2 := hb1.trans (hb2.mono hb1.size)
        obtain ⟨c0, c1, c2, c3, c4, c5, c6, c7, c8, c9⟩ := hL.ten
        have hgl := hL.lt
        clear hb1 hb2
        go_wp2_with fail

        refine (HI.out _ _ hL hlt).mono ?_
        rintro e w4 ⟨rfl, hb4⟩
        go_wp2_with fail
        go_ret
        exact ⟨rfl, hB2.trans (hb4.mono hB2.size)⟩
      · rw [if_neg hlt]
        have hlt2 : ¬ (c : Int) ≤ L.sm.cells := fun e => hlt (hle3.2 e)
        have hge : L.row.length ≤ c := by omega
        clear hle3 HCL2
        have u0 : IntKind.i64.wrap ((c : Int) - L.sm.cells) = (c : Int) - L.sm.cells := IntWalk.i64_in _ (by omega)
        have u1 : IntKind.i64.wrap ((vl : Int) + (prr : Int)) = (vl : Int) + (prr : Int) := IntWalk.i64_in _ (by omega)
        go_enter Tryd.func40, Tryd.ntmps40
        go_wp2_with fail
        refine (HP _).mono ?_
        rintro e w1 ⟨rfl, hb1⟩
        clear c0 c1 c2 c3 c4 c5 c6 c7 c8 c9
        go_wp2_with fail
        refine (HSD.out _ hb1).mono ?_
        rintro e w2 ⟨gl, gr, rfl, hL, hR, hb2⟩
        have hB2 : Below w.heap.size w w2 := hb1.trans (hb2.mono hb1.size)
        obtain ⟨c0, c1, c2, c3, c4, c5, c6, c7, c8, c9⟩ := hL.ten
        have hgl := hL.lt
        clear hb1 hb2
        go_wp2_with fail

        have hcur : Below w2.heap.size w2 w2 := Below.refl _ _
        go_region_held3 (fun W => W.cell? ⟨gl, 0, none⟩ = some (.int .i64 L.sm.cells) ∧ W.cell? ⟨gl, 1, none⟩ = some (.int .i64 L.sm.pieces) ∧ W.cell? ⟨gl, 2, none⟩ = some (.int .i64 L.sm.high) ∧ W.cell? ⟨gl, 3, none⟩ = some (.int .i64 L.sm.least) ∧ W.cell? ⟨gl, 4, none⟩ = some (.int .i64 L.sm.most) ∧ W.cell? ⟨gl, 5, none⟩ = some (.int .i64 L.sm.lowest) ∧ W.cell? ⟨gl, 6, none⟩ = some (.int .i64 L.sm.fc) ∧ W.cell? ⟨gl, 7, none⟩ = some (.int .i64 L.sm.fh) ∧ W.cell? ⟨gl, 8, none⟩ = some (.int .i64 L.sm.lc) ∧ W.cell? ⟨gl, 9, none⟩ = some (.int .i64 L.sm.lh)) (first | exact ⟨c0, c1, c2, c3, c4, c5, c6, c7, c8, c9⟩ | exact ⟨e0, e1, e2, e3, e4, e5, e6, e7, e8, e9⟩)
          (first
            | (go_at_call 38; refine (HSH _).mono ?_; rintro e w4 ⟨rfl, hb4⟩; have hcur : Below w2.heap.size w2 w4 := (by first | exact hcur.trans (hb4.mono hcur.size) | exact hcur.drew.trans (hb4.mono hcur.size)); have e0 := (hcur.cell (p := ⟨gl, 0, none⟩) hgl).trans c0; have e1 := (hcur.cell (p := ⟨gl, 1, none⟩) hgl).trans c1; have e2 := (hcur.cell (p := ⟨gl, 2, none⟩) hgl).trans c2; have e3 := (hcur.cell (p := ⟨gl, 3, none⟩) hgl).trans c3; have e4 := (hcur.cell (p := ⟨gl, 4, none⟩) hgl).trans c4; have e5 := (hcur.cell (p := ⟨gl, 5, none⟩) hgl).trans c5; have e6 := (hcur.cell (p := ⟨gl, 6, none⟩) hgl).trans c6; have e7 := (hcur.cell (p := ⟨gl, 7, none⟩) hgl).trans c7; have e8 := (hcur.cell (p := ⟨gl, 8, none⟩) hgl).trans c8; have e9 := (hcur.cell (p := ⟨gl, 9, none⟩) hgl).trans c9)
            | (go_at_call 40; refine (HJ.out _ _ (hR.below ?_) hge).mono ?_; (first | exact hcur | exact hcur.drew | exact hcur.drew.drew); rintro e w5 ⟨rfl, hb5⟩; have hcur : Below w2.heap.size w2 w5 := (by first | exact hcur.trans (hb5.mono hcur.size) | exact hcur.drew.trans (hb5.mono hcur.size)); have e0 := (hcur.cell (p := ⟨gl, 0, none⟩) hgl).trans c0; have e1 := (hcur.cell (p := ⟨gl, 1, none⟩) hgl).trans c1; have e2 := (hcur.cell (p := ⟨gl, 2, none⟩) hgl).trans c2; have e3 := (hcur.cell (p := ⟨gl, 3, none⟩) hgl).trans c3; have e4 := (hcur.cell (p := ⟨gl, 4, none⟩) hgl).trans c4; have e5 := (hcur.cell (p := ⟨gl, 5, none⟩) hgl).trans c5; have e6 := (hcur.cell (p := ⟨gl, 6, none⟩) hgl).trans c6; have e7 := (hcur.cell (p := ⟨gl, 7, none⟩) hgl).trans c7; have e8 := (hcur.cell (p := ⟨gl, 8, none⟩) hgl).trans c8; have e9 := (hcur.cell (p := ⟨gl, 9, none⟩) hgl).trans c9))
        all_goals
          go_wp2_with fail
          go_ret
          exact ⟨ret_i64 (by omega), hB2.trans (hcur.mono hB2.size)⟩
end Go.Proofs.YtcflpiaclnebeaaDoor
