import Derived.Test.YtcflpiaclnebeaaDoorRrEF
namespace Go.Proofs.YtcflpiaclnebeaaDoor
open Go.RowKit Go.Lib
set_option maxRecDepth 100000

theorem cell_set_ne (w : World) {q p : Addr} (v : Value) (h : p.block ≠ q.block) : (w.setCell q v).cell? p = w.cell? p := by
  unfold World.cell?
  rw [Below.heap_setCell _ _ _ _ h]
theorem two_set (w : World) {b : Nat} (u v : Value) {p : Addr} (h : p.block ≠ b) : ((w.setCell ⟨b, 0, none⟩ u).setCell ⟨b, 1, none⟩ v).cell? p = w.cell? p :=
  (cell_set_ne _ _ h).trans (cell_set_ne _ _ h)
theorem two_get {w : World} {b : Nat} {u v x y : Value} {T : TypeId} (h : w.heap[b]? = some (.cells #[x, y] T)) : ((w.setCell ⟨b, 0, none⟩ u).setCell ⟨b, 1, none⟩ v).heap[b]? = some (.cells #[u, v] T) := by
  simp only [World.setCell, Array.getElem?_modify, h, if_true, Option.map_some]
  rfl
set_option maxHeartbeats 4000000 in
theorem cell_leaf {w : World} {rs : List Int} {hid st : Int} {g : Nat} (hA : At w (.leaf rs hid st) g) (j : Nat) (x : Int) (hx : rs[j]? = some x) :
    Calls Tryd.prog 44 #[.pointer (some ⟨g, 0, none⟩), .int .i64 (j : Int)] w fun e w' => e = .returned (.agg #[.int .i32 x, .int .i64 hid]) ∧ Below w.heap.size w w' := by
  have hj : j < rs.length := (List.getElem?_eq_some_iff.1 hx).1
  have HIP := smIsPiece_any (Tr.leaf rs hid st).sm
  rw [Tr.sm_high_leaf] at HIP
  have HH := smHid_any (Tr.leaf rs hid st).sm
  have efh : (Tr.leaf rs hid st).sm.fh = hid := rfl
  rw [efh] at HH
  obtain ⟨c0, c1, c2, c3, c4, c5, c6, c7, c8, c9⟩ := hA.ten
  have hgl := hA.lt
  obtain ⟨a, cap, hN, hrw⟩ := hA
  have c10 := hN.four.1
  obtain ⟨gr, off, y, rfl, hgr, hy, hc⟩ := hrw.rw_.at j hj
  have hcx : w.cell? ⟨gr, off + j, none⟩ = some (.int .i32 x) := by
    rw [hx] at hy; cases hy
    simpa using hc 0 (.int .i32 x) rfl
  have hcap := hrw.rw_.room
  clear hN hrw hc hy efh hx
  generalize (Tr.leaf rs hid st).sm = s at *
  generalize rs.length = n at *
  have hcur : Below w.heap.size w (w.alloc (.cells #[.int .i32 0, .int .i64 0] 36)) := (Below.refl _ _).alloc (Nat.le_refl _) _
  go_enter Tryd.func44, Tryd.ntmps44
  go_wp2_with fail
  refine (HIP _).mono ?_
  rintro e w1 ⟨rfl, hb1⟩
  have hszb : (w.alloc (.cells #[.int .i32 0, .int .i64 0] 36)).heap.size = w.heap.size + 1 := World.size_alloc _ _
  have hB1 : Below w.heap.size w w1 := hcur.trans (hb1.mono (by omega))
  have hbox : w1.heap[w.heap.size]? = some (.cells #[.int .i32 0, .int .i64 0] 36) := (hb1.block _ (by omega)).trans (World.alloc_heap_new _ _)
  have k0 := (hB1.cell (p := ⟨g, 0, none⟩) hgl).trans c0
  have k1 := (hB1.cell (p := ⟨g, 1, none⟩) hgl).trans c1
  have k2 := (hB1.cell (p := ⟨g, 2, none⟩) hgl).trans c2
  have k3 := (hB1.cell (p := ⟨g, 3, none⟩) hgl).trans c3
  have k4 := (hB1.cell (p := ⟨g, 4, none⟩) hgl).trans c4
  have k5 := (hB1.cell (p := ⟨g, 5, none⟩) hgl).trans c5
  have k6 := (hB1.cell (p := ⟨g, 6, none⟩) hgl).trans c6
  have k7 := (hB1.cell (p := ⟨g, 7, none⟩) hgl).trans c7
  have k8 := (hB1.cell (p := ⟨g, 8, none⟩) hgl).trans c8
  have k9 := (hB1.cell (p := ⟨g, 9, none⟩) hgl).trans c9
  have k10 := (hB1.cell (p := ⟨g, 10, none⟩) hgl).trans c10
  have kx := (hB1.cell (p := ⟨gr, off + j, none⟩) hgr).trans hcx
  have hs1 := hB1.size
  have hg1 : g < w1.heap.size := by omega
  have hr1 : gr < w1.heap.size := by omega
  have hbl : w.heap.size < w1.heap.size := (Array.getElem?_eq_some_iff.1 hbox).1
  clear hcur hb1 c0 c1 c2 c3 c4 c5 c6 c7 c8 c9 c10 hcx
  have m0 : w1.cell? ⟨w.heap.size, 0, none⟩ = some (.int .i32 0) := by rw [Lib.cell_of_heap hbox]; rfl
  have m1 : w1.cell? ⟨w.heap.size, 1, none⟩ = some (.int .i64 0) := by rw [Lib.cell_of_heap hbox]; rfl
  have m2 : w1.frozen? ⟨w.heap.size, 0, none⟩ = false := Lib.frozen_of_heap hbox 0
  have m3 : w1.frozen? ⟨w.heap.size, 1, none⟩ = false := Lib.frozen_of_heap hbox 1
  have hcur2 : Below w1.heap.size w1 w1 := Below.refl _ _
  go_wp2_with fail
  go_region_held3 (fun W => W.cell? ⟨g, 0, none⟩ = some (.int .i64 s.cells) ∧ W.cell? ⟨g, 1, none⟩ = some (.int .i64 s.pieces) ∧ W.cell? ⟨g, 2, none⟩ = some (.int .i64 s.high) ∧ W.cell? ⟨g, 3, none⟩ = some (.int .i64 s.least) ∧ W.cell? ⟨g, 4, none⟩ = some (.int .i64 s.most) ∧ W.cell? ⟨g, 5, none⟩ = some (.int .i64 s.lowest) ∧ W.cell? ⟨g, 6, none⟩ = some (.int .i64 s.fc) ∧ W.cell? ⟨g, 7, none⟩ = some (.int .i64 s.fh) ∧ W.cell? ⟨g, 8, none⟩ = some (.int .i64 s.lc) ∧ W.cell? ⟨g, 9, none⟩ = some (.int .i64 s.lh) ∧ W.cell? ⟨g, 10, none⟩ = some (.slice (some ⟨gr, off, none⟩) n cap) ∧ W.cell? ⟨gr, off + j, none⟩ = some (.int .i32 x)) (first | exact ⟨k0, k1, k2, k3, k4, k5, k6, k7, k8, k9, k10, kx⟩ | exact ⟨e0, e1, e2, e3, e4, e5, e6, e7, e8, e9, e10, ex⟩ | exact ⟨(t2 _).trans e0, (t2 _).trans e1, (t2 _).trans e2, (t2 _).trans e3, (t2 _).trans e4, (t2 _).trans e5, (t2 _).trans e6, (t2 _).trans e7, (t2 _).trans e8, (t2 _).trans e9, (t2 _).trans e10, (t3 _).trans ex⟩)
    (first
      | (go_at_call 46; refine (HH _).mono ?_; rintro e w2 ⟨rfl, hb2⟩; have hcur2 : Below w1.heap.size w1 w2 := (by first | exact hcur2.trans (hb2.mono hcur2.size) | exact hcur2.drew.trans (hb2.mono hcur2.size)); have e0 := (hcur2.cell (p := ⟨g, 0, none⟩) hg1).trans k0; have e1 := (hcur2.cell (p := ⟨g, 1, none⟩) hg1).trans k1; have e2 := (hcur2.cell (p := ⟨g, 2, none⟩) hg1).trans k2; have e3 := (hcur2.cell (p := ⟨g, 3, none⟩) hg1).trans k3; have e4 := (hcur2.cell (p := ⟨g, 4, none⟩) hg1).trans k4; have e5 := (hcur2.cell (p := ⟨g, 5, none⟩) hg1).trans k5; have e6 := (hcur2.cell (p := ⟨g, 6, none⟩) hg1).trans k6; have e7 := (hcur2.cell (p := ⟨g, 7, none⟩) hg1).trans k7; have e8 := (hcur2.cell (p := ⟨g, 8, none⟩) hg1).trans k8; have e9 := (hcur2.cell (p := ⟨g, 9, none⟩) hg1).trans k9; have e10 := (hcur2.cell (p := ⟨g, 10, none⟩) hg1).trans k10; have ex := (hcur2.cell (p := ⟨gr, off + j, none⟩) hr1).trans kx; have hbox2 := (hcur2.block _ hbl).trans hbox; have n0 : w2.cell? ⟨w.heap.size, 0, none⟩ = some (.int .i32 0) := (by rw [Lib.cell_of_heap hbox2]; rfl); have n1 : w2.cell? ⟨w.heap.size, 1, none⟩ = some (.int .i64 0) := (by rw [Lib.cell_of_heap hbox2]; rfl); have n2 : w2.frozen? ⟨w.heap.size, 0, none⟩ = false := Lib.frozen_of_heap hbox2 0; have n3 : w2.frozen? ⟨w.heap.size, 1, none⟩ = false := Lib.frozen_of_heap hbox2 1; have t2 := fun o => two_set w2 (b := w.heap.size) (.int .i32 x) (.int .i64 hid) (p := ⟨g, o, none⟩) (Nat.ne_of_lt hgl); have t3 := fun o => two_set w2 (b := w.heap.size) (.int .i32 x) (.int .i64 hid) (p := ⟨gr, o, none⟩) (Nat.ne_of_lt hgr)))
  all_goals
    have hbox3 := two_get (u := .int .i32 x) (v := .int .i64 hid) hbox2
    have hB3 : Below w.heap.size w ((w2.setCell ⟨w.heap.size, 0, none⟩ (.int .i32 x)).setCell ⟨w.heap.size, 1, none⟩ (.int .i64 hid)) := ((hB1.trans (hcur2.mono hB1.size)).setCell (p := ⟨w.heap.size, 0, none⟩) (Nat.le_refl _) _).setCell (p := ⟨w.heap.size, 1, none⟩) (Nat.le_refl _) _
    clear t2 t3
    generalize (w2.setCell ⟨w.heap.size, 0, none⟩ (.int .i32 x)).setCell ⟨w.heap.size, 1, none⟩ (.int .i64 hid) = w3 at *
    have r0 : w3.cell? ⟨w.heap.size, 0, none⟩ = some (.int .i32 x) := by rw [Lib.cell_of_heap hbox3]; rfl
    have r1 : w3.cell? ⟨w.heap.size, 1, none⟩ = some (.int .i64 hid) := by rw [Lib.cell_of_heap hbox3]; rfl
    go_wp2_with fail
    refine bodyPost_ret (v := .agg #[.int .i32 x, .int .i64 hid]) (by simp [results, Tryd.results44, go_sem, r0, r1]) rfl ⟨rfl, hB3⟩
set_option maxHeartbeats 4000000 in
theorem cell_in : ∀ (N : Nat) {t : Tr} {g : Nat} {w : World} (j : Nat) (x hid : Int), t.sm.high ≤ (N : Int) → At w t g → t.Fine → t.row.length ≤ 2097152 → t.row[j]? = some (x, hid) →
    Calls Tryd.prog 44 #[.pointer (some ⟨g, 0, none⟩), .int .i64 (j : Int)] w fun e w' => e = .returned (.agg #[.int .i32 x, .int .i64 hid]) ∧ Below w.heap.size w w' := by
  intro N
  induction N with
  | zero => intro t g w j x hid hN hA hf hn hx; have := hf.pos; omega
  | succ N ih =>
    intro t g w j x hid hN hA hf hn hx
    by_cases hh2 : t.sm.high ≤ 1
    · cases t with
      | nil => exact hf.wf.elim
      | node l r st => have := hf.wf.high_node; omega
      | leaf rs h st =>
        simp only [Tr.row, List.getElem?_map, Option.map_eq_some_iff] at hx
        obtain ⟨y, hy, e⟩ := hx
        cases e
        exact cell_leaf hA j _ hy
    replace hh2 : 2 ≤ t.sm.high := by omega
    have HIP := smIsPiece_any t.sm
    rw [show decide (t.sm.high ≤ 1) = false by simp; omega] at HIP
    have HIH : Hid (∀ {t : Tr} {g : Nat} {w : World} (j : Nat) (x hid : Int), t.sm.high ≤ (N : Int) → At w t g → t.Fine → t.row.length ≤ 2097152 → t.row[j]? = some (x, hid) → Calls Tryd.prog 44 #[.pointer (some ⟨g, 0, none⟩), .int .i64 (j : Int)] w fun e w' => e = .returned (.agg #[.int .i32 x, .int .i64 hid]) ∧ Below w.heap.size w w') := ih
    clear ih
    have hjl : j < t.row.length := (List.getElem?_eq_some_iff.1 hx).1
    obtain ⟨c0, c1, c2, c3, c4, c5, c6, c7, c8, c9⟩ := hA.ten
    have hgl := hA.lt
    have HX : Hid (t.row[j]? = some (x, hid)) := hx
    clear hx
    have hcur : Below w.heap.size w (w.alloc (.cells #[.int .i32 0, .int .i64 0] 36)) := (Below.refl _ _).alloc (Nat.le_refl _) _
    have hnew := World.alloc_heap_new w (.cells #[.int .i32 0, .int .i64 0] 36)
    have hszb : (w.alloc (.cells #[.int .i32 0, .int .i64 0] 36)).heap.size = w.heap.size + 1 := World.size_alloc _ _
    go_enter Tryd.func44, Tryd.ntmps44
    go_wp2_with fail
    refine (HIP _).mono ?_
    rintro e w1 ⟨rfl, hb1⟩
    have hB1 : Below w.heap.size w w1 := hcur.trans (hb1.mono (by omega))
    have hbox1 := (hb1.block _ (by omega)).trans hnew
    clear c0 c1 c2 c3 c4 c5 c6 c7 c8 c9 hnew
    go_wp2_with fail
    refine (sides_p (hA.below hB1) hf hh2 (by omega)).mono ?_
    rintro e w3 ⟨gl, gr, tl, tr, rfl, hl, hr, hs, hb3⟩
    have hB3 : Below w.heap.size w w3 := hB1.trans (hb3.mono hB1.size)
    have hbox3 := (hb3.block _ (Array.getElem?_eq_some_iff.1 hbox1).1).trans hbox1
    have hlen := hs.len
    have q0 := hs.high
    have d0 := hl.cells
    have hlc := tl.sm_cells
    have HRW : Hid (t.row = tl.row ++ tr.row) := by
      show _ = _
      rw [Tr.row_lv, hs.lv, rowOf_append, ← Tr.row_lv, ← Tr.row_lv]
    have hfl := hs.fl
    have hfr := hs.fr
    have hp1 := hfl.pos
    have hp2 := hfr.pos
    rw [hlc] at d0
    clear hlc hs
    by_cases hlt : j < tl.row.length
    · have HC := HIH.out j x hid (by omega) hl hfl (by omega) (by have := HX.out; rw [HRW.out, List.getElem?_append_left hlt] at this; exact this)
      have hlt2 : (j : Int) < (tl.row.length : Int) := by omega
      clear hl hr
      generalize (tl.row.length : Int) = TL at *
      go_wp2_with fail
      refine HC.mono ?_
      rintro e w4 ⟨rfl, hb4⟩
      have hB4 : Below w.heap.size w w4 := hB3.trans (hb4.mono hB3.size)
      have hbox4 : w4.heap[w.heap.size]? = some (.cells #[.int .i32 0, .int .i64 0] 36) := (hb4.block _ (by have := (Array.getElem?_eq_some_iff.1 hbox3).1; omega)).trans hbox3
      have n0 : w4.cell? ⟨w.heap.size, 0, none⟩ = some (.int .i32 0) := by rw [Lib.cell_of_heap hbox4]; rfl
      have n1 : w4.cell? ⟨w.heap.size, 1, none⟩ = some (.int .i64 0) := by rw [Lib.cell_of_heap hbox4]; rfl
      have n2 : w4.frozen? ⟨w.heap.size, 0, none⟩ = false := Lib.frozen_of_heap hbox4 0
      have n3 : w4.frozen? ⟨w.heap.size, 1, none⟩ = false := Lib.frozen_of_heap hbox4 1
      have hbox5 := two_get (u := .int .i32 x) (v := .int .i64 hid) hbox4
      have r0 : ((w4.setCell ⟨w.heap.size, 0, none⟩ (.int .i32 x)).setCell ⟨w.heap.size, 1, none⟩ (.int .i64 hid)).cell? ⟨w.heap.size, 0, none⟩ = some (.int .i32 x) := by rw [Lib.cell_of_heap hbox5]; rfl
      have r1 : ((w4.setCell ⟨w.heap.size, 0, none⟩ (.int .i32 x)).setCell ⟨w.heap.size, 1, none⟩ (.int .i64 hid)).cell? ⟨w.heap.size, 1, none⟩ = some (.int .i64 hid) := by rw [Lib.cell_of_heap hbox5]; rfl
      have hB5 : Below w.heap.size w ((w4.setCell ⟨w.heap.size, 0, none⟩ (.int .i32 x)).setCell ⟨w.heap.size, 1, none⟩ (.int .i64 hid)) := (hB4.setCell (p := ⟨w.heap.size, 0, none⟩) (Nat.le_refl _) _).setCell (p := ⟨w.heap.size, 1, none⟩) (Nat.le_refl _) _
      go_wp2_with fail
      refine bodyPost_ret (v := .agg #[.int .i32 x, .int .i64 hid]) (by simp [results, Tryd.results44, go_sem, r0, r1]) rfl ⟨rfl, hB5⟩
    · have HC := HIH.out (j - tl.row.length) x hid (by omega) hr hfr (by omega) (by have := HX.out; rw [HRW.out, List.getElem?_append_right (by omega)] at this; exact this)
      have hlt2 : ¬ (j : Int) < (tl.row.length : Int) := by omega
      have hcast : ((j - tl.row.length : Nat) : Int) = (j : Int) - (tl.row.length : Int) := by omega
      rw [hcast] at HC
      have htl : (tl.row.length : Int) ≤ 2097152 := by omega
      have htl0 : 0 ≤ (tl.row.length : Int) := by omega
      have hj2 : (j : Int) ≤ 2097152 := by omega
      clear hl hr hcast
      generalize (tl.row.length : Int) = TL at *
      go_wp2_with fail
      refine HC.mono ?_
      rintro e w4 ⟨rfl, hb4⟩
      have hB4 : Below w.heap.size w w4 := hB3.trans (hb4.mono hB3.size)
      have hbox4 : w4.heap[w.heap.size]? = some (.cells #[.int .i32 0, .int .i64 0] 36) := (hb4.block _ (by have := (Array.getElem?_eq_some_iff.1 hbox3).1; omega)).trans hbox3
      have n0 : w4.cell? ⟨w.heap.size, 0, none⟩ = some (.int .i32 0) := by rw [Lib.cell_of_heap hbox4]; rfl
      have n1 : w4.cell? ⟨w.heap.size, 1, none⟩ = some (.int .i64 0) := by rw [Lib.cell_of_heap hbox4]; rfl
      have n2 : w4.frozen? ⟨w.heap.size, 0, none⟩ = false := Lib.frozen_of_heap hbox4 0
      have n3 : w4.frozen? ⟨w.heap.size, 1, none⟩ = false := Lib.frozen_of_heap hbox4 1
      have hbox5 := two_get (u := .int .i32 x) (v := .int .i64 hid) hbox4
      have r0 : ((w4.setCell ⟨w.heap.size, 0, none⟩ (.int .i32 x)).setCell ⟨w.heap.size, 1, none⟩ (.int .i64 hid)).cell? ⟨w.heap.size, 0, none⟩ = some (.int .i32 x) := by rw [Lib.cell_of_heap hbox5]; rfl
      have r1 : ((w4.setCell ⟨w.heap.size, 0, none⟩ (.int .i32 x)).setCell ⟨w.heap.size, 1, none⟩ (.int .i64 hid)).cell? ⟨w.heap.size, 1, none⟩ = some (.int .i64 hid) := by rw [Lib.cell_of_heap hbox5]; rfl
      have hB5 : Below w.heap.size w ((w4.setCell ⟨w.heap.size, 0, none⟩ (.int .i32 x)).setCell ⟨w.heap.size, 1, none⟩ (.int .i64 hid)) := (hB4.setCell (p := ⟨w.heap.size, 0, none⟩) (Nat.le_refl _) _).setCell (p := ⟨w.heap.size, 1, none⟩) (Nat.le_refl _) _
      go_wp2_with fail
      refine bodyPost_ret (v := .agg #[.int .i32 x, .int .i64 hid]) (by simp [results, Tryd.results44, go_sem, r0, r1]) rfl ⟨rfl, hB5⟩
end Go.Proofs.YtcflpiaclnebeaaDoor
