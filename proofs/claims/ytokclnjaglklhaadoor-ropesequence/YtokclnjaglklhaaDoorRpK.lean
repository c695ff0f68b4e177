import Derived.Test.YtokclnjaglklhaaDoorRpJ
namespace Go.Proofs.YtokclnjaglklhaaDoor
open Go.RowKit Go.Lib
set_option maxRecDepth 100000

theorem cell_al {w : World} {p : Addr} {v : Value} (h : w.cell? p = some v) (o : Obj) : (w.alloc o).cell? p = some v :=
  (((Below.refl w.heap.size w).alloc (Nat.le_refl _) o).cell (p := p) (World.block_lt_of_cell? _ _ h)).trans h
set_option maxHeartbeats 4000000 in
theorem paired_sm {w : World} {a b : Tr} {ga gb : Nat} (ha : At w a ga) (hb : At w b gb) (sa : SmBd a.sm) (sb : SmBd b.sm) :
    Calls Tryd.prog 34 #[ptr ga, ptr gb] w fun e w' => ∃ g, e = .returned (ptr g) ∧ NodeAt w' g (a.sm.both b.sm) (.slice none 0 0) (.pointer (some ⟨ga, 0, none⟩)) (.pointer (some ⟨gb, 0, none⟩)) 0 ∧ Below w.heap.size w w' := by
  have HW := smWith_any a.sm b.sm sa sb
  obtain ⟨c0, c1, c2, c3, c4, c5, c6, c7, c8, c9⟩ := ha.ten
  obtain ⟨d0, d1, d2, d3, d4, d5, d6, d7, d8, d9⟩ := hb.ten
  have hga := ha.lt
  have hgb := hb.lt
  clear ha hb sa sb
  unfold ptr
  have hcur : Below w.heap.size w w := Below.refl _ _
  generalize a.sm = sa at *
  generalize b.sm = sb at *
  have HV : Hid ((sa.both sb).vals = #[.int .i64 (sa.both sb).cells, .int .i64 (sa.both sb).pieces, .int .i64 (sa.both sb).high, .int .i64 (sa.both sb).least, .int .i64 (sa.both sb).most, .int .i64 (sa.both sb).lowest, .int .i64 (sa.both sb).fc, .int .i64 (sa.both sb).fh, .int .i64 (sa.both sb).lc, .int .i64 (sa.both sb).lh]) := rfl
  rw [HV.out] at HW
  generalize sa.both sb = sc at *
  clear HV
  go_enter Tryd.func34, Tryd.ntmps34
  go_wp2_with fail
  go_region_held3 (fun W => W.cell? ⟨ga, 0, none⟩ = some (.int .i64 sa.cells) ∧ W.cell? ⟨ga, 1, none⟩ = some (.int .i64 sa.pieces) ∧ W.cell? ⟨ga, 2, none⟩ = some (.int .i64 sa.high) ∧ W.cell? ⟨ga, 3, none⟩ = some (.int .i64 sa.least) ∧ W.cell? ⟨ga, 4, none⟩ = some (.int .i64 sa.most) ∧ W.cell? ⟨ga, 5, none⟩ = some (.int .i64 sa.lowest) ∧ W.cell? ⟨ga, 6, none⟩ = some (.int .i64 sa.fc) ∧ W.cell? ⟨ga, 7, none⟩ = some (.int .i64 sa.fh) ∧ W.cell? ⟨ga, 8, none⟩ = some (.int .i64 sa.lc) ∧ W.cell? ⟨ga, 9, none⟩ = some (.int .i64 sa.lh) ∧ W.cell? ⟨gb, 0, none⟩ = some (.int .i64 sb.cells) ∧ W.cell? ⟨gb, 1, none⟩ = some (.int .i64 sb.pieces) ∧ W.cell? ⟨gb, 2, none⟩ = some (.int .i64 sb.high) ∧ W.cell? ⟨gb, 3, none⟩ = some (.int .i64 sb.least) ∧ W.cell? ⟨gb, 4, none⟩ = some (.int .i64 sb.most) ∧ W.cell? ⟨gb, 5, none⟩ = some (.int .i64 sb.lowest) ∧ W.cell? ⟨gb, 6, none⟩ = some (.int .i64 sb.fc) ∧ W.cell? ⟨gb, 7, none⟩ = some (.int .i64 sb.fh) ∧ W.cell? ⟨gb, 8, none⟩ = some (.int .i64 sb.lc) ∧ W.cell? ⟨gb, 9, none⟩ = some (.int .i64 sb.lh)) (first | exact ⟨c0, c1, c2, c3, c4, c5, c6, c7, c8, c9, d0, d1, d2, d3, d4, d5, d6, d7, d8, d9⟩ | exact ⟨e0, e1, e2, e3, e4, e5, e6, e7, e8, e9, f0, f1, f2, f3, f4, f5, f6, f7, f8, f9⟩ | exact ⟨cell_al e0 _, cell_al e1 _, cell_al e2 _, cell_al e3 _, cell_al e4 _, cell_al e5 _, cell_al e6 _, cell_al e7 _, cell_al e8 _, cell_al e9 _, cell_al f0 _, cell_al f1 _, cell_al f2 _, cell_al f3 _, cell_al f4 _, cell_al f5 _, cell_al f6 _, cell_al f7 _, cell_al f8 _, cell_al f9 _⟩)
    (first
      | (go_at_call 48; refine (HW _).mono ?_; rintro e w1 ⟨rfl, hb1⟩; have hcur : Below w.heap.size w w1 := (by first | exact hcur.trans (hb1.mono hcur.size) | exact hcur.drew.trans (hb1.mono hcur.size)); have e0 := (hcur.cell (p := ⟨ga, 0, none⟩) hga).trans c0; have e1 := (hcur.cell (p := ⟨ga, 1, none⟩) hga).trans c1; have e2 := (hcur.cell (p := ⟨ga, 2, none⟩) hga).trans c2; have e3 := (hcur.cell (p := ⟨ga, 3, none⟩) hga).trans c3; have e4 := (hcur.cell (p := ⟨ga, 4, none⟩) hga).trans c4; have e5 := (hcur.cell (p := ⟨ga, 5, none⟩) hga).trans c5; have e6 := (hcur.cell (p := ⟨ga, 6, none⟩) hga).trans c6; have e7 := (hcur.cell (p := ⟨ga, 7, none⟩) hga).trans c7; have e8 := (hcur.cell (p := ⟨ga, 8, none⟩) hga).trans c8; have e9 := (hcur.cell (p := ⟨ga, 9, none⟩) hga).trans c9; have f0 := (hcur.cell (p := ⟨gb, 0, none⟩) hgb).trans d0; have f1 := (hcur.cell (p := ⟨gb, 1, none⟩) hgb).trans d1; have f2 := (hcur.cell (p := ⟨gb, 2, none⟩) hgb).trans d2; have f3 := (hcur.cell (p := ⟨gb, 3, none⟩) hgb).trans d3; have f4 := (hcur.cell (p := ⟨gb, 4, none⟩) hgb).trans d4; have f5 := (hcur.cell (p := ⟨gb, 5, none⟩) hgb).trans d5; have f6 := (hcur.cell (p := ⟨gb, 6, none⟩) hgb).trans d6; have f7 := (hcur.cell (p := ⟨gb, 7, none⟩) hgb).trans d7; have f8 := (hcur.cell (p := ⟨gb, 8, none⟩) hgb).trans d8; have f9 := (hcur.cell (p := ⟨gb, 9, none⟩) hgb).trans d9))
  all_goals
    go_wp2_with fail
    go_ret
    exact ⟨w1.heap.size, rfl, heap_alloc_new _ _, hcur.alloc hcur.size _⟩
/-- A node of two sides. -/
theorem paired_any {w : World} {a b : Tr} {ga gb : Nat} (ha : At w a ga) (hb : At w b gb) (hwa : a.Ok) (hwb : b.Ok) (bda : a.Bd) (bdb : b.Bd) (hn : a.row.length + b.row.length ≤ 2097152) :
    Calls Tryd.prog 34 #[ptr ga, ptr gb] w fun e w' => ∃ g, e = .returned (ptr g) ∧ At w' (.node a b 0) g ∧ Below w.heap.size w w' := by
  refine (paired_sm ha hb (Tr.smBd hwa bda (by omega)) (Tr.smBd hwb bdb (by omega))).mono ?_
  rintro e w' ⟨g, rfl, hN, hB⟩
  refine ⟨g, rfl, ⟨ga, gb, ?_, ha.below hB, hb.below hB⟩, hB⟩
  have e0 : (Tr.node a b 0).sm = a.sm.both b.sm := by simp [Tr.sm, Sm.raised]
  rw [e0]
  exact hN
end Go.Proofs.YtokclnjaglklhaaDoor
