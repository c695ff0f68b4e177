import Derived.Test.YtggdocnnbgcniaaDoorRqE
namespace Go.Proofs.YtggdocnnbgcniaaDoor
open Go.RowKit Go.Lib
set_option maxRecDepth 100000

theorem twoRows_new {w : World} {a1 : Option Addr} {n1 c1 : Nat} {r1 : List Int} {a2 : Option Addr} {n2 c2 : Nat} {r2 : List Int} (h1 : Rw runeV 1 w a1 n1 c1 r1) (h2 : Rw runeV 1 w a2 n2 c2 r2) (t : TypeId) :
    TwoRows (w.alloc (.cells #[.slice a1 n1 c1, .slice a2 n2 c2] t)) w.heap.size a1 n1 c1 r1 a2 n2 c2 r2 := by
  have hb : Below w.heap.size w (w.alloc (.cells #[.slice a1 n1 c1, .slice a2 n2 c2] t)) := (Below.refl _ _).alloc (Nat.le_refl _) _
  have hh := heap_alloc_new w (.cells #[.slice a1 n1 c1, .slice a2 n2 c2] t)
  exact ⟨by simp only [World.cell?, hh]; rfl, by simp only [World.cell?, hh]; rfl, by simp, h1.below hb, h2.below hb⟩
set_option maxHeartbeats 2000000 in
theorem merged_any {w : World} {r1 r2 : List Int} {h s1 s2 : Int} {gp gq : Nat} (hP : At w (.leaf r1 h s1) gp) (hQ : At w (.leaf r2 h s2) gq) (n1 : r1 ≠ []) (n2 : r2 ≠ []) (q1 : r1.length ≤ 64) (q2 : r2.length ≤ 64) :
    Calls Tryd.prog 71 #[.pointer (some ⟨gp, 0, none⟩), .pointer (some ⟨gq, 0, none⟩)] w fun e w' => ∃ g, e = .returned (.pointer (some ⟨g, 0, none⟩)) ∧ At w' (.leaf (r1 ++ r2) h 0) g ∧ Below w.heap.size w w' := by
  have p1 : 0 < r1.length := List.length_pos_iff.2 n1
  have p2 : 0 < r2.length := List.length_pos_iff.2 n2
  have hgp := hP.lt
  have hgq := hQ.lt
  obtain ⟨a1, k1, hN1, hR1⟩ := hP
  obtain ⟨a2, k2, hN2, hR2⟩ := hQ
  obtain ⟨c0, c1, c2, c3, c4, c5, c6, c7, c8, c9⟩ := hN1.ten
  obtain ⟨c10, _, _, _⟩ := hN1.four
  obtain ⟨d10, _, _, _⟩ := hN2.four
  have HC : Hid (∀ W g, TwoRows W g a1 r1.length k1 r1 a2 r2.length k2 r2 → Calls Tryd.prog 84 #[.slice (some ⟨g, 0, none⟩) 2 2] W fun e w' => ∃ a' c', e = .returned (.slice a' (r1 ++ r2).length c') ∧ RwN w' a' (r1 ++ r2).length c' (r1 ++ r2) ∧ Below W.heap.size W w') := fun W g hT => by
    refine (concatRunes_any hT p1 p2 q1 q2).mono ?_
    rintro e w' ⟨v, rfl, ho, hb⟩
    obtain ⟨a', c', rfl⟩ := ho.shape
    exact ⟨a', c', rfl, ho.rwn, hb⟩
  have HT : Hid (∀ W, Below w.heap.size w W → TwoRows (W.alloc (.cells #[.slice a1 r1.length k1, .slice a2 r2.length k2] 34)) W.heap.size a1 r1.length k1 r1 a2 r2.length k2 r2) := fun W hW => twoRows_new (hR1.rw_.below hW) (hR2.rw_.below hW) _
  have HH : Hid (∀ W, Calls Tryd.prog 38 #[.agg (Tr.leaf r1 h s1).sm.vals] W fun e w' => e = .returned (.int .i64 h) ∧ Below W.heap.size W w') := fun W => smHid_any (Tr.leaf r1 h s1).sm W
  have hl2 : (r1 ++ r2).length ≤ 2097152 := by rw [List.length_append]; omega
  have hne : r1 ++ r2 ≠ [] := by simp [n1]
  have HPC : Hid (∀ W a' c', RwN W a' (r1 ++ r2).length c' (r1 ++ r2) → Calls Tryd.prog 49 #[.slice a' (r1 ++ r2).length c', .int .i64 h] W fun e w' => ∃ g, e = .returned (.pointer (some ⟨g, 0, none⟩)) ∧ At w' (.leaf (r1 ++ r2) h 0) g ∧ Below W.heap.size W w') := fun W a' c' hR => by
    have := piece_any hR h hl2
    rw [mkPiece_leaf h hne] at this
    exact this
  clear hR1 hR2 hN1 hN2 n1 n2 hne hl2
  generalize (Tr.leaf r1 h s1).sm = sm at *
  generalize r1 ++ r2 = r3 at *
  generalize r3.length = l3 at *
  generalize r1.length = l1 at *
  generalize r2.length = l2 at *
  have hcur : Below w.heap.size w w := Below.refl _ _
  go_enter Tryd.func71, Tryd.ntmps71
  go_wp2_with fail
  go_region_held3 (fun W => W.cell? ⟨gp, 0, none⟩ = some (.int .i64 sm.cells) ∧ W.cell? ⟨gp, 1, none⟩ = some (.int .i64 sm.pieces) ∧ W.cell? ⟨gp, 2, none⟩ = some (.int .i64 sm.high) ∧ W.cell? ⟨gp, 3, none⟩ = some (.int .i64 sm.least) ∧ W.cell? ⟨gp, 4, none⟩ = some (.int .i64 sm.most) ∧ W.cell? ⟨gp, 5, none⟩ = some (.int .i64 sm.lowest) ∧ W.cell? ⟨gp, 6, none⟩ = some (.int .i64 sm.fc) ∧ W.cell? ⟨gp, 7, none⟩ = some (.int .i64 sm.fh) ∧ W.cell? ⟨gp, 8, none⟩ = some (.int .i64 sm.lc) ∧ W.cell? ⟨gp, 9, none⟩ = some (.int .i64 sm.lh) ∧ W.cell? ⟨gp, 10, none⟩ = some (.slice a1 l1 k1) ∧ W.cell? ⟨gq, 10, none⟩ = some (.slice a2 l2 k2)) (first | exact ⟨c0, c1, c2, c3, c4, c5, c6, c7, c8, c9, c10, d10⟩ | exact ⟨e0, e1, e2, e3, e4, e5, e6, e7, e8, e9, e10, f10⟩ | exact ⟨cell_al c0 _, cell_al c1 _, cell_al c2 _, cell_al c3 _, cell_al c4 _, cell_al c5 _, cell_al c6 _, cell_al c7 _, cell_al c8 _, cell_al c9 _, cell_al c10 _, cell_al d10 _⟩ | exact ⟨cell_al e0 _, cell_al e1 _, cell_al e2 _, cell_al e3 _, cell_al e4 _, cell_al e5 _, cell_al e6 _, cell_al e7 _, cell_al e8 _, cell_al e9 _, cell_al e10 _, cell_al f10 _⟩)
    (first
      | (go_at_call 84; refine (HC.out _ _ ?_).mono ?_; (first | exact HT.out _ hcur | exact HT.out _ hcur.drew | exact (HT.out _ hcur).below (Below.refl _ _).drew); rintro e w1 ⟨a', c', rfl, hRn, hb1⟩; have hcur : Below w.heap.size w w1 := (by first | exact (hcur.alloc hcur.size _).trans (hb1.mono (by simp)) | exact (hcur.drew.alloc hcur.size _).trans (hb1.mono (by simp)) | exact ((hcur.alloc hcur.size _).drew).trans (hb1.mono (by simp))); have e0 := (hcur.cell (p := ⟨gp, 0, none⟩) hgp).trans c0; have e1 := (hcur.cell (p := ⟨gp, 1, none⟩) hgp).trans c1; have e2 := (hcur.cell (p := ⟨gp, 2, none⟩) hgp).trans c2; have e3 := (hcur.cell (p := ⟨gp, 3, none⟩) hgp).trans c3; have e4 := (hcur.cell (p := ⟨gp, 4, none⟩) hgp).trans c4; have e5 := (hcur.cell (p := ⟨gp, 5, none⟩) hgp).trans c5; have e6 := (hcur.cell (p := ⟨gp, 6, none⟩) hgp).trans c6; have e7 := (hcur.cell (p := ⟨gp, 7, none⟩) hgp).trans c7; have e8 := (hcur.cell (p := ⟨gp, 8, none⟩) hgp).trans c8; have e9 := (hcur.cell (p := ⟨gp, 9, none⟩) hgp).trans c9; have e10 := (hcur.cell (p := ⟨gp, 10, none⟩) hgp).trans c10; have f10 := (hcur.cell (p := ⟨gq, 10, none⟩) hgq).trans d10)
      | (go_at_call 38; refine (HH.out _).mono ?_; rintro e w2 ⟨rfl, hb2⟩; have hRn2 := hRn.below (by first | exact hb2 | exact (Below.refl _ _).drew.trans hb2); have hcur : Below w.heap.size w w2 := (by first | exact hcur.trans (hb2.mono hcur.size) | exact hcur.drew.trans (hb2.mono hcur.size)); have e0 := (hcur.cell (p := ⟨gp, 0, none⟩) hgp).trans c0; have e1 := (hcur.cell (p := ⟨gp, 1, none⟩) hgp).trans c1; have e2 := (hcur.cell (p := ⟨gp, 2, none⟩) hgp).trans c2; have e3 := (hcur.cell (p := ⟨gp, 3, none⟩) hgp).trans c3; have e4 := (hcur.cell (p := ⟨gp, 4, none⟩) hgp).trans c4; have e5 := (hcur.cell (p := ⟨gp, 5, none⟩) hgp).trans c5; have e6 := (hcur.cell (p := ⟨gp, 6, none⟩) hgp).trans c6; have e7 := (hcur.cell (p := ⟨gp, 7, none⟩) hgp).trans c7; have e8 := (hcur.cell (p := ⟨gp, 8, none⟩) hgp).trans c8; have e9 := (hcur.cell (p := ⟨gp, 9, none⟩) hgp).trans c9; have e10 := (hcur.cell (p := ⟨gp, 10, none⟩) hgp).trans c10; have f10 := (hcur.cell (p := ⟨gq, 10, none⟩) hgq).trans d10)
      | (go_at_call 49; refine (HPC.out _ _ _ ?_).mono ?_; (first | exact hRn2 | exact hRn2.below (Below.refl _ _).drew); rintro e w3 ⟨g3, rfl, hA3, hb3⟩; have hcur : Below w.heap.size w w3 := (by first | exact hcur.trans (hb3.mono hcur.size) | exact hcur.drew.trans (hb3.mono hcur.size)); have e0 := (hcur.cell (p := ⟨gp, 0, none⟩) hgp).trans c0; have e1 := (hcur.cell (p := ⟨gp, 1, none⟩) hgp).trans c1; have e2 := (hcur.cell (p := ⟨gp, 2, none⟩) hgp).trans c2; have e3 := (hcur.cell (p := ⟨gp, 3, none⟩) hgp).trans c3; have e4 := (hcur.cell (p := ⟨gp, 4, none⟩) hgp).trans c4; have e5 := (hcur.cell (p := ⟨gp, 5, none⟩) hgp).trans c5; have e6 := (hcur.cell (p := ⟨gp, 6, none⟩) hgp).trans c6; have e7 := (hcur.cell (p := ⟨gp, 7, none⟩) hgp).trans c7; have e8 := (hcur.cell (p := ⟨gp, 8, none⟩) hgp).trans c8; have e9 := (hcur.cell (p := ⟨gp, 9, none⟩) hgp).trans c9; have e10 := (hcur.cell (p := ⟨gp, 10, none⟩) hgp).trans c10; have f10 := (hcur.cell (p := ⟨gq, 10, none⟩) hgq).trans d10))
  all_goals
    go_wp2_with fail
    go_ret
    exact ⟨g3, rfl, hA3, hcur⟩
end Go.Proofs.YtggdocnnbgcniaaDoor
