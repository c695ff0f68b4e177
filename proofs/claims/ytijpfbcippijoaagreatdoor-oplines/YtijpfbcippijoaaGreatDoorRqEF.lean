import Derived.Test.YtijpfbcippijoaaGreatDoorRqD
namespace Go.Proofs.YtijpfbcippijoaaGreatDoor
open Go.RowKit Go.Lib
set_option maxRecDepth 100000
theorem cut_rw {α : Type} {f : α → List Value} {S T : TypeId} {k by_ : Nat} (hK : Kind Tryz.prog S T k by_) (he : Tryz.prog.elem S = T) {w : World} {g off n cap : Nat} {l : List α} (h : Rw f k w (some ⟨g, off, none⟩) n cap l) (lo hi : Nat) (h1 : lo ≤ hi) (h2 : hi ≤ n) :
    ∃ a', (∀ g' off', a' = some ⟨g', off', none⟩ → g' = g) ∧ (∀ W : World, (Instr.slice S (.slice (some ⟨g, off, none⟩) n cap) (some (.int .i64 (lo : Int))) (some (.int .i64 (hi : Int))) none).run Tryz.prog W = .ok (.slice a' (hi - lo) (cap - lo)) W) ∧ Rw f k w a' (hi - lo) (cap - lo) ((l.take hi).drop lo) := by
  have hr := h.room
  have hl := h.len
  by_cases hc : lo < cap
  · exact ⟨some ⟨g, off + lo * k, none⟩, fun g' off' e => (by simp at e; exact e.1.symm), fun W => cut_both hK he W g off n cap lo hi h1 (by omega) hc, (h.take hi h2).drop lo h1⟩
  · obtain rfl : lo = cap := by omega
    obtain rfl : hi = lo := by omega
    obtain ⟨i, z, hi', hz, hsz, hby, _⟩ := hK.info
    refine ⟨some ⟨g, off, none⟩, fun g' off' e => (by simp at e; exact e.1.symm), fun W => ?_, ⟨by simp, ⟨by omega, by omega⟩, fun h0 => by omega⟩⟩
    have := run_slice_lh (P := Tryz.prog) W S (some ⟨g, off, none⟩) n hi (by rw [he]; exact hK.under) .i64 .i64 (hi : Int) (hi : Int) (by omega) (by omega) (by omega)
    rw [this, he]
    simp [sizeOf, typeInfo, hi', hsz, sliced]
def partL (rs : List Int) (h : Int) (lo hi : Nat) : List (List Int × Int) := if hi ≤ lo then [] else [((rs.take hi).drop lo, h)]
structure PartOf (rs : List Int) (h : Int) (lo hi : Nat) (t : Tr) : Prop where
  lv : t.lv = partL rs h lo hi
  can : t.Can
theorem part_mk {rs : List Int} {h : Int} {lo hi : Nat} (h1 : lo ≤ hi) (h2 : hi ≤ rs.length) (hl : Lim h) : PartOf rs h lo hi (mkPiece ((rs.take hi).drop lo) h) := by
  have hlen : ((rs.take hi).drop lo).length = hi - lo := by rw [List.length_drop, List.length_take]; omega
  unfold mkPiece
  by_cases e : hi ≤ lo
  · rw [if_pos (List.eq_nil_of_length_eq_zero (by omega))]
    exact ⟨by unfold partL; rw [if_pos e]; rfl, .inl rfl⟩
  · have hne : (rs.take hi).drop lo ≠ [] := by intro e2; rw [e2] at hlen; simp at hlen; omega
    rw [if_neg hne]
    exact ⟨by unfold partL; rw [if_neg e]; rfl, .inr ⟨hne, ⟨hl, by rw [Int.sub_zero]; exact hl⟩, trivial⟩⟩
set_option maxHeartbeats 2000000 in
theorem part_any {w : World} {rs : List Int} {h st : Int} {g : Nat} (hA : At w (.leaf rs h st) g) (hf : (Tr.leaf rs h st).Fine) (lo hi : Nat) (h1 : lo ≤ hi) (h2 : hi ≤ rs.length) (hn : rs.length ≤ 2097152) :
    Calls Tryz.prog 91 #[.pointer (some ⟨g, 0, none⟩), .int .i64 (lo : Int), .int .i64 (hi : Int)] w fun e w' => ∃ g' t, e = .returned (.pointer (some ⟨g', 0, none⟩)) ∧ At w' t g' ∧ PartOf rs h lo hi t ∧ Below w.heap.size w w' := by
  have hne : rs ≠ [] := hf.wf
  have hpos : 0 < rs.length := List.length_pos_iff.2 hne
  have c0 := hA.cells
  have hsc : (Tr.leaf rs h st).sm.cells = (rs.length : Int) := rfl
  have hgl := hA.lt
  by_cases hall : lo = 0 ∧ hi = rs.length
  · obtain ⟨rfl, rfl⟩ := hall
    have hp : PartOf rs h 0 rs.length (.leaf rs h st) := ⟨by unfold partL; rw [if_neg (by omega)]; simp [Tr.lv], .inr hf⟩
    rw [hsc] at c0
    clear hsc
    go_enter Tryz.func91, Tryz.ntmps91
    go_wp2_with fail
    go_ret
    exact ⟨g, _, rfl, hA, hp, Below.refl _ _⟩
  · have hmk := part_mk (rs := rs) (h := h) h1 h2 hf.bd.1
    obtain ⟨a, cap, hN, hR⟩ := hA
    obtain ⟨ga, off, rfl, hga, _⟩ := hR.rw_.cells hpos
    obtain ⟨a', hsame, hcut, hR0⟩ := cut_rw kindN elemN hR.rw_ lo hi h1 h2
    have hR' : RwN w a' (hi - lo) (cap - lo) ((rs.take hi).drop lo) := ⟨hR0, fun h0 g' off' e => by
      rw [hsame g' off' e]
      exact hR.typ hpos ga off rfl⟩
    have HPC : Hid (∀ W, Below w.heap.size w W → Calls Tryz.prog 55 #[.slice a' (hi - lo) (cap - lo), .int .i64 h] W fun e w' => ∃ g, e = .returned (.pointer (some ⟨g, 0, none⟩)) ∧ At w' (mkPiece ((rs.take hi).drop lo) h) g ∧ Below W.heap.size W w') := fun W hW => piece_any (hR'.below hW) h (by omega)
    have HH : Hid (∀ W, Calls Tryz.prog 30 #[.agg (Tr.leaf rs h st).sm.vals] W fun e w' => e = .returned (.int .i64 h) ∧ Below W.heap.size W w') := fun W => smHid_any (Tr.leaf rs h st).sm W
    obtain ⟨c0, c1, c2, c3, c4, c5, c6, c7, c8, c9⟩ := hN.ten
    obtain ⟨c10, _, _, _⟩ := hN.four
    generalize (Tr.leaf rs h st).sm = sm at *
    clear hR hR' hR0 hsame hN hf
    have hcs : (((lo : Int) == 0) = false) ∨ (((lo : Int) == 0) = true ∧ ((hi : Int) == sm.cells) = false) := by
      by_cases e : lo = 0
      · right; exact ⟨by rw [beq_iff_eq]; omega, by rw [beq_eq_false_iff_ne, hsc]; intro e2; exact hall ⟨e, by omega⟩⟩
      · left; rw [beq_eq_false_iff_ne]; omega
    clear hsc
    have hcur : Below w.heap.size w w := Below.refl _ _
    generalize hn1 : rs.length = n at *
    generalize hd1 : hi - lo = m1 at *
    generalize hd2 : cap - lo = m2 at *
    clear hd1 hd2 hall hn1
    rcases hcs with z1 | ⟨z1, z2⟩
    all_goals
      go_enter Tryz.func91, Tryz.ntmps91
      go_wp2_with fail
      go_region_held3 (fun W => W.cell? ⟨g, 0, none⟩ = some (.int .i64 sm.cells) ∧ W.cell? ⟨g, 1, none⟩ = some (.int .i64 sm.pieces) ∧ W.cell? ⟨g, 2, none⟩ = some (.int .i64 sm.high) ∧ W.cell? ⟨g, 3, none⟩ = some (.int .i64 sm.least) ∧ W.cell? ⟨g, 4, none⟩ = some (.int .i64 sm.most) ∧ W.cell? ⟨g, 5, none⟩ = some (.int .i64 sm.lowest) ∧ W.cell? ⟨g, 6, none⟩ = some (.int .i64 sm.fc) ∧ W.cell? ⟨g, 7, none⟩ = some (.int .i64 sm.fh) ∧ W.cell? ⟨g, 8, none⟩ = some (.int .i64 sm.lc) ∧ W.cell? ⟨g, 9, none⟩ = some (.int .i64 sm.lh) ∧ W.cell? ⟨g, 10, none⟩ = some (.slice (some ⟨ga, off, none⟩) n cap)) (first | exact ⟨c0, c1, c2, c3, c4, c5, c6, c7, c8, c9, c10⟩ | exact ⟨e0, e1, e2, e3, e4, e5, e6, e7, e8, e9, e10⟩)
        (first
          | (go_at_call 30; refine (HH.out _).mono ?_; rintro e w1 ⟨rfl, hb1⟩; have hcur : Below w.heap.size w w1 := (by first | exact hcur.trans (hb1.mono hcur.size) | exact hcur.drew.trans (hb1.mono hcur.size)); have e0 := (hcur.cell (p := ⟨g, 0, none⟩) hgl).trans c0; have e1 := (hcur.cell (p := ⟨g, 1, none⟩) hgl).trans c1; have e2 := (hcur.cell (p := ⟨g, 2, none⟩) hgl).trans c2; have e3 := (hcur.cell (p := ⟨g, 3, none⟩) hgl).trans c3; have e4 := (hcur.cell (p := ⟨g, 4, none⟩) hgl).trans c4; have e5 := (hcur.cell (p := ⟨g, 5, none⟩) hgl).trans c5; have e6 := (hcur.cell (p := ⟨g, 6, none⟩) hgl).trans c6; have e7 := (hcur.cell (p := ⟨g, 7, none⟩) hgl).trans c7; have e8 := (hcur.cell (p := ⟨g, 8, none⟩) hgl).trans c8; have e9 := (hcur.cell (p := ⟨g, 9, none⟩) hgl).trans c9; have e10 := (hcur.cell (p := ⟨g, 10, none⟩) hgl).trans c10)
          | (go_at_call 55; refine (HPC.out _ ?_).mono ?_; (first | exact hcur | exact hcur.drew); rintro e w2 ⟨g2, rfl, hA2, hb2⟩; have hcur : Below w.heap.size w w2 := (by first | exact hcur.trans (hb2.mono hcur.size) | exact hcur.drew.trans (hb2.mono hcur.size)); have e0 := (hcur.cell (p := ⟨g, 0, none⟩) hgl).trans c0; have e1 := (hcur.cell (p := ⟨g, 1, none⟩) hgl).trans c1; have e2 := (hcur.cell (p := ⟨g, 2, none⟩) hgl).trans c2; have e3 := (hcur.cell (p := ⟨g, 3, none⟩) hgl).trans c3; have e4 := (hcur.cell (p := ⟨g, 4, none⟩) hgl).trans c4; have e5 := (hcur.cell (p := ⟨g, 5, none⟩) hgl).trans c5; have e6 := (hcur.cell (p := ⟨g, 6, none⟩) hgl).trans c6; have e7 := (hcur.cell (p := ⟨g, 7, none⟩) hgl).trans c7; have e8 := (hcur.cell (p := ⟨g, 8, none⟩) hgl).trans c8; have e9 := (hcur.cell (p := ⟨g, 9, none⟩) hgl).trans c9; have e10 := (hcur.cell (p := ⟨g, 10, none⟩) hgl).trans c10))
      all_goals
        go_wp2_with fail
        go_ret
        exact ⟨g2, _, rfl, hA2, hmk, hcur⟩
set_option maxHeartbeats 400000 in
theorem fits_yes (c1 h1 c2 h2 : Int) (e1 : h1 = h2) (e2 : c1 + c2 ≤ 32) (b1 : 0 ≤ c1 ∧ c1 ≤ 2097152) (b2 : 0 ≤ c2 ∧ c2 ≤ 2097152) (w : World) :
    Calls Tryz.prog 93 #[.agg #[.int .i64 c1, .int .i64 h1], .agg #[.int .i64 c2, .int .i64 h2]] w fun e w' => e = .returned (.bool true) ∧ Below w.heap.size w w' := by
  subst e1
  have z : (h1 == h1) = true := by simp
  go_enter Tryz.func93, Tryz.ntmps93
  go_wp2_with fail
  go_ret
  exact ⟨rfl, ((Below.refl _ _).alloc (Nat.le_refl _) _).alloc (by simp) _⟩
set_option maxHeartbeats 400000 in
theorem fits_no (c1 h1 c2 h2 : Int) (e1 : ¬ (h1 = h2 ∧ c1 + c2 ≤ 32)) (b1 : 0 ≤ c1 ∧ c1 ≤ 2097152) (b2 : 0 ≤ c2 ∧ c2 ≤ 2097152) (w : World) :
    Calls Tryz.prog 93 #[.agg #[.int .i64 c1, .int .i64 h1], .agg #[.int .i64 c2, .int .i64 h2]] w fun e w' => e = .returned (.bool false) ∧ Below w.heap.size w w' := by
  have hcs : (h1 == h2) = false ∨ ((h1 == h2) = true ∧ 32 < c1 + c2) := by
    by_cases e : h1 = h2
    · right; exact ⟨by rw [beq_iff_eq]; exact e, by omega⟩
    · left; rw [beq_eq_false_iff_ne]; exact e
  clear e1
  rcases hcs with z | ⟨z, z2⟩
  all_goals
    go_enter Tryz.func93, Tryz.ntmps93
    go_wp2_with fail
    go_ret
    exact ⟨by first | rfl | exact congrArg (fun b => Ending.returned (.bool b)) (by simp; omega), ((Below.refl _ _).alloc (Nat.le_refl _) _).alloc (by simp) _⟩
end Go.Proofs.YtijpfbcippijoaaGreatDoor

namespace Go.Proofs.YtijpfbcippijoaaGreatDoor
open Go.RowKit Go.Lib
set_option maxRecDepth 100000
theorem twoRows_new {w : World} {a1 : Option Addr} {n1 c1 : Nat} {r1 : List Int} {a2 : Option Addr} {n2 c2 : Nat} {r2 : List Int} (h1 : Rw runeV 1 w a1 n1 c1 r1) (h2 : Rw runeV 1 w a2 n2 c2 r2) (t : TypeId) :
    TwoRows (w.alloc (.cells #[.slice a1 n1 c1, .slice a2 n2 c2] t)) w.heap.size a1 n1 c1 r1 a2 n2 c2 r2 := by
  have hb : Below w.heap.size w (w.alloc (.cells #[.slice a1 n1 c1, .slice a2 n2 c2] t)) := (Below.refl _ _).alloc (Nat.le_refl _) _
  have hh := heap_alloc_new w (.cells #[.slice a1 n1 c1, .slice a2 n2 c2] t)
  exact ⟨by simp only [World.cell?, hh]; rfl, by simp only [World.cell?, hh]; rfl, by simp, h1.below hb, h2.below hb⟩
set_option maxHeartbeats 2000000 in
theorem merged_any {w : World} {r1 r2 : List Int} {h s1 s2 : Int} {gp gq : Nat} (hP : At w (.leaf r1 h s1) gp) (hQ : At w (.leaf r2 h s2) gq) (n1 : r1 ≠ []) (n2 : r2 ≠ []) (q1 : r1.length ≤ 64) (q2 : r2.length ≤ 64) :
    Calls Tryz.prog 95 #[.pointer (some ⟨gp, 0, none⟩), .pointer (some ⟨gq, 0, none⟩)] w fun e w' => ∃ g, e = .returned (.pointer (some ⟨g, 0, none⟩)) ∧ At w' (.leaf (r1 ++ r2) h 0) g ∧ Below w.heap.size w w' := by
  have p1 : 0 < r1.length := List.length_pos_iff.2 n1
  have p2 : 0 < r2.length := List.length_pos_iff.2 n2
  have hgp := hP.lt
  have hgq := hQ.lt
  obtain ⟨a1, k1, hN1, hR1⟩ := hP
  obtain ⟨a2, k2, hN2, hR2⟩ := hQ
  obtain ⟨c0, c1, c2, c3, c4, c5, c6, c7, c8, c9⟩ := hN1.ten
  obtain ⟨c10, _, _, _⟩ := hN1.four
  obtain ⟨d10, _, _, _⟩ := hN2.four
  have HC : Hid (∀ W g, TwoRows W g a1 r1.length k1 r1 a2 r2.length k2 r2 → Calls Tryz.prog 121 #[.slice (some ⟨g, 0, none⟩) 2 2] W fun e w' => ∃ a' c', e = .returned (.slice a' (r1 ++ r2).length c') ∧ RwN w' a' (r1 ++ r2).length c' (r1 ++ r2) ∧ Below W.heap.size W w') := fun W g hT => by
    refine (concatRunes_any hT p1 p2 q1 q2).mono ?_
    rintro e w' ⟨v, rfl, ho, hb⟩
    obtain ⟨a', c', rfl⟩ := ho.shape
    exact ⟨a', c', rfl, ho.rwn, hb⟩
  have HT : Hid (∀ W, Below w.heap.size w W → TwoRows (W.alloc (.cells #[.slice a1 r1.length k1, .slice a2 r2.length k2] 74)) W.heap.size a1 r1.length k1 r1 a2 r2.length k2 r2) := fun W hW => twoRows_new (hR1.rw_.below hW) (hR2.rw_.below hW) _
  have HH : Hid (∀ W, Calls Tryz.prog 30 #[.agg (Tr.leaf r1 h s1).sm.vals] W fun e w' => e = .returned (.int .i64 h) ∧ Below W.heap.size W w') := fun W => smHid_any (Tr.leaf r1 h s1).sm W
  have hl2 : (r1 ++ r2).length ≤ 2097152 := by rw [List.length_append]; omega
  have hne : r1 ++ r2 ≠ [] := by simp [n1]
  have HPC : Hid (∀ W a' c', RwN W a' (r1 ++ r2).length c' (r1 ++ r2) → Calls Tryz.prog 55 #[.slice a' (r1 ++ r2).length c', .int .i64 h] W fun e w' => ∃ g, e = .returned (.pointer (some ⟨g, 0, none⟩)) ∧ At w' (.leaf (r1 ++ r2) h 0) g ∧ Below W.heap.size W w') := fun W a' c' hR => by
    have := piece_any hR h hl2
    rw [mkPiece_leaf h hne] at this
    exact this
  clear hR1 hR2 hN1 hN2 n1 n2 hne hl2
  generalize (Tr.leaf r1 h s1).sm = sm at *
  generalize r1 ++ r2 = r3 at *
  generalize r3.length = l3 at *
  generalize r1.length = l1 at *
  generalize r2.length = l2 at *
  have hcur : Below w.heap.size w w := Below.refl _ _
  go_enter Tryz.func95, Tryz.ntmps95
  go_wp2_with fail
  go_region_held3 (fun W => W.cell? ⟨gp, 0, none⟩ = some (.int .i64 sm.cells) ∧ W.cell? ⟨gp, 1, none⟩ = some (.int .i64 sm.pieces) ∧ W.cell? ⟨gp, 2, none⟩ = some (.int .i64 sm.high) ∧ W.cell? ⟨gp, 3, none⟩ = some (.int .i64 sm.least) ∧ W.cell? ⟨gp, 4, none⟩ = some (.int .i64 sm.most) ∧ W.cell? ⟨gp, 5, none⟩ = some (.int .i64 sm.lowest) ∧ W.cell? ⟨gp, 6, none⟩ = some (.int .i64 sm.fc) ∧ W.cell? ⟨gp, 7, none⟩ = some (.int .i64 sm.fh) ∧ W.cell? ⟨gp, 8, none⟩ = some (.int .i64 sm.lc) ∧ W.cell? ⟨gp, 9, none⟩ = some (.int .i64 sm.lh) ∧ W.cell? ⟨gp, 10, none⟩ = some (.slice a1 l1 k1) ∧ W.cell? ⟨gq, 10, none⟩ = some (.slice a2 l2 k2)) (first | exact ⟨c0, c1, c2, c3, c4, c5, c6, c7, c8, c9, c10, d10⟩ | exact ⟨e0, e1, e2, e3, e4, e5, e6, e7, e8, e9, e10, f10⟩ | exact ⟨cell_al c0 _, cell_al c1 _, cell_al c2 _, cell_al c3 _, cell_al c4 _, cell_al c5 _, cell_al c6 _, cell_al c7 _, cell_al c8 _, cell_al c9 _, cell_al c10 _, cell_al d10 _⟩ | exact ⟨cell_al e0 _, cell_al e1 _, cell_al e2 _, cell_al e3 _, cell_al e4 _, cell_al e5 _, cell_al e6 _, cell_al e7 _, cell_al e8 _, cell_al e9 _, cell_al e10 _, cell_al f10 _⟩)
    (first
      | (go_at_call 121; refine (HC.out _ _ ?_).mono ?_; (first | exact HT.out _ hcur | exact HT.out _ hcur.drew | exact (HT.out _ hcur).below (Below.refl _ _).drew); rintro e w1 ⟨a', c', rfl, hRn, hb1⟩; have hcur : Below w.heap.size w w1 := (by first | exact (hcur.alloc hcur.size _).trans (hb1.mono (by simp)) | exact (hcur.drew.alloc hcur.size _).trans (hb1.mono (by simp)) | exact ((hcur.alloc hcur.size _).drew).trans (hb1.mono (by simp))); have e0 := (hcur.cell (p := ⟨gp, 0, none⟩) hgp).trans c0; have e1 := (hcur.cell (p := ⟨gp, 1, none⟩) hgp).trans c1; have e2 := (hcur.cell (p := ⟨gp, 2, none⟩) hgp).trans c2; have e3 := (hcur.cell (p := ⟨gp, 3, none⟩) hgp).trans c3; have e4 := (hcur.cell (p := ⟨gp, 4, none⟩) hgp).trans c4; have e5 := (hcur.cell (p := ⟨gp, 5, none⟩) hgp).trans c5; have e6 := (hcur.cell (p := ⟨gp, 6, none⟩) hgp).trans c6; have e7 := (hcur.cell (p := ⟨gp, 7, none⟩) hgp).trans c7; have e8 := (hcur.cell (p := ⟨gp, 8, none⟩) hgp).trans c8; have e9 := (hcur.cell (p := ⟨gp, 9, none⟩) hgp).trans c9; have e10 := (hcur.cell (p := ⟨gp, 10, none⟩) hgp).trans c10; have f10 := (hcur.cell (p := ⟨gq, 10, none⟩) hgq).trans d10)
      | (go_at_call 30; refine (HH.out _).mono ?_; rintro e w2 ⟨rfl, hb2⟩; have hRn2 := hRn.below (by first | exact hb2 | exact (Below.refl _ _).drew.trans hb2); have hcur : Below w.heap.size w w2 := (by first | exact hcur.trans (hb2.mono hcur.size) | exact hcur.drew.trans (hb2.mono hcur.size)); have e0 := (hcur.cell (p := ⟨gp, 0, none⟩) hgp).trans c0; have e1 := (hcur.cell (p := ⟨gp, 1, none⟩) hgp).trans c1; have e2 := (hcur.cell (p := ⟨gp, 2, none⟩) hgp).trans c2; have e3 := (hcur.cell (p := ⟨gp, 3, none⟩) hgp).trans c3; have e4 := (hcur.cell (p := ⟨gp, 4, none⟩) hgp).trans c4; have e5 := (hcur.cell (p := ⟨gp, 5, none⟩) hgp).trans c5; have e6 := (hcur.cell (p := ⟨gp, 6, none⟩) hgp).trans c6; have e7 := (hcur.cell (p := ⟨gp, 7, none⟩) hgp).trans c7; have e8 := (hcur.cell (p := ⟨gp, 8, none⟩) hgp).trans c8; have e9 := (hcur.cell (p := ⟨gp, 9, none⟩) hgp).trans c9; have e10 := (hcur.cell (p := ⟨gp, 10, none⟩) hgp).trans c10; have f10 := (hcur.cell (p := ⟨gq, 10, none⟩) hgq).trans d10)
      | (go_at_call 55; refine (HPC.out _ _ _ ?_).mono ?_; (first | exact hRn2 | exact hRn2.below (Below.refl _ _).drew); rintro e w3 ⟨g3, rfl, hA3, hb3⟩; have hcur : Below w.heap.size w w3 := (by first | exact hcur.trans (hb3.mono hcur.size) | exact hcur.drew.trans (hb3.mono hcur.size)); have e0 := (hcur.cell (p := ⟨gp, 0, none⟩) hgp).trans c0; have e1 := (hcur.cell (p := ⟨gp, 1, none⟩) hgp).trans c1; have e2 := (hcur.cell (p := ⟨gp, 2, none⟩) hgp).trans c2; have e3 := (hcur.cell (p := ⟨gp, 3, none⟩) hgp).trans c3; have e4 := (hcur.cell (p := ⟨gp, 4, none⟩) hgp).trans c4; have e5 := (hcur.cell (p := ⟨gp, 5, none⟩) hgp).trans c5; have e6 := (hcur.cell (p := ⟨gp, 6, none⟩) hgp).trans c6; have e7 := (hcur.cell (p := ⟨gp, 7, none⟩) hgp).trans c7; have e8 := (hcur.cell (p := ⟨gp, 8, none⟩) hgp).trans c8; have e9 := (hcur.cell (p := ⟨gp, 9, none⟩) hgp).trans c9; have e10 := (hcur.cell (p := ⟨gp, 10, none⟩) hgp).trans c10; have f10 := (hcur.cell (p := ⟨gq, 10, none⟩) hgq).trans d10))
  all_goals
    go_wp2_with fail
    go_ret
    exact ⟨g3, rfl, hA3, hcur⟩
end Go.Proofs.YtijpfbcippijoaaGreatDoor
