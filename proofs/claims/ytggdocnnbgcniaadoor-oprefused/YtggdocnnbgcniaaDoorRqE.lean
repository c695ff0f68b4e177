import Derived.Test.YtggdocnnbgcniaaDoorRqD
namespace Go.Proofs.YtggdocnnbgcniaaDoor
open Go.RowKit Go.Lib
set_option maxRecDepth 100000

/-- A slice of a slice. -/
theorem cut_rw {α : Type} {f : α → List Value} {S T : TypeId} {k by_ : Nat} (hK : Kind Tryd.prog S T k by_) (he : Tryd.prog.elem S = T) {w : World} {g off n cap : Nat} {l : List α} (h : Rw f k w (some ⟨g, off, none⟩) n cap l) (lo hi : Nat) (h1 : lo ≤ hi) (h2 : hi ≤ n) :
    ∃ a', (∀ g' off', a' = some ⟨g', off', none⟩ → g' = g) ∧ (∀ W : World, (Instr.slice S (.slice (some ⟨g, off, none⟩) n cap) (some (.int .i64 (lo : Int))) (some (.int .i64 (hi : Int))) none).run Tryd.prog W = .ok (.slice a' (hi - lo) (cap - lo)) W) ∧ Rw f k w a' (hi - lo) (cap - lo) ((l.take hi).drop lo) := by
  have hr := h.room
  have hl := h.len
  by_cases hc : lo < cap
  · exact ⟨some ⟨g, off + lo * k, none⟩, fun g' off' e => (by simp at e; exact e.1.symm), fun W => cut_both hK he W g off n cap lo hi h1 (by omega) hc, (h.take hi h2).drop lo h1⟩
  · obtain rfl : lo = cap := by omega
    obtain rfl : hi = lo := by omega
    obtain ⟨i, z, hi', hz, hsz, hby, _⟩ := hK.info
    refine ⟨some ⟨g, off, none⟩, fun g' off' e => (by simp at e; exact e.1.symm), fun W => ?_, ⟨by simp, ⟨by omega, by omega⟩, fun h0 => by omega⟩⟩
    have := run_slice_lh (P := Tryd.prog) W S (some ⟨g, off, none⟩) n hi (by rw [he]; exact hK.under) .i64 .i64 (hi : Int) (hi : Int) (by omega) (by omega) (by omega)
    rw [this, he]
    simp [sizeOf, typeInfo, hi', hsz, sliced]
/-- The part lo to hi - 1 of a piece. -/
def partL (rs : List Int) (h : Int) (lo hi : Nat) : List (List Int × Int) := if hi ≤ lo then [] else [((rs.take hi).drop lo, h)]
structure PartOf (rs : List Int) (h : Int) (lo hi : Nat) (t : Tr) : Prop where
  lv : t.lv = partL rs h lo hi
  can : t.Can
theorem part_mk {rs : List Int} {h : Int} {lo hi : Nat} (h1 : lo ≤ hi) (h2 : hi ≤ rs.length) (hl : Lim h) : PartOf rs h lo hi (mkPiece ((rs.take hi).drop lo) h) := by
  have hlen : ((rs.take hi).drop lo).length = hi - lo := by rw [List.length_drop, List.length_take]; omega
  unfold mkPiece
  by_cases e : hi ≤ lo
  · rw [if_pos (List.eq_nil_of_length_eq_zero (by omega))]
    exact ⟨by unfold partL; rw [if_pos e]; rfl, .inl rfl⟩
  · have hne : (rs.take hi).drop lo ≠ [] := by intro e2; rw [e2] at hlen; simp at hlen; omega
    rw [if_neg hne]
    exact ⟨by unfold partL; rw [if_neg e]; rfl, .inr ⟨hne, ⟨hl, by rw [Int.sub_zero]; exact hl⟩, trivial⟩⟩
set_option maxHeartbeats 2000000 in
theorem part_any {w : World} {rs : List Int} {h st : Int} {g : Nat} (hA : At w (.leaf rs h st) g) (hf : (Tr.leaf rs h st).Fine) (lo hi : Nat) (h1 : lo ≤ hi) (h2 : hi ≤ rs.length) (hn : rs.length ≤ 2097152) :
    Calls Tryd.prog 68 #[.pointer (some ⟨g, 0, none⟩), .int .i64 (lo : Int), .int .i64 (hi : Int)] w fun e w' => ∃ g' t, e = .returned (.pointer (some ⟨g', 0, none⟩)) ∧ At w' t g' ∧ PartOf rs h lo hi t ∧ Below w.heap.size w w' := by
  have hne : rs ≠ [] := hf.wf
  have hpos : 0 < rs.length := List.length_pos_iff.2 hne
  have c0 := hA.cells
  have hsc : (Tr.leaf rs h st).sm.cells = (rs.length : Int) := rfl
  have hgl := hA.lt
  by_cases hall : lo = 0 ∧ hi = rs.length
  · obtain ⟨rfl, rfl⟩ := hall
    have hp : PartOf rs h 0 rs.length (.leaf rs h st) := ⟨by unfold partL; rw [if_neg (by omega)]; simp [Tr.lv], .inr hf⟩
    rw [hsc] at c0
    clear hsc
    go_enter Tryd.func68, Tryd.ntmps68
    go_wp2_with fail
    go_ret
    exact ⟨g, _, rfl, hA, hp, Below.refl _ _⟩
  · have hmk := part_mk (rs := rs) (h := h) h1 h2 hf.bd.1
    obtain ⟨a, cap, hN, hR⟩ := hA
    obtain ⟨ga, off, rfl, hga, _⟩ := hR.rw_.cells hpos
    obtain ⟨a', hsame, hcut, hR0⟩ := cut_rw kindN elemN hR.rw_ lo hi h1 h2
    have hR' : RwN w a' (hi - lo) (cap - lo) ((rs.take hi).drop lo) := ⟨hR0, fun h0 g' off' e => by
      rw [hsame g' off' e]
      exact hR.typ hpos ga off rfl⟩
    have HPC : Hid (∀ W, Below w.heap.size w W → Calls Tryd.prog 49 #[.slice a' (hi - lo) (cap - lo), .int .i64 h] W fun e w' => ∃ g, e = .returned (.pointer (some ⟨g, 0, none⟩)) ∧ At w' (mkPiece ((rs.take hi).drop lo) h) g ∧ Below W.heap.size W w') := fun W hW => piece_any (hR'.below hW) h (by omega)
    have HH : Hid (∀ W, Calls Tryd.prog 38 #[.agg (Tr.leaf rs h st).sm.vals] W fun e w' => e = .returned (.int .i64 h) ∧ Below W.heap.size W w') := fun W => smHid_any (Tr.leaf rs h st).sm W
    obtain ⟨c0, c1, c2, c3, c4, c5, c6, c7, c8, c9⟩ := hN.ten
    obtain ⟨c10, _, _, _⟩ := hN.four
    generalize (Tr.leaf rs h st).sm = sm at *
    clear hR hR' hR0 hsame hN hf
    have hcs : (((lo : Int) == 0) = false) ∨ (((lo : Int) == 0) = true ∧ ((hi : Int) == sm.cells) = false) := by
      by_cases e : lo = 0
      · right; exact ⟨by rw [beq_iff_eq]; omega, by rw [beq_eq_false_iff_ne, hsc]; intro e2; exact hall ⟨e, by omega⟩⟩
      · left; rw [beq_eq_false_iff_ne]; omega
    clear hsc
    have hcur : Below w.heap.size w w := Below.refl _ _
    generalize hn1 : rs.length = n at *
    generalize hd1 : hi - lo = m1 at *
    generalize hd2 : cap - lo = m2 at *
    clear hd1 hd2 hall hn1
    rcases hcs with z1 | ⟨z1, z2⟩
    all_goals
      go_enter Tryd.func68, Tryd.ntmps68
      go_wp2_with fail
      go_region_held3 (fun W => W.cell? ⟨g, 0, none⟩ = some (.int .i64 sm.cells) ∧ W.cell? ⟨g, 1, none⟩ = some (.int .i64 sm.pieces) ∧ W.cell? ⟨g, 2, none⟩ = some (.int .i64 sm.high) ∧ W.cell? ⟨g, 3, none⟩ = some (.int .i64 sm.least) ∧ W.cell? ⟨g, 4, none⟩ = some (.int .i64 sm.most) ∧ W.cell? ⟨g, 5, none⟩ = some (.int .i64 sm.lowest) ∧ W.cell? ⟨g, 6, none⟩ = some (.int .i64 sm.fc) ∧ W.cell? ⟨g, 7, none⟩ = some (.int .i64 sm.fh) ∧ W.cell? ⟨g, 8, none⟩ = some (.int .i64 sm.lc) ∧ W.cell? ⟨g, 9, none⟩ = some (.int .i64 sm.lh) ∧ W.cell? ⟨g, 10, none⟩ = some (.slice (some ⟨ga, off, none⟩) n cap)) (first | exact ⟨c0, c1, c2, c3, c4, c5, c6, c7, c8, c9, c10⟩ | exact ⟨e0, e1, e2, e3, e4, e5, e6, e7, e8, e9, e10⟩)
        (first
          | (go_at_call 38; refine (HH.out _).mono ?_; rintro e w1 ⟨rfl, hb1⟩; have hcur : Below w.heap.size w w1 := (by first | exact hcur.trans (hb1.mono hcur.size) | exact hcur.drew.trans (hb1.mono hcur.size)); have e0 := (hcur.cell (p := ⟨g, 0, none⟩) hgl).trans c0; have e1 := (hcur.cell (p := ⟨g, 1, none⟩) hgl).trans c1; have e2 := (hcur.cell (p := ⟨g, 2, none⟩) hgl).trans c2; have e3 := (hcur.cell (p := ⟨g, 3, none⟩) hgl).trans c3; have e4 := (hcur.cell (p := ⟨g, 4, none⟩) hgl).trans c4; have e5 := (hcur.cell (p := ⟨g, 5, none⟩) hgl).trans c5; have e6 := (hcur.cell (p := ⟨g, 6, none⟩) hgl).trans c6; have e7 := (hcur.cell (p := ⟨g, 7, none⟩) hgl).trans c7; have e8 := (hcur.cell (p := ⟨g, 8, none⟩) hgl).trans c8; have e9 := (hcur.cell (p := ⟨g, 9, none⟩) hgl).trans c9; have e10 := (hcur.cell (p := ⟨g, 10, none⟩) hgl).trans c10)
          | (go_at_call 49; refine (HPC.out _ ?_).mono ?_; (first | exact hcur | exact hcur.drew); rintro e w2 ⟨g2, rfl, hA2, hb2⟩; have hcur : Below w.heap.size w w2 := (by first | exact hcur.trans (hb2.mono hcur.size) | exact hcur.drew.trans (hb2.mono hcur.size)); have e0 := (hcur.cell (p := ⟨g, 0, none⟩) hgl).trans c0; have e1 := (hcur.cell (p := ⟨g, 1, none⟩) hgl).trans c1; have e2 := (hcur.cell (p := ⟨g, 2, none⟩) hgl).trans c2; have e3 := (hcur.cell (p := ⟨g, 3, none⟩) hgl).trans c3; have e4 := (hcur.cell (p := ⟨g, 4, none⟩) hgl).trans c4; have e5 := (hcur.cell (p := ⟨g, 5, none⟩) hgl).trans c5; have e6 := (hcur.cell (p := ⟨g, 6, none⟩) hgl).trans c6; have e7 := (hcur.cell (p := ⟨g, 7, none⟩) hgl).trans c7; have e8 := (hcur.cell (p := ⟨g, 8, none⟩) hgl).trans c8; have e9 := (hcur.cell (p := ⟨g, 9, none⟩) hgl).trans c9; have e10 := (hcur.cell (p := ⟨g, 10, none⟩) hgl).trans c10))
      all_goals
        go_wp2_with fail
        go_ret
        exact ⟨g2, _, rfl, hA2, hmk, hcur⟩
set_option maxHeartbeats 400000 in
theorem fits_yes (c1 h1 c2 h2 : Int) (e1 : h1 = h2) (e2 : c1 + c2 ≤ 32) (b1 : 0 ≤ c1 ∧ c1 ≤ 2097152) (b2 : 0 ≤ c2 ∧ c2 ≤ 2097152) (w : World) :
    Calls Tryd.prog 69 #[.agg #[.int .i64 c1, .int .i64 h1], .agg #[.int .i64 c2, .int .i64 h2]] w fun e w' => e = .returned (.bool true) ∧ Below w.heap.size w w' := by
  subst e1
  have z : (h1 == h1) = true := by simp
  go_enter Tryd.func69, Tryd.ntmps69
  go_wp2_with fail
  go_ret
  exact ⟨rfl, ((Below.refl _ _).alloc (Nat.le_refl _) _).alloc (by simp) _⟩
set_option maxHeartbeats 400000 in
theorem fits_no (c1 h1 c2 h2 : Int) (e1 : ¬ (h1 = h2 ∧ c1 + c2 ≤ 32)) (b1 : 0 ≤ c1 ∧ c1 ≤ 2097152) (b2 : 0 ≤ c2 ∧ c2 ≤ 2097152) (w : World) :
    Calls Tryd.prog 69 #[.agg #[.int .i64 c1, .int .i64 h1], .agg #[.int .i64 c2, .int .i64 h2]] w fun e w' => e = .returned (.bool false) ∧ Below w.heap.size w w' := by
  have hcs : (h1 == h2) = false ∨ ((h1 == h2) = true ∧ 32 < c1 + c2) := by
    by_cases e : h1 = h2
    · right; exact ⟨by rw [beq_iff_eq]; exact e, by omega⟩
    · left; rw [beq_eq_false_iff_ne]; exact e
  clear e1
  rcases hcs with z | ⟨z, z2⟩
  all_goals
    go_enter Tryd.func69, Tryd.ntmps69
    go_wp2_with fail
    go_ret
    exact ⟨by first | rfl | exact congrArg (fun b => Ending.returned (.bool b)) (by simp; omega), ((Below.refl _ _).alloc (Nat.le_refl _) _).alloc (by simp) _⟩
end Go.Proofs.YtggdocnnbgcniaaDoor
