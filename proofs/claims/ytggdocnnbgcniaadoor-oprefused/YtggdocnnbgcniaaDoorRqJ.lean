import Derived.Test.YtggdocnnbgcniaaDoorRqI
namespace Go.Proofs.YtggdocnnbgcniaaDoor
open Go.RowKit Go.Lib
set_option maxRecDepth 100000

theorem take_right (X Y : List (Int × Int)) (m : Nat) (h : X.length ≤ m) : X ++ Y.take (m - X.length) = (X ++ Y).take m := by rw [List.take_append, List.take_of_length_le h]
theorem drop_right (X Y : List (Int × Int)) (m : Nat) (h : X.length ≤ m) : Y.drop (m - X.length) = (X ++ Y).drop m := by rw [List.drop_append, List.drop_eq_nil_of_le h]; rfl
/-- A tree, parted at a place. -/
structure Sp (R1 R2 : List (Int × Int)) (a b : Tr) : Prop where
  ra : rowOf a.lv = R1
  rb : rowOf b.lv = R2
  ca : a.Can
  cb : b.Can
  pa : Pcs a.lv
  pb : Pcs b.lv
theorem pcs_part {rs : List Int} {h : Int} (lo hi : Nat) (h2 : hi ≤ rs.length) (h32 : rs.length ≤ 32) : Pcs (partL rs h lo hi) := by
  unfold partL
  split
  · exact pcs_nil
  · rename_i hlt
    refine ⟨fun p hp => ?_, fun p hp => ?_, trivial⟩
    · simp at hp; subst hp
      intro e
      have := congrArg List.length e
      simp at this
      omega
    · simp at hp; subst hp
      simp
      omega
theorem rowOf_part (rs : List Int) (h : Int) (lo hi : Nat) : rowOf (partL rs h lo hi) = ((rs.take hi).drop lo).map fun c => (c, h) := by
  unfold partL
  split
  · rename_i e
    have : (rs.take hi).drop lo = [] := by rw [List.drop_eq_nil_iff, List.length_take]; omega
    rw [this]; rfl
  · simp [rowOf]
set_option maxHeartbeats 4000000 in
theorem split_fine : ∀ (N : Nat) {w : World} {t : Tr} {g : Nat}, t.sm.high ≤ (N : Int) → At w t g → t.Fine → Pcs t.lv → t.row.length ≤ 1048576 → ∀ m : Nat, ∀ n : Int, n = (m : Int) → m ≤ t.row.length →
    Calls Tryd.prog 53 #[.pointer (some ⟨g, 0, none⟩), .int .i64 n] w fun e w' => ∃ g1 g2 a b, e = .returned (.tuple #[.pointer (some ⟨g1, 0, none⟩), .pointer (some ⟨g2, 0, none⟩)]) ∧ At w' a g1 ∧ At w' b g2 ∧ Sp (t.row.take m) (t.row.drop m) a b ∧ Below w.heap.size w w' := by
  intro N
  induction N with
  | zero =>
    intro w t g hN hA hf
    have := hf.pos
    omega
  | succ N ih =>
    intro w t g hN hA hf hP hn m n hnm hm
    have IH : Hid (∀ {w : World} {t : Tr} {g : Nat}, t.sm.high ≤ (N : Int) → At w t g → t.Fine → Pcs t.lv → t.row.length ≤ 1048576 → ∀ m : Nat, ∀ n : Int, n = (m : Int) → m ≤ t.row.length → Calls Tryd.prog 53 #[.pointer (some ⟨g, 0, none⟩), .int .i64 n] w fun e w' => ∃ g1 g2 a b, e = .returned (.tuple #[.pointer (some ⟨g1, 0, none⟩), .pointer (some ⟨g2, 0, none⟩)]) ∧ At w' a g1 ∧ At w' b g2 ∧ Sp (t.row.take m) (t.row.drop m) a b ∧ Below w.heap.size w w') := ih
    clear ih
    have hsc := t.sm_cells
    by_cases hm0 : m = 0
    · subst hm0
      subst hnm
      have hsb : Sp (t.row.take 0) (t.row.drop 0) .nil t := ⟨rfl, by simp [Tr.row_lv], .inl rfl, .inr hf, pcs_nil, hP⟩
      clear hsc
      go_enter Tryd.func53, Tryd.ntmps53
      go_wp2_with fail
      go_ret2
      exact ⟨w.heap.size, g, .nil, t, rfl, at_nil w, hA.below ((Below.refl _ _).alloc (Nat.le_refl _) _), hsb, (Below.refl _ _).alloc (Nat.le_refl _) _⟩
    · by_cases hml : m = t.row.length
      · subst hml
        have hsb : Sp (t.row.take t.row.length) (t.row.drop t.row.length) t .nil := ⟨by simp [Tr.row_lv], by simp [Tr.lv, rowOf], .inr hf, .inl rfl, hP, pcs_nil⟩
        have hpos : 0 < t.sm.cells := by omega
        have hne : n = t.sm.cells := by omega
        subst hne
        have c0 := hA.cells
        clear hsc hnm
        go_enter Tryd.func53, Tryd.ntmps53
        go_wp2_with fail
        go_ret2
        exact ⟨g, w.heap.size, t, .nil, rfl, hA.below ((Below.refl _ _).alloc (Nat.le_refl _) _), at_nil w, hsb, (Below.refl _ _).alloc (Nat.le_refl _) _⟩
      · have hlt : n < t.sm.cells := by omega
        have hgt : 0 < n := by omega
        cases t with
        | nil => exact hf.wf.elim
        | leaf rs hid st =>
          have HIP := smIsPiece_any (Tr.leaf rs hid st).sm
          rw [Tr.sm_high_leaf] at HIP
          have h32 : rs.length ≤ 32 := hP.few (rs, hid) (by simp [Tr.lv])
          have hrl : (Tr.leaf rs hid st).row.length = rs.length := by simp [Tr.row]
          have hcs : (Tr.leaf rs hid st).sm.cells = ((rs.length : Nat) : Int) := rfl
          have hmr : m ≤ rs.length := by omega
          have hgl := hA.lt
          have HP1 : Hid (∀ W, Below w.heap.size w W → Calls Tryd.prog 68 #[.pointer (some ⟨g, 0, none⟩), .int .i64 0, .int .i64 n] W fun e w' => ∃ g' t, e = .returned (.pointer (some ⟨g', 0, none⟩)) ∧ At w' t g' ∧ PartOf rs hid 0 m t ∧ Below W.heap.size W w') := fun W hW => by
            rw [hnm]; exact part_any (hA.below hW) hf 0 m (by omega) (by omega) (by omega)
          have HP2 : Hid (∀ W, Below w.heap.size w W → Calls Tryd.prog 68 #[.pointer (some ⟨g, 0, none⟩), .int .i64 n, .int .i64 (Tr.leaf rs hid st).sm.cells] W fun e w' => ∃ g' t, e = .returned (.pointer (some ⟨g', 0, none⟩)) ∧ At w' t g' ∧ PartOf rs hid m rs.length t ∧ Below W.heap.size W w') := fun W hW => by
            rw [hnm, hcs]; exact part_any (hA.below hW) hf m rs.length (by omega) (by omega) (by omega)
          have HE : Hid (∀ x y, PartOf rs hid 0 m x → PartOf rs hid m rs.length y → Sp ((Tr.leaf rs hid st).row.take m) ((Tr.leaf rs hid st).row.drop m) x y) := fun x y hx hy => by
            refine ⟨?_, ?_, hx.can, hy.can, by rw [hx.lv]; exact pcs_part 0 m hmr h32, by rw [hy.lv]; exact pcs_part m _ (Nat.le_refl _) h32⟩
            · rw [hx.lv, rowOf_part]; simp [Tr.row, List.map_take]
            · rw [hy.lv, rowOf_part]; simp [Tr.row, List.map_drop]
          obtain ⟨c0, c1, c2, c3, c4, c5, c6, c7, c8, c9⟩ := hA.ten
          clear hcs hrl hsc hnm hf hP hA hn hm hml
          generalize Tr.leaf rs hid st = lf at *
          have hcur : Below w.heap.size w w := Below.refl _ _
          go_enter Tryd.func53, Tryd.ntmps53
          go_wp2_with fail
          refine (HIP _).mono ?_
          rintro e w1 ⟨rfl, hb1⟩
          have k0 := (hb1.cell (p := ⟨g, 0, none⟩) hgl).trans c0
          have hcur := hb1
          go_wp2_with fail
          go_region_held3 (fun W => W.cell? ⟨g, 0, none⟩ = some (.int .i64 lf.sm.cells)) (first | exact k0 | exact e0)
            (first
              | (go_at_call_of 68 (Value.int IntKind.i64 0); refine (HP1.out _ ?_).mono ?_; (first | exact hcur | exact hcur.drew); rintro e w2 ⟨g2, x, rfl, hx, hpx, hb2⟩; have hcur : Below w.heap.size w w2 := (by first | exact hcur.trans (hb2.mono hcur.size) | exact hcur.drew.trans (hb2.mono hcur.size)); have e0 := (hcur.cell (p := ⟨g, 0, none⟩) hgl).trans c0)
              | (go_at_call 68; refine (HP2.out _ ?_).mono ?_; (first | exact hcur | exact hcur.drew); rintro e w3 ⟨g3, y, rfl, hy, hpy, hb3⟩; have hx3 := hx.below (by first | exact hb3 | exact (Below.refl _ _).drew.trans hb3); have hcur : Below w.heap.size w w3 := (by first | exact hcur.trans (hb3.mono hcur.size) | exact hcur.drew.trans (hb3.mono hcur.size)); have e0 := (hcur.cell (p := ⟨g, 0, none⟩) hgl).trans c0))
          all_goals
            go_wp2_with fail
            go_ret2
            exact ⟨g2, g3, x, y, rfl, hx3, hy, HE.out x y hpx hpy, hcur⟩
        | node l0 r0 st =>
          have HIP := smIsPiece_any (Tr.node l0 r0 st).sm
          have hh2 := hf.wf.high_node
          rw [show decide ((Tr.node l0 r0 st).sm.high ≤ 1) = false by simp; omega] at HIP
          obtain ⟨c0, c1, c2, c3, c4, c5, c6, c7, c8, c9⟩ := hA.ten
          have hgl := hA.lt
          have HNM : Hid (n = (m : Int)) := hnm
          have HSC : Hid ((Tr.node l0 r0 st).sm.cells = ((Tr.node l0 r0 st).row.length : Int)) := hsc
          clear hnm hsc
          generalize Tr.node l0 r0 st = t at *
          go_enter Tryd.func53, Tryd.ntmps53
          go_wp2_with fail
          refine (HIP _).mono ?_
          rintro e w1 ⟨rfl, hb1⟩
          clear c1 c2 c3 c4 c5 c6 c7 c8 c9
          go_wp2_with fail
          refine (sides_p (hA.below hb1) hf hh2 (by omega)).mono ?_
          rintro e w2 ⟨gl, gr, l, r, rfl, hl, hr, hs, hb2⟩
          have hB2 := hb1.trans (hb2.mono hb1.size)
          have hlv := hs.lv
          have hlen := hs.len
          have q0 := hs.high
          have hrow : t.row = l.row ++ r.row := by rw [Tr.row_lv, Tr.row_lv, Tr.row_lv, hlv, rowOf_append]
          have hPl : Pcs l.lv := by rw [hlv] at hP; exact hP.left
          have hPr : Pcs r.lv := by rw [hlv] at hP; exact hP.right
          have d0 := hl.cells
          have hlc := l.sm_cells
          have hlb : 0 ≤ l.sm.cells ∧ l.sm.cells ≤ 2097152 := by omega
          have pl := hs.fl.pos
          have pr := hs.fr.pos
          have HR : Hid (t.row = l.row ++ r.row) := hrow
          have hnm := HNM.out
          by_cases hle : m ≤ l.row.length
          · have hcmp : n ≤ l.sm.cells := by omega
            have hl1 : l.row.length ≤ 1048576 := by omega
            have hlr : l.row.length + r.row.length ≤ 1048576 := by omega
            clear hlv hrow hlc hnm
            go_wp2_with fail
            refine (IH.out (by omega) hl hs.fl hPl hl1 m n HNM.out hle).mono ?_
            rintro e w3 ⟨g1, g2, a, b, rfl, ha, hb, hsb, hb3⟩
            have hB3 := hB2.trans (hb3.mono hB2.size)
            have hbl : b.row.length ≤ l.row.length := by rw [Tr.row_len b, hsb.rb, List.length_drop]; omega
            go_wp2_with fail
            refine (concat_any hb (hr.below hb3) hsb.cb (.inr hs.fr) hsb.pb hPr (by omega)).mono ?_
            rintro e w4 ⟨g4, t4, rfl, hA4, hl4, hc4, hb4⟩
            go_wp2_with fail
            go_ret2
            refine ⟨g1, g4, a, t4, rfl, ha.below hb4, hA4, ⟨?_, ?_, hsb.ca, hc4, hsb.pa, by rw [hl4]; exact hsb.pb.glue hPr⟩, hB3.trans (hb4.mono hB3.size)⟩
            · rw [hsb.ra, HR.out, List.take_append, show m - l.row.length = 0 by omega]; simp
            · rw [hl4, rowOf_glue, hsb.rb, HR.out, List.drop_append, show m - l.row.length = 0 by omega, ← Tr.row_lv]; simp
          · have hcmp : ¬ n ≤ l.sm.cells := by omega
            have hd : n - l.sm.cells = ((m - l.row.length : Nat) : Int) := by omega
            have HD : Hid (n - l.sm.cells = ((m - l.row.length : Nat) : Int)) := hd
            have hrn : r.row.length ≤ 1048576 := by omega
            have hlr : l.row.length + r.row.length ≤ 1048576 := by omega
            have hmr : m - l.row.length ≤ r.row.length := by omega
            have hnb : n ≤ 2097152 := by omega
            clear hlv hrow hlc hnm hd
            go_wp2_with fail
            refine (IH.out (by omega) hr hs.fr hPr hrn (m - l.row.length) _ HD.out hmr).mono ?_
            rintro e w3 ⟨g1, g2, a, b, rfl, ha, hb, hsb, hb3⟩
            have hB3 := hB2.trans (hb3.mono hB2.size)
            have hal : a.row.length ≤ r.row.length := by rw [Tr.row_len a, hsb.ra, List.length_take]; omega
            go_wp2_with fail
            refine (concat_any (hl.below hb3) ha (.inr hs.fl) hsb.ca hPl hsb.pa (by omega)).mono ?_
            rintro e w4 ⟨g4, t4, rfl, hA4, hl4, hc4, hb4⟩
            go_wp2_with fail
            go_ret2
            refine ⟨g4, g2, t4, b, rfl, hA4, hb.below hb4, ⟨?_, ?_, hc4, hsb.cb, by rw [hl4]; exact hPl.glue hsb.pa, hsb.pb⟩, hB3.trans (hb4.mono hB3.size)⟩
            · rw [hl4, rowOf_glue, hsb.ra, HR.out, ← Tr.row_lv]
              exact take_right l.row r.row m (by omega)
            · rw [hsb.rb, HR.out]
              exact drop_right l.row r.row m (by omega)
end Go.Proofs.YtggdocnnbgcniaaDoor
