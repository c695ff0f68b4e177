import Derived.Test.YtggdocnnbgcniaaDoorRqG
namespace Go.Proofs.YtggdocnnbgcniaaDoor
open Go.RowKit Go.Lib
set_option maxRecDepth 100000

theorem rowOf_pos {l : List (List Int × Int)} (h : ∀ p ∈ l, p.1 ≠ []) (hl : l ≠ []) : 0 < (rowOf l).length := by
  obtain ⟨p, t, rfl⟩ := List.exists_cons_of_ne_nil hl
  rw [rowOf_cons, List.length_append, List.length_map]
  have := List.length_pos_iff.2 (h p (by simp))
  omega
theorem cut_left {X Y A B : List (List Int × Int)} (hne : ∀ p ∈ A, p.1 ≠ []) (h : X ++ Y = A ++ B) (hl : (rowOf A).length ≤ (rowOf X).length) : ∃ C, X = A ++ C ∧ B = C ++ Y := by
  rcases List.append_eq_append_iff.1 h with ⟨c, rfl, rfl⟩ | ⟨c, rfl, rfl⟩
  · rw [rowOf_append, List.length_append] at hl
    by_cases hc : c = []
    · subst hc; exact ⟨[], by simp, by simp⟩
    · have := rowOf_pos (fun p hp => hne p (List.mem_append_right _ hp)) hc
      omega
  · exact ⟨c, rfl, rfl⟩
theorem cut_right {X Y A B : List (List Int × Int)} (h : X ++ Y = A ++ B) (hl : (rowOf X).length < (rowOf A).length) : ∃ C, A = X ++ C ∧ Y = C ++ B := by
  rcases List.append_eq_append_iff.1 h with ⟨c, rfl, rfl⟩ | ⟨c, rfl, rfl⟩
  · exact ⟨c, rfl, rfl⟩
  · rw [rowOf_append, List.length_append] at hl
    omega
/-- A tree, parted between two pieces. -/
structure SB (A B : List (List Int × Int)) (a b : Tr) : Prop where
  la : a.lv = A
  lb : b.lv = B
  ca : a.Can
  cb : b.Can
theorem at_nil (w : World) : At (w.alloc (.cells (nodeCells Tr.nil.sm (.slice none 0 0) (.pointer none) (.pointer none) 0) 90)) .nil w.heap.size := heap_alloc_new _ _
set_option maxHeartbeats 4000000 in
theorem split_bdry : ∀ (N : Nat) {w : World} {t : Tr} {g : Nat}, t.sm.high ≤ (N : Int) → At w t g → t.Fine → Pcs t.lv → t.row.length ≤ 1048576 → ∀ {A B : List (List Int × Int)}, t.lv = A ++ B → ∀ n : Int, n = ((rowOf A).length : Int) →
    Calls Tryd.prog 53 #[.pointer (some ⟨g, 0, none⟩), .int .i64 n] w fun e w' => ∃ g1 g2 a b, e = .returned (.tuple #[.pointer (some ⟨g1, 0, none⟩), .pointer (some ⟨g2, 0, none⟩)]) ∧ At w' a g1 ∧ At w' b g2 ∧ SB A B a b ∧ Below w.heap.size w w' := by
  intro N
  induction N with
  | zero =>
    intro w t g hN hA hf
    have := hf.pos
    omega
  | succ N ih =>
    intro w t g hN hA hf hP hn A B hAB n hat
    have IH : Hid (∀ {w : World} {t : Tr} {g : Nat}, t.sm.high ≤ (N : Int) → At w t g → t.Fine → Pcs t.lv → t.row.length ≤ 1048576 → ∀ {A B : List (List Int × Int)}, t.lv = A ++ B → ∀ n : Int, n = ((rowOf A).length : Int) → Calls Tryd.prog 53 #[.pointer (some ⟨g, 0, none⟩), .int .i64 n] w fun e w' => ∃ g1 g2 a b, e = .returned (.tuple #[.pointer (some ⟨g1, 0, none⟩), .pointer (some ⟨g2, 0, none⟩)]) ∧ At w' a g1 ∧ At w' b g2 ∧ SB A B a b ∧ Below w.heap.size w w') := ih
    clear ih
    have hneA : ∀ p ∈ A, p.1 ≠ [] := fun p hp => hP.some_ p (by rw [hAB]; exact List.mem_append_left _ hp)
    have hneB : ∀ p ∈ B, p.1 ≠ [] := fun p hp => hP.some_ p (by rw [hAB]; exact List.mem_append_right _ hp)
    have hrl : t.row.length = (rowOf A).length + (rowOf B).length := by rw [Tr.row_len, hAB, rowOf_append, List.length_append]
    have hsc := t.sm_cells
    by_cases hA0 : A = []
    · subst hA0
      have h0 : n = 0 := hat
      subst h0
      have hsb : SB [] B .nil t := ⟨rfl, by simpa using hAB, .inl rfl, .inr hf⟩
      clear hat hneA hneB hrl
      go_enter Tryd.func53, Tryd.ntmps53
      go_wp2_with fail
      go_ret2
      exact ⟨w.heap.size, g, .nil, t, rfl, at_nil w, hA.below ((Below.refl _ _).alloc (Nat.le_refl _) _), hsb, (Below.refl _ _).alloc (Nat.le_refl _) _⟩
    · have pA := rowOf_pos hneA hA0
      by_cases hB0 : B = []
      · subst hB0
        have h0 : n = t.sm.cells := by rw [hat, hsc, hrl]; simp [rowOf]
        have hpos : 0 < t.sm.cells := by omega
        subst h0
        have hsb : SB A [] t .nil := ⟨by simpa using hAB, rfl, .inr hf, .inl rfl⟩
        have c0 := hA.cells
        clear hat hneA hneB hrl hsc
        go_enter Tryd.func53, Tryd.ntmps53
        go_wp2_with fail
        go_ret2
        exact ⟨g, w.heap.size, t, .nil, rfl, hA.below ((Below.refl _ _).alloc (Nat.le_refl _) _), at_nil w, hsb, (Below.refl _ _).alloc (Nat.le_refl _) _⟩
      · have pB := rowOf_pos hneB hB0
        have hlt : n < t.sm.cells := by omega
        have hgt : 0 < n := by omega
        have hnode : ∃ l r st, t = .node l r st := by
          cases t with
          | nil => exact hf.wf.elim
          | leaf rs hid st =>
            exfalso
            have h1 : (Tr.leaf rs hid st).lv.length = A.length + B.length := by rw [hAB, List.length_append]
            have h2 := List.length_pos_iff.2 hA0
            have h3 := List.length_pos_iff.2 hB0
            simp [Tr.lv] at h1
            omega
          | node l r st => exact ⟨l, r, st, rfl⟩
        have hh2 : 2 ≤ t.sm.high := by
          obtain ⟨l, r, st, rfl⟩ := hnode
          exact hf.wf.high_node
        have HIP := smIsPiece_any t.sm
        rw [show decide (t.sm.high ≤ 1) = false by simp; omega] at HIP
        obtain ⟨c0, c1, c2, c3, c4, c5, c6, c7, c8, c9⟩ := hA.ten
        have hgl := hA.lt
        have HAT0 : Hid (n = ((rowOf A).length : Int)) := hat
        have HSC0 : Hid (t.sm.cells = (t.row.length : Int)) := hsc
        have HRL0 : Hid (t.row.length = (rowOf A).length + (rowOf B).length) := hrl
        have HAB0 : Hid (t.lv = A ++ B) := hAB
        clear hnode hneB hat hsc hrl hAB
        go_enter Tryd.func53, Tryd.ntmps53
        go_wp2_with fail
        refine (HIP _).mono ?_
        rintro e w1 ⟨rfl, hb1⟩
        clear c1 c2 c3 c4 c5 c6 c7 c8 c9
        go_wp2_with fail
        refine (sides_p (hA.below hb1) hf hh2 (by omega)).mono ?_
        rintro e w2 ⟨gl, gr, l, r, rfl, hl, hr, hs, hb2⟩
        have hB2 := hb1.trans (hb2.mono hb1.size)
        have hat := HAT0.out
        have hsc := HSC0.out
        have hrl := HRL0.out
        have hAB := HAB0.out
        have hlv := hs.lv
        have hlen := hs.len
        have q0 := hs.high
        have hLr := l.row_len
        have hRr := r.row_len
        have hPl : Pcs l.lv := by rw [hlv] at hP; exact hP.left
        have hPr : Pcs r.lv := by rw [hlv] at hP; exact hP.right
        have d0 := hl.cells
        have hlc := l.sm_cells
        have hlb : 0 ≤ l.sm.cells ∧ l.sm.cells ≤ 2097152 := by omega
        have hXY : l.lv ++ r.lv = A ++ B := by rw [← hlv, hAB]
        have pl := hs.fl.pos
        have pr := hs.fr.pos
        by_cases hle : (rowOf A).length ≤ (rowOf l.lv).length
        · obtain ⟨C, eX, eB⟩ := cut_left hneA hXY hle
          have hcmp : n ≤ l.sm.cells := by omega
          have hm : Meet C r.lv := by
            have : Pcs (C ++ r.lv) := by rw [← eB]; rw [hAB] at hP; exact hP.right
            exact this.meet
          have hat' : n = ((rowOf A).length : Int) := hat
          have HX : Hid (l.lv = A ++ C) := eX
          have HB : Hid (B = C ++ r.lv) := eB
          have HAT : Hid (n = ((rowOf A).length : Int)) := hat'
          have hCl : (rowOf C).length + r.row.length ≤ 2097152 := by
            have := congrArg (fun x => (rowOf x).length) eX
            simp only [rowOf_append, List.length_append] at this
            omega
          clear eX eB hat hat' hXY hAB hlv hrl hsc hlc hLr hRr
          go_wp2_with fail
          refine (IH.out (by omega) hl hs.fl hPl (by omega) HX.out n HAT.out).mono ?_
          rintro e w3 ⟨g1, g2, a, b, rfl, ha, hb, hsb, hb3⟩
          have hB3 := hB2.trans (hb3.mono hB2.size)
          go_wp2_with fail
          refine (concat_meet hb (hr.below hb3) hsb.cb (.inr hs.fr) (by rw [hsb.lb]; exact hm) (by rw [Tr.row_len b, hsb.lb]; omega)).mono ?_
          rintro e w4 ⟨g4, t4, rfl, hA4, hj4, hb4⟩
          go_wp2_with fail
          go_ret2
          exact ⟨g1, g4, a, t4, rfl, ha.below hb4, hA4, ⟨hsb.la, by rw [hj4.lv, hsb.lb, HB.out], hsb.ca, hj4.can⟩, hB3.trans (hb4.mono hB3.size)⟩
        · obtain ⟨C, eA, eY⟩ := cut_right hXY (by omega)
          have hcmp : ¬ n ≤ l.sm.cells := by omega
          have hm : Meet l.lv C := by
            have : Pcs (l.lv ++ C) := by rw [← eA]; rw [hAB] at hP; exact hP.left
            exact this.meet
          have hrA : (rowOf A).length = (rowOf l.lv).length + (rowOf C).length := by rw [eA, rowOf_append, List.length_append]
          have hd : n - l.sm.cells = ((rowOf C).length : Int) := by omega
          have HD : Hid (n - l.sm.cells = ((rowOf C).length : Int)) := hd
          have HY : Hid (r.lv = C ++ B) := eY
          have HA : Hid (A = l.lv ++ C) := eA
          have hCl : l.row.length + (rowOf C).length ≤ 2097152 := by omega
          have hnb : n ≤ 2097152 := by omega
          have hrn : r.row.length ≤ 1048576 := by omega
          clear eA eY hat hXY hAB hlv hrl hsc hlc hd hrA hLr hRr
          go_wp2_with fail
          refine (IH.out (by omega) hr hs.fr hPr hrn HY.out _ HD.out).mono ?_
          rintro e w3 ⟨g1, g2, a, b, rfl, ha, hb, hsb, hb3⟩
          have hB3 := hB2.trans (hb3.mono hB2.size)
          go_wp2_with fail
          refine (concat_meet (hl.below hb3) ha (.inr hs.fl) hsb.ca (by rw [hsb.la]; exact hm) (by rw [Tr.row_len a, hsb.la]; omega)).mono ?_
          rintro e w4 ⟨g4, t4, rfl, hA4, hj4, hb4⟩
          go_wp2_with fail
          go_ret2
          exact ⟨g4, g2, t4, b, rfl, hA4, hb.below hb4, ⟨by rw [hj4.lv, hsb.la, HA.out], hsb.lb, hj4.can, hsb.cb⟩, hB3.trans (hb4.mono hB3.size)⟩
end Go.Proofs.YtggdocnnbgcniaaDoor
