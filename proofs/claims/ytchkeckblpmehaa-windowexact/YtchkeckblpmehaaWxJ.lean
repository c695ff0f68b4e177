import Derived.Test.YtchkeckblpmehaaWxI
/-! What take leaves in memory. -/
namespace Go.Proofs.Ytchkeckblpmehaa
open Go.RowKit Go.Lib
def gSl (x : Hp) : Option Addr × Nat × Nat := (x.ga, x.gn, x.gc)
def wSl (x : Hp) : Option Addr × Nat × Nat := (x.wa, x.wn, x.wc)
theorem flat_got (ps : List Hp) : flatF gotV ps = flatF slV (ps.map gSl) := by
  induction ps with
  | nil => rfl
  | cons x ps ih => simp only [flatF, List.flatMap_cons, List.map_cons] at ih ⊢; rw [ih]; rfl
theorem flat_want (ps : List Hp) : flatF wantV ps = flatF slV (ps.map wSl) := by
  induction ps with
  | nil => rfl
  | cons x ps ih => simp only [flatF, List.flatMap_cons, List.map_cons] at ih ⊢; rw [ih]; rfl
theorem set_box2 {W : World} {q : Nat} {u v x y : Value} {T : TypeId} (h : W.heap[q]? = some (.cells #[u, v] T)) : (W.setCell ⟨q, 0, none⟩ x).heap[q]? = some (.cells #[x, v] T) ∧ (W.setCell ⟨q, 1, none⟩ y).heap[q]? = some (.cells #[u, y] T) := ⟨heap_setCell_cells h 0 _, heap_setCell_cells h 1 _⟩
set_option maxHeartbeats 1000000 in
theorem take_mem {X : World} {B C D q : Nat} {a a' la a4 : Option Addr} {n c c' i lc c4 : Nat} {ps : List Hp} {m : List Int} {mk : Int} (h : HdAt X B q (.slice a n c) (.slice a' n c') ps) (hl : OwnF intV 1 3 X C (.slice la i lc) m) (hw : OwnF intV 1 3 X D (.slice a4 i c4) m)
    (hC : ∀ g, HB q (.slice a n c) (.slice a' n c') ps g → g < C) (hBC : B ≤ C) (hCD : C ≤ D) (hDX : D ≤ X.heap.size) (hla : ∀ g, (Value.slice la i lc).ownBlock = some g → g < D) (hpn : ps.length = n) (hml : m.length = i) (hn : n ≤ 1073741824) (hi : i ≤ 1073741824) :
    ∃ g1 c1 Z2 g2 c2 Z4 Z5 k1 d1 Y2 k2 d2 Y4 Y5, (Builtin.append_ #[56, 56] 56 #[.slice la i lc, .slice (some ⟨X.heap.size, 0, none⟩) 2 2]).run Try.prog (X.alloc (.cells #[.int .i64 mk, .int .i64 mk] 3)) = .ok (.slice (some ⟨g1, 0, none⟩) (i + 2) c1) Z2 ∧
      (Builtin.append_ #[26, 26] 26 #[.slice a n c, .slice (some ⟨Z2.heap.size, 0, none⟩) 2 2]).run Try.prog (Z2.alloc (.cells #[.slice la i lc, .slice (some ⟨g1, 0, none⟩) (i + 2) c1] 56)) = .ok (.slice (some ⟨g2, 0, none⟩) (n + 2) c2) Z4 ∧
      (X.alloc (.cells #[.int .i64 mk, .int .i64 mk] 3)).cell? ⟨q, 0, none⟩ = some (.slice a n c) ∧ Z2.cell? ⟨q, 0, none⟩ = some (.slice a n c) ∧ (Z2.alloc (.cells #[.slice la i lc, .slice (some ⟨g1, 0, none⟩) (i + 2) c1] 56)).cell? ⟨q, 0, none⟩ = some (.slice a n c) ∧ Z4.cell? ⟨q, 0, none⟩ = some (.slice a n c) ∧ Z4.frozen? ⟨q, 0, none⟩ = false ∧
      Z4.setCell ⟨q, 0, none⟩ (.slice (some ⟨g2, 0, none⟩) (n + 2) c2) = Z5 ∧ Z5.drew.cell? ⟨q, 1, none⟩ = some (.slice a' n c') ∧
      (Builtin.append_ #[56, 56] 56 #[.slice a4 i c4, .slice (some ⟨Z5.drew.heap.size, 0, none⟩) 2 2]).run Try.prog (Z5.drew.alloc (.cells #[.int .i64 mk, .int .i64 mk] 3)) = .ok (.slice (some ⟨k1, 0, none⟩) (i + 2) d1) Y2 ∧
      (Builtin.append_ #[26, 26] 26 #[.slice a' n c', .slice (some ⟨Y2.heap.size, 0, none⟩) 2 2]).run Try.prog (Y2.alloc (.cells #[.slice a4 i c4, .slice (some ⟨k1, 0, none⟩) (i + 2) d1] 56)) = .ok (.slice (some ⟨k2, 0, none⟩) (n + 2) d2) Y4 ∧
      (Z5.drew.alloc (.cells #[.int .i64 mk, .int .i64 mk] 3)).cell? ⟨q, 1, none⟩ = some (.slice a' n c') ∧ Y2.cell? ⟨q, 1, none⟩ = some (.slice a' n c') ∧ (Y2.alloc (.cells #[.slice a4 i c4, .slice (some ⟨k1, 0, none⟩) (i + 2) d1] 56)).cell? ⟨q, 1, none⟩ = some (.slice a' n c') ∧ Y4.cell? ⟨q, 1, none⟩ = some (.slice a' n c') ∧ Y4.frozen? ⟨q, 1, none⟩ = false ∧
      Y4.setCell ⟨q, 1, none⟩ (.slice (some ⟨k2, 0, none⟩) (n + 2) d2) = Y5 ∧
      ∃ va' vb' ps', HdAt Y5 B q va' vb' ps' ∧ ps'.length = ps.length + 2 ∧ (∀ x ∈ ps', x ∈ ps ∨ x.l.length ≤ m.length + 2) ∧ (∀ g, HB q va' vb' ps' g → HB q (.slice a n c) (.slice a' n c') ps g ∨ C ≤ g) ∧ Chg (fun g => HB q (.slice a n c) (.slice a' n c') ps g ∨ C ≤ g) X Y5 := by
  have hT : (3 : TypeId) ≠ 56 := by decide
  have hT2 : (3 : TypeId) ≠ 28 := by decide
  have hT3 : (56 : TypeId) ≠ 28 := by decide
  have hgot : OwnF slV 1 56 X B (.slice a n c) (ps.map gSl) := ownF_congr h.got (by simp) (flat_got ps)
  have hwant : OwnF slV 1 56 X B (.slice a' n c') (ps.map wSl) := ownF_congr h.want (by simp) (flat_want ps)
  obtain ⟨g1, c1, Z2, g2, c2, Z4, hr1, hr2, q1, q2, q3, q4, ho, hol, hol2, hch, hg1, hg2⟩ := grow2 (mk := mk) hgot hl h.box (by simp [hpn]) hml hn hi h.base (by omega)
  obtain ⟨Z5, hZ5⟩ : ∃ Z5, Z4.setCell ⟨q, 0, none⟩ (.slice (some ⟨g2, 0, none⟩) (n + 2) c2) = Z5 := ⟨_, rfl⟩
  have hcs : Chg (fun g => g = q) Z4 Z5 := by rw [← hZ5]; exact Chg.set (D := fun g => g = q) (q := q) 0 _ _ rfl
  have hcd : Chg (fun g => g = q) Z4 Z5.drew := hcs.drew
  have hch1 : Chg (fun g => ((Value.slice a n c).ownBlock = some g ∨ (Value.slice la i lc).ownBlock = some g) ∨ g = q) X Z5.drew := (hch.mono fun g _ hg => .inl hg).trans (hcd.mono fun g _ hg => .inr hg)
  obtain ⟨Y, hY⟩ : ∃ Y, Z5.drew = Y := ⟨_, rfl⟩
  have hqY : Y.heap[q]? = some (.cells #[.slice (some ⟨g2, 0, none⟩) (n + 2) c2, .slice a' n c'] 28) := by rw [← hY]; show Z5.heap[q]? = _; rw [← hZ5]; exact (set_box2 (y := .slice none 0 0) q4).1
  have sZY : Y.heap.size = Z4.heap.size := by rw [← hY]; show Z5.heap.size = _; rw [← hZ5]; simp
  rw [hY] at hcd hch1
  have aq : (Value.slice a n c).ownBlock ≠ some q := own_ne_box hgot h.box hT3
  have aq' : (Value.slice a' n c').ownBlock ≠ some q := own_ne_box hwant h.box hT3
  have hwantY : OwnF slV 1 56 Y B (.slice a' n c') (ps.map wSl) := hwant.chgX hch1 (fun g hg e => by
    rcases e with (e | e) | e
    · exact h.ne g e hg
    · exact own_type hl hwant hT e hg
    · exact aq' (e ▸ hg))
  have hwY : OwnF intV 1 3 Y D (.slice a4 i c4) m := hw.chgX hch1 (fun g hg e => by
    rcases e with (e | e) | e
    · exact own_type hw hgot hT hg e
    · have h1 := hla g e; have h2 := hw.ge hg; omega
    · exact own_ne_box hw h.box hT2 (e ▸ hg))
  have s1 := hch.size
  obtain ⟨k1, d1, Y2, k2, d2, Y4, hs1, hs2, p1, p2, p3, p4, po, pol, pol2, pch, pg1, pg2⟩ := grow2 (mk := mk) hwantY hwY hqY (by simp [hpn]) hml hn hi (by have := h.base; omega) (by omega)
  obtain ⟨Y5, hY5⟩ : ∃ Y5, Y4.setCell ⟨q, 1, none⟩ (.slice (some ⟨k2, 0, none⟩) (n + 2) d2) = Y5 := ⟨_, rfl⟩
  have pcs : Chg (fun g => g = q) Y4 Y5 := by rw [← hY5]; exact Chg.set (D := fun g => g = q) (q := q) 1 _ _ rfl
  have hch2 : Chg (fun g => ((Value.slice a' n c').ownBlock = some g ∨ (Value.slice a4 i c4).ownBlock = some g) ∨ g = q) Y Y5 := (pch.mono fun g _ hg => .inl hg).trans (pcs.mono fun g _ hg => .inr hg)
  have hqY5 : Y5.heap[q]? = some (.cells #[.slice (some ⟨g2, 0, none⟩) (n + 2) c2, .slice (some ⟨k2, 0, none⟩) (n + 2) d2] 28) := by rw [← hY5]; exact (set_box2 (x := .slice none 0 0) p4).2
  refine ⟨g1, c1, Z2, g2, c2, Z4, Z5, k1, d1, Y2, k2, d2, Y4, Y5, hr1, hr2, (box2 q1).1, (box2 q2).1, (box2 q3).1, (box2 q4).1, Lib.frozen_of_heap q4 0, hZ5, by rw [hY]; exact (box2 hqY).2, by rw [hY]; exact hs1, hs2, by rw [hY]; exact (box2 p1).2, (box2 p2).2, (box2 p3).2, (box2 p4).2, Lib.frozen_of_heap p4 1, hY5, ?_⟩
  -- the rows in the last world
  have hgotY : OwnF slV 1 56 Y B (.slice (some ⟨g2, 0, none⟩) (n + 2) c2) (ps.map gSl ++ [(la, i, lc), (some ⟨g1, 0, none⟩, i + 2, c1)]) := ho.chgX hcd (fun g hg e => own_ne_box ho q4 hT3 (e ▸ hg))
  have g2lt := ho.lt (g := g2) rfl
  have ne2 : (Value.slice a' n c').ownBlock ≠ some g2 := fun e => by
    rcases hg2 with e2 | e2
    · exact h.ne g2 e2 e
    · have := hwant.lt e; omega
  have hgot5 := hgotY.chgX hch2 (fun g hg e => by
    have hg0 : g2 = g := by simpa [Value.ownBlock] using hg
    subst hg0
    rcases e with (e | e) | e
    · exact ne2 e
    · exact own_type hwY hgotY hT e hg
    · exact own_ne_box hgotY hqY hT3 (e ▸ hg))
  have hwant5 := po.chgX pcs (fun g hg e => own_ne_box po p4 hT3 (e ▸ hg))
  -- rows of ints
  have keep1 : ∀ {E : Nat} {v : Value} {z : List Int}, OwnF intV 1 3 X E v z → (∀ g, v.ownBlock = some g → g < C) → OwnF intV 1 3 Y5 E v z := fun {E v z} ho hlt => by
    have h1 : OwnF intV 1 3 Y E v z := ho.chgX hch1 (fun g hg e => by
      rcases e with (e | e) | e
      · exact own_type ho hgot hT hg e
      · have h1 := hl.ge e; have h2 := hlt g hg; omega
      · exact own_ne_box ho h.box hT2 (e ▸ hg))
    exact h1.chgX hch2 (fun g hg e => by
      rcases e with (e | e) | e
      · exact own_type h1 hwantY hT hg e
      · have h3 := hwY.ge e; have h2 := hlt g hg; omega
      · exact own_ne_box h1 hqY hT2 (e ▸ hg))
  have keep2 : ∀ {v : Value} {z : List Int}, OwnF intV 1 3 Z4 C v z → (∀ g, v.ownBlock = some g → g < D ∨ X.heap.size ≤ g) → OwnF intV 1 3 Y5 C v z := fun {v z} ho hlt => by
    have h1 : OwnF intV 1 3 Y C v z := ho.chgX hcd (fun g hg e => own_ne_box ho q4 hT2 (e ▸ hg))
    exact h1.chgX hch2 (fun g hg e => by
      rcases e with (e | e) | e
      · exact own_type h1 hwantY hT hg e
      · have h3 := hwY.ge e; have h4 := hw.lt e; have h2 := hlt g hg; omega
      · exact own_ne_box h1 hqY hT2 (e ▸ hg))
  have keep3 : ∀ {v : Value} {z : List Int}, OwnF intV 1 3 Y4 D v z → OwnF intV 1 3 Y5 D v z := fun {v z} ho => ho.chgX pcs (fun g hg e => own_ne_box ho p4 hT2 (e ▸ hg))
  have r1 := keep2 hol (fun g hg => .inl (hla g hg))
  have r2 := keep2 hol2 (fun g hg => by
    have hg0 : g1 = g := by simpa [Value.ownBlock] using hg
    subst hg0
    rcases hg1 with e | e
    · exact .inl (hla _ e)
    · exact .inr e)
  have r3 := keep3 pol
  have r4 := keep3 pol2
  let x1 : Hp := ⟨la, i, lc, a4, i, c4, m⟩
  let x2 : Hp := ⟨some ⟨g1, 0, none⟩, i + 2, c1, some ⟨k1, 0, none⟩, i + 2, d1, m ++ [mk, mk]⟩
  have hB' : ∀ {g : Nat}, HB q (.slice (some ⟨g2, 0, none⟩) (n + 2) c2) (.slice (some ⟨k2, 0, none⟩) (n + 2) d2) (ps ++ [x1, x2]) g → HB q (.slice a n c) (.slice a' n c') ps g ∨ C ≤ g := fun {g} hg => by
    rcases hg with rfl | hg | hg | ⟨x, hx, hg⟩
    · exact .inl (.inl rfl)
    · have hg0 : g2 = g := by simpa [Value.ownBlock] using hg
      subst hg0
      rcases hg2 with e | e
      · exact .inl (.inr (.inl e))
      · exact .inr (by omega)
    · have hg0 : k2 = g := by simpa [Value.ownBlock] using hg
      subst hg0
      rcases pg2 with e | e
      · exact .inl (.inr (.inr (.inl e)))
      · exact .inr (by omega)
    · rcases List.mem_append.1 hx with hx | hx
      · exact .inl (.inr (.inr (.inr ⟨x, hx, hg⟩)))
      · right
        simp only [List.mem_cons, List.not_mem_nil, or_false] at hx
        rcases hx with rfl | rfl
        · rcases hg with hg | hg
          · exact r1.ge hg
          · have := r3.ge hg; omega
        · rcases hg with hg | hg
          · exact r2.ge hg
          · have := r4.ge hg; omega
  refine ⟨.slice (some ⟨g2, 0, none⟩) (n + 2) c2, .slice (some ⟨k2, 0, none⟩) (n + 2) d2, ps ++ [x1, x2], ⟨hqY5, ownF_congr hgot5 (by simp) (by rw [flat_got]; simp [gSl, x1, x2]), ownF_congr hwant5 (by simp) (by rw [flat_want]; simp [wSl, x1, x2]), ?_, ?_, ?_⟩, by simp, ?_, fun g hg => hB' hg, ?_⟩
  · intro g hg hg'
    have hg0 : g2 = g := by simpa [Value.ownBlock] using hg
    have hg1' : k2 = g := by simpa [Value.ownBlock] using hg'
    subst hg0
    subst hg1'
    rcases pg2 with e | e
    · exact ne2 e
    · omega
  · intro x hx
    rcases List.mem_append.1 hx with hx | hx
    · exact ⟨keep1 (h.each x hx).1 (fun g hg => hC g (.inr (.inr (.inr ⟨x, hx, .inl hg⟩)))), keep1 (h.each x hx).2 (fun g hg => hC g (.inr (.inr (.inr ⟨x, hx, .inr hg⟩))))⟩
    · simp only [List.mem_cons, List.not_mem_nil, or_false] at hx
      rcases hx with rfl | rfl
      · exact ⟨r1.mono hBC, r3.mono (by omega)⟩
      · exact ⟨r2.mono hBC, r4.mono (by omega)⟩
  · have h1 := h.base
    have h2 := hch1.size
    have h3 := hch2.size
    omega
  · intro x hx
    rcases List.mem_append.1 hx with hx | hx
    · exact .inl hx
    · right
      simp only [List.mem_cons, List.not_mem_nil, or_false] at hx
      rcases hx with rfl | rfl
      · show m.length ≤ m.length + 2
        omega
      · show (m ++ [mk, mk]).length ≤ m.length + 2
        simp
  · refine (hch1.mono fun g _ hg => ?_).then hch2 (fun g hg => ?_)
    · rcases hg with (e | e) | e
      · exact .inl (.inr (.inl e))
      · exact .inr (hl.ge e)
      · exact .inl (.inl e)
    · rcases hg with (e | e) | e
      · exact .inl (.inl (.inr (.inr (.inl e))))
      · exact .inl (.inr (by have := hwY.ge e; omega))
      · exact .inl (.inl (.inl e))
end Go.Proofs.Ytchkeckblpmehaa
