import Derived.Test.YtaaegedmilpcfaaDoorRpP
/-! Bounds of a tree's numbers. -/
namespace Go.Proofs.YtaaegedmilpcfaaDoor
set_option maxRecDepth 100000

/-- What a counter may be, while a tree is being made. -/
def Lim (x : Int) : Prop := -2 ≤ x ∧ x ≤ 1048578
def LimR (l : List (Int × Int)) : Prop := ∀ c ∈ l, Lim c.2
theorem LimR.left {l k : List (Int × Int)} (h : LimR (l ++ k)) : LimR l := fun c hc => h c (List.mem_append_left _ hc)
theorem LimR.right {l k : List (Int × Int)} (h : LimR (l ++ k)) : LimR k := fun c hc => h c (List.mem_append_right _ hc)
theorem LimR.append {l k : List (Int × Int)} (h : LimR l) (g : LimR k) : LimR (l ++ k) := fun c hc => (List.mem_append.1 hc).elim (h c) (g c)
def Tr.Bd : Tr → Prop
  | .nil => True
  | .leaf _ h st => Lim h ∧ Lim (h - st)
  | .node l r st => l.Bd ∧ r.Bd ∧ LimR (Tr.node l r st).row
theorem Tr.Bd.row {t : Tr} (h : t.Bd) : LimR t.row := by
  cases t with
  | nil => intro c hc; cases hc
  | leaf rs hid st =>
    intro c hc
    obtain ⟨x, _, rfl⟩ := List.mem_map.1 hc
    exact h.1
  | node l r st => exact h.2.2
theorem Tr.Bd.raise {t : Tr} (hw : t.Wf) (h : t.Bd) (d : Int) (hl : LimR (t.raise d).row) : (t.raise d).Bd := by
  cases t with
  | nil => exact hw.elim
  | leaf rs hid st =>
    refine ⟨?_, ?_⟩
    · obtain ⟨x, tl, rfl⟩ := List.exists_cons_of_ne_nil hw
      exact hl (x, hid + d) (by simp [Tr.raise, Tr.row])
    · show Lim (hid + d - (st + d))
      rw [show hid + d - (st + d) = hid - st by omega]
      exact h.2
  | node l r st => exact ⟨h.1, h.2.1, hl⟩
/-- The sides, when all has come. -/
theorem Tr.Bd.sides {l r : Tr} {st : Int} (hw : (Tr.node l r st).Wf) (h : (Tr.node l r st).Bd) : (l.raise st).Bd ∧ (r.raise st).Bd := by
  have hr := h.2.2
  rw [Tr.row_node] at hr
  exact ⟨h.1.raise hw.1 st hr.left, h.2.1.raise hw.2 st hr.right⟩
theorem Tr.Bd.still {l r : Tr} {st : Int} (hw : (Tr.node l r st).Wf) (h : (Tr.node l r st).Bd) : -1048600 ≤ st ∧ st ≤ 1048600 := by
  have hp := hw.1.pos
  obtain ⟨c, hc⟩ := List.exists_mem_of_length_pos hp
  have h1 := h.1.row c hc
  have h2 := h.2.2 (c.1, c.2 + st) (by simp only [Tr.row]; rw [mem_upL]; simp; exact .inl hc)
  unfold Lim at h1 h2
  simp only at h2
  omega
theorem Tr.Bd.leafStill {rs : List Int} {hid st : Int} (h : (Tr.leaf rs hid st).Bd) : -1048600 ≤ st ∧ st ≤ 1048600 := by
  have h1 := h.1
  have h2 := h.2
  unfold Lim at h1 h2
  omega
/-- The numbers of a row. -/
structure SmIn (s : Sm) (l : List (Int × Int)) : Prop where
  least : ∃ c ∈ l, c.2 = s.least
  most : ∃ c ∈ l, c.2 = s.most
  fh : ∃ c ∈ l, c.2 = s.fh
  lh : ∃ c ∈ l, c.2 = s.lh
  pieces : 1 ≤ s.pieces ∧ s.pieces ≤ l.length
  high : 1 ≤ s.high ∧ s.high ≤ s.pieces
  lowest : 1 ≤ s.lowest ∧ s.lowest ≤ l.length
  fc : 1 ≤ s.fc ∧ s.fc ≤ l.length
  lc : 1 ≤ s.lc ∧ s.lc ≤ l.length
theorem SmIn.up {s : Sm} {l : List (Int × Int)} (h : SmIn s l) (d : Int) : SmIn (s.raised d) (upL d l) := by
  have key : ∀ x, (∃ c ∈ l, c.2 = x) → ∃ c ∈ upL d l, c.2 = x + d := fun x ⟨c, hc, e⟩ => ⟨(c.1, c.2 + d), by rw [mem_upL]; simpa using hc, by simp only; omega⟩
  refine ⟨key _ h.least, key _ h.most, key _ h.fh, key _ h.lh, ?_, h.high, ?_, ?_, ?_⟩ <;> rw [upL_length]
  · exact h.pieces
  · exact h.lowest
  · exact h.fc
  · exact h.lc
theorem SmIn.both {s t : Sm} {l k : List (Int × Int)} (h : SmIn s l) (g : SmIn t k) : SmIn (s.both t) (l ++ k) := by
  have lft : ∀ x, (∃ c ∈ l, c.2 = x) → ∃ c ∈ l ++ k, c.2 = x := fun x ⟨c, hc, e⟩ => ⟨c, List.mem_append_left _ hc, e⟩
  have rgt : ∀ x, (∃ c ∈ k, c.2 = x) → ∃ c ∈ l ++ k, c.2 = x := fun x ⟨c, hc, e⟩ => ⟨c, List.mem_append_right _ hc, e⟩
  have h1 := h.pieces
  have h2 := g.pieces
  have h3 := h.high
  have h4 := g.high
  have h5 := h.lowest
  have h6 := g.lowest
  have h7 := h.fc
  have h8 := g.lc
  have hlen : ((l ++ k).length : Int) = l.length + k.length := by simp
  refine ⟨?_, ?_, lft _ h.fh, rgt _ g.lh, ?_, ?_, ?_, ?_, ?_⟩
  · by_cases e : s.least ≤ t.least
    · have := lft _ h.least; simp only [Sm.both]; rw [show min s.least t.least = s.least by omega]; exact this
    · have := rgt _ g.least; simp only [Sm.both]; rw [show min s.least t.least = t.least by omega]; exact this
  · by_cases e : t.most ≤ s.most
    · have := lft _ h.most; simp only [Sm.both]; rw [show max s.most t.most = s.most by omega]; exact this
    · have := rgt _ g.most; simp only [Sm.both]; rw [show max s.most t.most = t.most by omega]; exact this
  · simp only [Sm.both]; omega
  · simp only [Sm.both]; omega
  · simp only [Sm.both, lowOf]
    split <;> split <;> omega
  · simp only [Sm.both]; omega
  · simp only [Sm.both]; omega
theorem Tr.Wf.smIn {t : Tr} (h : t.Wf) : SmIn t.sm t.row := by
  induction t with
  | nil => exact h.elim
  | leaf rs hid st =>
    have hp : 0 < rs.length := List.length_pos_iff.2 h
    obtain ⟨x, tl, rfl⟩ := List.exists_cons_of_ne_nil h
    have hin : ∃ c ∈ (Tr.leaf (x :: tl) hid st).row, c.2 = hid := ⟨(x, hid), by simp [Tr.row], rfl⟩
    refine ⟨hin, hin, hin, hin, ?_, ?_, ?_, ?_, ?_⟩ <;> simp [Tr.sm, Tr.row, pieceSm] <;> omega
  | node l r st ihl ihr => exact ((ihl h.1).both (ihr h.2)).up st
/-- All that walks over a node's sums want. -/
structure SmBd (s : Sm) : Prop where
  cells : 0 ≤ s.cells ∧ s.cells ≤ 2097152
  pieces : 0 ≤ s.pieces ∧ s.pieces ≤ 2097152
  high : 0 ≤ s.high ∧ s.high ≤ 2097152
  least : -2 ≤ s.least ∧ s.least ≤ 1048578
  most : -2 ≤ s.most ∧ s.most ≤ 1048578
  lowest : 0 ≤ s.lowest ∧ s.lowest ≤ 2097152
  fc : 0 ≤ s.fc ∧ s.fc ≤ 2097152
  fh : -2 ≤ s.fh ∧ s.fh ≤ 1048578
  lc : 0 ≤ s.lc ∧ s.lc ≤ 2097152
  lh : -2 ≤ s.lh ∧ s.lh ≤ 1048578
theorem Tr.smBd {t : Tr} (h : t.Ok) (hb : t.Bd) (hn : t.row.length ≤ 2097152) : SmBd t.sm := by
  rcases h with rfl | h
  · constructor <;> decide
  · have hs := h.smIn
    have hc := t.sm_cells
    have key : ∀ x, (∃ c ∈ t.row, c.2 = x) → -2 ≤ x ∧ x ≤ 1048578 := fun x ⟨c, hc, e⟩ => by
      have := hb.row c hc
      unfold Lim at this
      omega
    have h1 := hs.pieces
    have h2 := hs.high
    have h3 := hs.lowest
    have h4 := hs.fc
    have h5 := hs.lc
    exact ⟨by omega, by omega, by omega, key _ hs.least, key _ hs.most, by omega, by omega, key _ hs.fh, by omega, key _ hs.lh⟩
end Go.Proofs.YtaaegedmilpcfaaDoor
