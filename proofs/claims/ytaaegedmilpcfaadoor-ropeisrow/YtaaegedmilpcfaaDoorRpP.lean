/-! The tree of package rope, as plain data: what its sums tell of its row. -/
namespace Go.Proofs.YtaaegedmilpcfaaDoor
set_option maxRecDepth 100000

/-- A node's sums. -/
structure Sm where
  cells : Int
  pieces : Int
  high : Int
  least : Int
  most : Int
  lowest : Int
  fc : Int
  fh : Int
  lc : Int
  lh : Int
def Sm.raised (s : Sm) (d : Int) : Sm := ⟨s.cells, s.pieces, s.high, s.least + d, s.most + d, s.lowest, s.fc, s.fh + d, s.lc, s.lh + d⟩
def lowOf (least lowest b : Int) : Int := if least = b then lowest else 0
def Sm.both (s t : Sm) : Sm := ⟨s.cells + t.cells, s.pieces + t.pieces, max s.high t.high + 1, min s.least t.least, max s.most t.most, lowOf s.least s.lowest (min s.least t.least) + lowOf t.least t.lowest (min s.least t.least), s.fc, s.fh, t.lc, t.lh⟩
def Sm.shown (s : Sm) : Int := if 0 < s.least then 0 else s.lowest

inductive Tr where
  | nil
  | leaf (rs : List Int) (hid st : Int)
  | node (l r : Tr) (st : Int)

def pieceSm (n h : Int) : Sm := ⟨n, 1, 1, h, h, n, n, h, n, h⟩
def Tr.sm : Tr → Sm
  | .nil => ⟨0, 0, 0, 0, 0, 0, 0, 0, 0, 0⟩
  | .leaf rs h _ => pieceSm rs.length h
  | .node l r st => (l.sm.both r.sm).raised st
def upL (d : Int) (l : List (Int × Int)) : List (Int × Int) := l.map fun c => (c.1, c.2 + d)
def Tr.row : Tr → List (Int × Int)
  | .nil => []
  | .leaf rs h _ => rs.map fun c => (c, h)
  | .node l r st => upL st (l.row ++ r.row)
def Tr.raise (t : Tr) (d : Int) : Tr := match t with
  | .nil => .nil
  | .leaf rs h st => .leaf rs (h + d) (st + d)
  | .node l r st => .node l r (st + d)
/-- What stands in a row of one's own: no empty piece, nothing empty beneath a node. -/
def Tr.Wf : Tr → Prop
  | .nil => False
  | .leaf rs _ _ => rs ≠ []
  | .node l r _ => l.Wf ∧ r.Wf

theorem upL_zero (l : List (Int × Int)) : upL 0 l = l := by
  unfold upL
  rw [List.map_congr_left (g := id) (fun c _ => by simp)]
  simp
theorem upL_upL (a b : Int) (l : List (Int × Int)) : upL a (upL b l) = upL (b + a) l := by
  unfold upL
  rw [List.map_map]
  exact List.map_congr_left fun c _ => by simp [Int.add_assoc]
theorem upL_length (a : Int) (l : List (Int × Int)) : (upL a l).length = l.length := by simp [upL]
theorem upL_append (a : Int) (l k : List (Int × Int)) : upL a (l ++ k) = upL a l ++ upL a k := by simp [upL]
theorem upL_take (a : Int) (l : List (Int × Int)) (n : Nat) : (upL a l).take n = upL a (l.take n) := by simp [upL, List.map_take]
theorem upL_drop (a : Int) (l : List (Int × Int)) (n : Nat) : (upL a l).drop n = upL a (l.drop n) := by simp [upL, List.map_drop]
theorem Tr.row_raise (t : Tr) (d : Int) : (t.raise d).row = upL d t.row := by
  cases t with
  | nil => rfl
  | leaf rs h st => simp [Tr.raise, Tr.row, upL]
  | node l r st => simp only [Tr.raise, Tr.row]; rw [upL_upL]
theorem Tr.sm_raise (t : Tr) (h : t.Wf) (d : Int) : (t.raise d).sm = t.sm.raised d := by
  cases t with
  | nil => exact h.elim
  | leaf rs h st => rfl
  | node l r st => simp [Tr.raise, Tr.sm, Sm.raised, Int.add_assoc]
theorem Tr.wf_raise (t : Tr) (h : t.Wf) (d : Int) : (t.raise d).Wf := by cases t <;> exact h
theorem Tr.raise_zero (t : Tr) : t.raise 0 = t := by cases t <;> simp [Tr.raise]

theorem Tr.sm_cells : ∀ t : Tr, t.sm.cells = t.row.length
  | .nil => rfl
  | .leaf rs h st => by simp [Tr.sm, Tr.row, pieceSm]
  | .node l r st => by
    have h1 := Tr.sm_cells l
    have h2 := Tr.sm_cells r
    simp only [Tr.sm, Tr.row, Sm.raised, Sm.both, upL_length, List.length_append]
    omega
theorem Tr.Wf.pos {t : Tr} (h : t.Wf) : 0 < t.row.length := by
  induction t with
  | nil => exact h.elim
  | leaf rs hid st => simp only [Tr.row, List.length_map]; exact List.length_pos_iff.2 h
  | node l r st ihl ihr => simp only [Tr.row, upL_length, List.length_append]; have := ihl h.1; omega
theorem Tr.sm_high_leaf (rs : List Int) (h st : Int) : (Tr.leaf rs h st).sm.high = 1 := rfl
theorem Tr.Wf.high_pos {t : Tr} (h : t.Wf) : 1 ≤ t.sm.high := by
  induction t with
  | nil => exact h.elim
  | leaf rs hid st => exact Int.le_refl _
  | node l r st ihl ihr => have := ihl h.1; simp only [Tr.sm, Sm.raised, Sm.both]; omega
theorem Tr.Wf.high_node {l r : Tr} {st : Int} (h : (Tr.node l r st).Wf) : 2 ≤ (Tr.node l r st).sm.high := by
  have := Tr.Wf.high_pos h.1
  simp only [Tr.sm, Sm.raised, Sm.both]; omega

/-- How many cells of a row have the counter b. -/
def cnt (b : Int) (l : List (Int × Int)) : Nat := l.countP fun c => c.2 = b
def vis (l : List (Int × Int)) : Nat := cnt 0 l
theorem cnt_append (b : Int) (l k : List (Int × Int)) : cnt b (l ++ k) = cnt b l + cnt b k := by simp [cnt]
theorem cnt_up (b d : Int) (l : List (Int × Int)) : cnt (b + d) (upL d l) = cnt b l := by
  unfold cnt upL
  rw [List.countP_map]
  refine List.countP_congr fun c _ => ?_
  simp only [Function.comp, decide_eq_true_eq]
  omega
theorem cnt_le (b : Int) (l : List (Int × Int)) : cnt b l ≤ l.length := List.countP_le_length
theorem cnt_zero {b : Int} {l : List (Int × Int)} (h : ∀ c ∈ l, b < c.2) : cnt b l = 0 := by
  unfold cnt
  rw [List.countP_eq_zero]
  intro c hc
  have := h c hc
  simp only [decide_eq_true_eq]
  omega
/-- The least counter of a row, and how many cells have it. -/
structure Least (s : Sm) (l : List (Int × Int)) : Prop where
  ge : ∀ c ∈ l, s.least ≤ c.2
  some_ : ∃ c ∈ l, c.2 = s.least
  low : s.lowest = (cnt s.least l : Int)
theorem mem_upL {d : Int} {l : List (Int × Int)} {c : Int × Int} : c ∈ upL d l ↔ (c.1, c.2 - d) ∈ l := by
  unfold upL
  rw [List.mem_map]
  constructor
  · rintro ⟨x, hx, rfl⟩
    have e : ((x.1, x.2 + d).1, (x.1, x.2 + d).2 - d) = x := by cases x; simp
    rw [e]; exact hx
  · intro h
    exact ⟨_, h, by cases c; simp⟩
theorem Least.up {s : Sm} {l : List (Int × Int)} (h : Least s l) (d : Int) : Least (s.raised d) (upL d l) := by
  refine ⟨fun c hc => ?_, ?_, ?_⟩
  · have := h.ge _ (mem_upL.1 hc)
    simp only [Sm.raised] at this ⊢
    omega
  · obtain ⟨c, hc, e⟩ := h.some_
    refine ⟨(c.1, c.2 + d), mem_upL.2 ?_, ?_⟩
    · have e : ((c.1, c.2 + d).1, (c.1, c.2 + d).2 - d) = c := by cases c; simp
      rw [e]; exact hc
    · simp only [Sm.raised]; omega
  · simp only [Sm.raised]
    rw [cnt_up]
    exact h.low
theorem lowOf_cnt {s : Sm} {l : List (Int × Int)} (h : Least s l) (b : Int) (hb : b ≤ s.least) : lowOf s.least s.lowest b = (cnt b l : Int) := by
  unfold lowOf
  by_cases e : s.least = b
  · rw [if_pos e, h.low, e]
  · rw [if_neg e, cnt_zero (fun c hc => by have := h.ge c hc; omega)]
    rfl
theorem Least.both {s t : Sm} {l k : List (Int × Int)} (h : Least s l) (g : Least t k) : Least (s.both t) (l ++ k) := by
  refine ⟨fun c hc => ?_, ?_, ?_⟩
  · rcases List.mem_append.1 hc with hc | hc
    · have := h.ge c hc; simp only [Sm.both]; omega
    · have := g.ge c hc; simp only [Sm.both]; omega
  · by_cases e : s.least ≤ t.least
    · obtain ⟨c, hc, e1⟩ := h.some_
      exact ⟨c, List.mem_append_left _ hc, by simp only [Sm.both]; omega⟩
    · obtain ⟨c, hc, e1⟩ := g.some_
      exact ⟨c, List.mem_append_right _ hc, by simp only [Sm.both]; omega⟩
  · simp only [Sm.both]
    rw [lowOf_cnt h _ (by omega), lowOf_cnt g _ (by omega), cnt_append]
    omega
theorem least_piece (rs : List Int) (h : Int) (hne : rs ≠ []) : Least (pieceSm rs.length h) (rs.map fun c => (c, h)) := by
  refine ⟨fun c hc => ?_, ?_, ?_⟩
  · obtain ⟨x, _, rfl⟩ := List.mem_map.1 hc
    exact Int.le_refl _
  · obtain ⟨x, t, rfl⟩ := List.exists_cons_of_ne_nil hne
    exact ⟨(x, h), by simp, rfl⟩
  · simp only [pieceSm, cnt]
    rw [List.countP_map, List.countP_eq_length.2 (by simp)]
theorem Tr.Wf.least {t : Tr} (h : t.Wf) : Least t.sm t.row := by
  induction t with
  | nil => exact h.elim
  | leaf rs hid st => exact least_piece rs hid h
  | node l r st ihl ihr => exact ((ihl h.1).both (ihr h.2)).up st
/-- All counters are 0 or more. -/
def Nonneg (l : List (Int × Int)) : Prop := ∀ c ∈ l, 0 ≤ c.2
theorem Least.shown {s : Sm} {l : List (Int × Int)} (h : Least s l) (hn : Nonneg l) : s.shown = (vis l : Int) := by
  unfold Sm.shown vis
  by_cases e : 0 < s.least
  · rw [if_pos e, cnt_zero (fun c hc => by have := h.ge c hc; omega)]
    rfl
  · rw [if_neg e, h.low]
    obtain ⟨c, hc, e1⟩ := h.some_
    have := hn c hc
    rw [show s.least = 0 by omega]
/-- A tree that stands: empty, or without empty pieces. -/
def Tr.Ok (t : Tr) : Prop := t = .nil ∨ t.Wf
theorem Tr.Ok.shown {t : Tr} (h : t.Ok) (hn : Nonneg t.row) : t.sm.shown = (vis t.row : Int) := by
  rcases h with rfl | h
  · rfl
  · exact h.least.shown hn

/-- The place of the p-th visible cell; the row's length, if there are not so many. -/
def place : List (Int × Int) → Nat → Nat
  | [], _ => 0
  | c :: t, p => if c.2 = 0 then (match p with | 0 => 0 | p + 1 => 1 + place t p) else 1 + place t p
theorem vis_cons (c : Int × Int) (t : List (Int × Int)) : vis (c :: t) = vis t + if c.2 = 0 then 1 else 0 := by
  simp [vis, cnt, List.countP_cons]
theorem place_append (a b : List (Int × Int)) : ∀ p, place (a ++ b) p = if p < vis a then place a p else a.length + place b (p - vis a) := by
  induction a with
  | nil => intro p; simp [vis, cnt]
  | cons c t ih =>
    intro p
    simp only [List.cons_append, place, vis_cons, List.length_cons]
    by_cases h : c.2 = 0
    · simp only [h, if_true]
      cases p with
      | zero => simp
      | succ p =>
        simp only
        rw [ih p]
        by_cases h2 : p < vis t
        · rw [if_pos h2, if_pos (by omega)]
        · rw [if_neg h2, if_neg (by omega), show p + 1 - (vis t + 1) = p - vis t by omega]
          omega
    · simp only [h, if_false, Nat.add_zero]
      rw [ih p]
      split
      · rfl
      · omega
theorem place_le (l : List (Int × Int)) : ∀ p, place l p ≤ l.length := by
  induction l with
  | nil => intro p; exact Nat.le_refl _
  | cons c t ih =>
    intro p
    simp only [place, List.length_cons]
    split
    · cases p with
      | zero => simp
      | succ p => have := ih p; simp only; omega
    · have := ih p; omega
theorem place_lt (l : List (Int × Int)) : ∀ p, p < vis l → place l p < l.length := by
  induction l with
  | nil => intro p h; simp [vis, cnt] at h
  | cons c t ih =>
    intro p h
    rw [vis_cons] at h
    simp only [place, List.length_cons]
    split at h
    · rename_i h0
      simp only [h0, if_true]
      cases p with
      | zero => simp
      | succ p => have := ih p (by omega); simp only; omega
    · rename_i h0
      simp only [h0, if_false]
      have := ih p (by omega); omega
theorem place_end (l : List (Int × Int)) : ∀ p, vis l ≤ p → place l p = l.length := by
  induction l with
  | nil => intro p _; rfl
  | cons c t ih =>
    intro p h
    rw [vis_cons] at h
    simp only [place, List.length_cons]
    split at h
    · rename_i h0
      simp only [h0, if_true]
      cases p with
      | zero => omega
      | succ p => have := ih p (by omega); simp only; omega
    · rename_i h0
      simp only [h0, if_false]
      have := ih p (by omega); omega
theorem place_vis (l : List (Int × Int)) : ∀ p, p ≤ vis l → vis (l.take (place l p)) = p := by
  induction l with
  | nil => intro p h; simp [vis, cnt] at h ⊢; omega
  | cons c t ih =>
    intro p h
    rw [vis_cons] at h
    simp only [place]
    split at h
    · rename_i h0
      simp only [h0, if_true]
      cases p with
      | zero => rfl
      | succ p =>
        simp only
        rw [Nat.add_comm 1, List.take_succ_cons, vis_cons, ih p (by omega)]
        simp [h0]
    · rename_i h0
      simp only [h0, if_false]
      rw [Nat.add_comm 1, List.take_succ_cons, vis_cons, ih p (by omega)]
      simp [h0]
/-- From c on, the first visible cell. -/
theorem place_ge (l : List (Int × Int)) : ∀ c, c ≤ l.length → c ≤ place l (vis (l.take c)) ∧ vis (l.take (place l (vis (l.take c)))) = vis (l.take c) := by
  intro c hc
  have hv : vis (l.take c) ≤ vis l := by
    conv => rhs; rw [← List.take_append_drop c l]
    unfold vis
    rw [cnt_append]; omega
  refine ⟨?_, place_vis l _ hv⟩
  have h := place_append (l.take c) (l.drop c) (vis (l.take c))
  rw [List.take_append_drop, if_neg (by omega)] at h
  rw [h, List.length_take]
  omega
theorem place_zero (l : List (Int × Int)) : ∀ p, p < vis l → (l.getD (place l p) (0, 1)).2 = 0 := by
  induction l with
  | nil => intro p h; simp [vis, cnt] at h
  | cons c t ih =>
    intro p h
    rw [vis_cons] at h
    simp only [place]
    split at h
    · rename_i h0
      simp only [h0, if_true]
      cases p with
      | zero => simpa using h0
      | succ p => have := ih p (by omega); simp only; rw [Nat.add_comm 1]; simpa using this
    · rename_i h0
      simp only [h0, if_false]
      have := ih p (by omega); rw [Nat.add_comm 1]; simpa using this
theorem place_piece (rs : List Int) : ∀ p, p < rs.length → place (rs.map fun c => (c, (0 : Int))) p = p := by
  induction rs with
  | nil => intro p h; simp at h
  | cons c t ih =>
    intro p h
    simp only [List.map_cons, place, if_true]
    cases p with
    | zero => rfl
    | succ p => simp only; rw [ih p (by simpa using h)]; omega
theorem vis_piece (rs : List Int) (h : Int) : vis (rs.map fun c => (c, h)) = if h = 0 then rs.length else 0 := by
  unfold vis cnt
  rw [List.countP_map]
  by_cases e : h = 0
  · rw [if_pos e, List.countP_eq_length.2 (by simp [e])]
  · rw [if_neg e, List.countP_eq_zero.2 (by simp [e])]
theorem vis_append (l k : List (Int × Int)) : vis (l ++ k) = vis l + vis k := cnt_append 0 l k
theorem vis_le (l : List (Int × Int)) : vis l ≤ l.length := cnt_le 0 l
theorem nonneg_left {l k : List (Int × Int)} (h : Nonneg (l ++ k)) : Nonneg l := fun c hc => h c (List.mem_append_left _ hc)
theorem nonneg_right {l k : List (Int × Int)} (h : Nonneg (l ++ k)) : Nonneg k := fun c hc => h c (List.mem_append_right _ hc)
/-- A node's row, by its sides as they are when all has come. -/
theorem Tr.row_node (l r : Tr) (st : Int) : (Tr.node l r st).row = (l.raise st).row ++ (r.raise st).row := by
  simp only [Tr.row_raise, Tr.row, upL_append]
theorem Tr.sm_node {l r : Tr} (hl : l.Wf) (hr : r.Wf) (st : Int) : (Tr.node l r st).sm = (l.raise st).sm.both (r.raise st).sm := by
  rw [Tr.sm_raise l hl, Tr.sm_raise r hr]
  simp only [Tr.sm, Sm.raised, Sm.both, Sm.mk.injEq, true_and, and_true]
  unfold lowOf
  refine ⟨by omega, by omega, ?_⟩
  congr 1 <;> (split <;> split <;> first | rfl | omega)
end Go.Proofs.YtaaegedmilpcfaaDoor
