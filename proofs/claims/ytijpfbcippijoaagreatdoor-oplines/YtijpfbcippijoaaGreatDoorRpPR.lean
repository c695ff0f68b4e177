namespace Go.Proofs.YtijpfbcippijoaaGreatDoor
set_option maxRecDepth 100000
structure Sm where
  cells : Int
  pieces : Int
  high : Int
  least : Int
  most : Int
  lowest : Int
  fc : Int
  fh : Int
  lc : Int
  lh : Int
def Sm.raised (s : Sm) (d : Int) : Sm := ⟨s.cells, s.pieces, s.high, s.least + d, s.most + d, s.lowest, s.fc, s.fh + d, s.lc, s.lh + d⟩
def lowOf (least lowest b : Int) : Int := if least = b then lowest else 0
def Sm.both (s t : Sm) : Sm := ⟨s.cells + t.cells, s.pieces + t.pieces, max s.high t.high + 1, min s.least t.least, max s.most t.most, lowOf s.least s.lowest (min s.least t.least) + lowOf t.least t.lowest (min s.least t.least), s.fc, s.fh, t.lc, t.lh⟩
inductive Tr where
  | nil
  | leaf (rs : List Int) (hid st : Int)
  | node (l r : Tr) (st : Int)
def pieceSm (n h : Int) : Sm := ⟨n, 1, 1, h, h, n, n, h, n, h⟩
def Tr.sm : Tr → Sm
  | .nil => ⟨0, 0, 0, 0, 0, 0, 0, 0, 0, 0⟩
  | .leaf rs h _ => pieceSm rs.length h
  | .node l r st => (l.sm.both r.sm).raised st
def upL (d : Int) (l : List (Int × Int)) : List (Int × Int) := l.map fun c => (c.1, c.2 + d)
def Tr.row : Tr → List (Int × Int)
  | .nil => []
  | .leaf rs h _ => rs.map fun c => (c, h)
  | .node l r st => upL st (l.row ++ r.row)
def Tr.Wf : Tr → Prop
  | .nil => False
  | .leaf rs _ _ => rs ≠ []
  | .node l r _ => l.Wf ∧ r.Wf
theorem upL_zero (l : List (Int × Int)) : upL 0 l = l := by
  unfold upL
  rw [List.map_congr_left (g := id) (fun c _ => by simp)]
  simp
theorem upL_length (a : Int) (l : List (Int × Int)) : (upL a l).length = l.length := by simp [upL]
theorem upL_append (a : Int) (l k : List (Int × Int)) : upL a (l ++ k) = upL a l ++ upL a k := by simp [upL]
theorem Tr.sm_cells : ∀ t : Tr, t.sm.cells = t.row.length
  | .nil => rfl
  | .leaf rs h st => by simp [Tr.sm, Tr.row, pieceSm]
  | .node l r st => by
    have h1 := Tr.sm_cells l
    have h2 := Tr.sm_cells r
    simp only [Tr.sm, Tr.row, Sm.raised, Sm.both, upL_length, List.length_append]
    omega
theorem mem_upL {d : Int} {l : List (Int × Int)} {c : Int × Int} : c ∈ upL d l ↔ (c.1, c.2 - d) ∈ l := by
  unfold upL
  rw [List.mem_map]
  constructor
  · rintro ⟨x, hx, rfl⟩
    have e : ((x.1, x.2 + d).1, (x.1, x.2 + d).2 - d) = x := by cases x; simp
    rw [e]; exact hx
  · intro h
    exact ⟨_, h, by cases c; simp⟩
def Tr.Ok (t : Tr) : Prop := t = .nil ∨ t.Wf
end Go.Proofs.YtijpfbcippijoaaGreatDoor

namespace Go.Proofs.YtijpfbcippijoaaGreatDoor
set_option maxRecDepth 100000
def Lim (x : Int) : Prop := -2 ≤ x ∧ x ≤ 1048578
def LimR (l : List (Int × Int)) : Prop := ∀ c ∈ l, Lim c.2
theorem LimR.append {l k : List (Int × Int)} (h : LimR l) (g : LimR k) : LimR (l ++ k) := fun c hc => (List.mem_append.1 hc).elim (h c) (g c)
def Tr.Bd : Tr → Prop
  | .nil => True
  | .leaf _ h st => Lim h ∧ Lim (h - st)
  | .node l r st => l.Bd ∧ r.Bd ∧ LimR (Tr.node l r st).row
theorem Tr.Bd.row {t : Tr} (h : t.Bd) : LimR t.row := by
  cases t with
  | nil => intro c hc; cases hc
  | leaf rs hid st =>
    intro c hc
    obtain ⟨x, _, rfl⟩ := List.mem_map.1 hc
    exact h.1
  | node l r st => exact h.2.2
structure SmIn (s : Sm) (l : List (Int × Int)) : Prop where
  least : ∃ c ∈ l, c.2 = s.least
  most : ∃ c ∈ l, c.2 = s.most
  fh : ∃ c ∈ l, c.2 = s.fh
  lh : ∃ c ∈ l, c.2 = s.lh
  pieces : 1 ≤ s.pieces ∧ s.pieces ≤ l.length
  high : 1 ≤ s.high ∧ s.high ≤ s.pieces
  lowest : 1 ≤ s.lowest ∧ s.lowest ≤ l.length
  fc : 1 ≤ s.fc ∧ s.fc ≤ l.length
  lc : 1 ≤ s.lc ∧ s.lc ≤ l.length
theorem SmIn.up {s : Sm} {l : List (Int × Int)} (h : SmIn s l) (d : Int) : SmIn (s.raised d) (upL d l) := by
  have key : ∀ x, (∃ c ∈ l, c.2 = x) → ∃ c ∈ upL d l, c.2 = x + d := fun x ⟨c, hc, e⟩ => ⟨(c.1, c.2 + d), by rw [mem_upL]; simpa using hc, by simp only; omega⟩
  refine ⟨key _ h.least, key _ h.most, key _ h.fh, key _ h.lh, ?_, h.high, ?_, ?_, ?_⟩ <;> rw [upL_length]
  · exact h.pieces
  · exact h.lowest
  · exact h.fc
  · exact h.lc
theorem SmIn.both {s t : Sm} {l k : List (Int × Int)} (h : SmIn s l) (g : SmIn t k) : SmIn (s.both t) (l ++ k) := by
  have lft : ∀ x, (∃ c ∈ l, c.2 = x) → ∃ c ∈ l ++ k, c.2 = x := fun x ⟨c, hc, e⟩ => ⟨c, List.mem_append_left _ hc, e⟩
  have rgt : ∀ x, (∃ c ∈ k, c.2 = x) → ∃ c ∈ l ++ k, c.2 = x := fun x ⟨c, hc, e⟩ => ⟨c, List.mem_append_right _ hc, e⟩
  have h1 := h.pieces
  have h2 := g.pieces
  have h3 := h.high
  have h4 := g.high
  have h5 := h.lowest
  have h6 := g.lowest
  have h7 := h.fc
  have h8 := g.lc
  have hlen : ((l ++ k).length : Int) = l.length + k.length := by simp
  refine ⟨?_, ?_, lft _ h.fh, rgt _ g.lh, ?_, ?_, ?_, ?_, ?_⟩
  · by_cases e : s.least ≤ t.least
    · have := lft _ h.least; simp only [Sm.both]; rw [show min s.least t.least = s.least by omega]; exact this
    · have := rgt _ g.least; simp only [Sm.both]; rw [show min s.least t.least = t.least by omega]; exact this
  · by_cases e : t.most ≤ s.most
    · have := lft _ h.most; simp only [Sm.both]; rw [show max s.most t.most = s.most by omega]; exact this
    · have := rgt _ g.most; simp only [Sm.both]; rw [show max s.most t.most = t.most by omega]; exact this
  · simp only [Sm.both]; omega
  · simp only [Sm.both]; omega
  · simp only [Sm.both, lowOf]
    split <;> split <;> omega
  · simp only [Sm.both]; omega
  · simp only [Sm.both]; omega
theorem Tr.Wf.smIn {t : Tr} (h : t.Wf) : SmIn t.sm t.row := by
  induction t with
  | nil => exact h.elim
  | leaf rs hid st =>
    have hp : 0 < rs.length := List.length_pos_iff.2 h
    obtain ⟨x, tl, rfl⟩ := List.exists_cons_of_ne_nil h
    have hin : ∃ c ∈ (Tr.leaf (x :: tl) hid st).row, c.2 = hid := ⟨(x, hid), by simp [Tr.row], rfl⟩
    refine ⟨hin, hin, hin, hin, ?_, ?_, ?_, ?_, ?_⟩ <;> simp [Tr.sm, Tr.row, pieceSm] <;> omega
  | node l r st ihl ihr => exact ((ihl h.1).both (ihr h.2)).up st
structure SmBd (s : Sm) : Prop where
  cells : 0 ≤ s.cells ∧ s.cells ≤ 2097152
  pieces : 0 ≤ s.pieces ∧ s.pieces ≤ 2097152
  high : 0 ≤ s.high ∧ s.high ≤ 2097152
  least : -2 ≤ s.least ∧ s.least ≤ 1048578
  most : -2 ≤ s.most ∧ s.most ≤ 1048578
  lowest : 0 ≤ s.lowest ∧ s.lowest ≤ 2097152
  fc : 0 ≤ s.fc ∧ s.fc ≤ 2097152
  fh : -2 ≤ s.fh ∧ s.fh ≤ 1048578
  lc : 0 ≤ s.lc ∧ s.lc ≤ 2097152
  lh : -2 ≤ s.lh ∧ s.lh ≤ 1048578
theorem Tr.smBd {t : Tr} (h : t.Ok) (hb : t.Bd) (hn : t.row.length ≤ 2097152) : SmBd t.sm := by
  rcases h with rfl | h
  · constructor <;> decide
  · have hs := h.smIn
    have hc := t.sm_cells
    have key : ∀ x, (∃ c ∈ t.row, c.2 = x) → -2 ≤ x ∧ x ≤ 1048578 := fun x ⟨c, hc, e⟩ => by
      have := hb.row c hc
      unfold Lim at this
      omega
    have h1 := hs.pieces
    have h2 := hs.high
    have h3 := hs.lowest
    have h4 := hs.fc
    have h5 := hs.lc
    exact ⟨by omega, by omega, by omega, key _ hs.least, key _ hs.most, by omega, by omega, key _ hs.fh, by omega, key _ hs.lh⟩
end Go.Proofs.YtijpfbcippijoaaGreatDoor

namespace Go.Proofs.YtijpfbcippijoaaGreatDoor
set_option maxRecDepth 100000
def upP (d : Int) (l : List (List Int × Int)) : List (List Int × Int) := l.map fun p => (p.1, p.2 + d)
def Tr.lv : Tr → List (List Int × Int)
  | .nil => []
  | .leaf rs h _ => [(rs, h)]
  | .node l r st => upP st (l.lv ++ r.lv)
def rowOf (l : List (List Int × Int)) : List (Int × Int) := l.flatMap fun p => p.1.map fun c => (c, p.2)
theorem rowOf_append (l k : List (List Int × Int)) : rowOf (l ++ k) = rowOf l ++ rowOf k := by simp [rowOf]
theorem rowOf_up (d : Int) (l : List (List Int × Int)) : rowOf (upP d l) = upL d (rowOf l) := by
  induction l with
  | nil => rfl
  | cons p t ih =>
    have e1 : rowOf (upP d (p :: t)) = (p.1.map fun c => (c, p.2 + d)) ++ rowOf (upP d t) := by simp [rowOf, upP]
    have e2 : rowOf (p :: t) = (p.1.map fun c => (c, p.2)) ++ rowOf t := by simp [rowOf]
    rw [e1, e2, ih, upL_append]
    congr 1
    simp [upL]
theorem Tr.row_lv : ∀ t : Tr, t.row = rowOf t.lv
  | .nil => rfl
  | .leaf rs h st => by simp [Tr.row, Tr.lv, rowOf]
  | .node l r st => by
    have h1 := Tr.row_lv l
    have h2 := Tr.row_lv r
    simp only [Tr.row, Tr.lv]
    rw [rowOf_up, rowOf_append, h1, h2]
theorem upP_zero (l : List (List Int × Int)) : upP 0 l = l := by
  unfold upP
  rw [List.map_congr_left (g := id) (fun c _ => by simp)]
  simp
def Tr.Avl : Tr → Prop
  | .nil => True
  | .leaf _ _ _ => True
  | .node l r _ => l.Avl ∧ r.Avl ∧ l.sm.high ≤ r.sm.high + 1 ∧ r.sm.high ≤ l.sm.high + 1
def Tr.isLeaf : Tr → Prop
  | .leaf rs _ _ => rs ≠ []
  | _ => False
theorem Tr.isLeaf.wf {t : Tr} (h : t.isLeaf) : t.Wf := by cases t <;> first | exact h | exact h.elim
theorem Tr.isLeaf.avl {t : Tr} (h : t.isLeaf) : t.Avl := by cases t <;> first | trivial | exact h.elim
theorem Tr.isLeaf.high {t : Tr} (h : t.isLeaf) : t.sm.high = 1 := by cases t <;> first | rfl | exact h.elim
def hgt (n : Nat) : Nat := if h : n ≤ 1 then n else max (hgt (n / 2)) (hgt (n - n / 2)) + 1
termination_by n
decreasing_by all_goals omega
theorem hgt_big (n : Nat) (h : 2 ≤ n) : hgt n = max (hgt (n / 2)) (hgt (n - n / 2)) + 1 := by
  conv => lhs; unfold hgt
  rw [dif_neg (by omega)]
theorem hgt_zero : hgt 0 = 0 := by unfold hgt; rfl
theorem hgt_one : hgt 1 = 1 := by unfold hgt; rfl
theorem hgt_succ : ∀ (b n : Nat), n ≤ b → hgt n ≤ hgt (n + 1) ∧ hgt (n + 1) ≤ hgt n + 1 := by
  intro b
  induction b with
  | zero => intro n h; obtain rfl : n = 0 := by omega
            rw [hgt_zero, hgt_one]; omega
  | succ b ih =>
    intro n h
    by_cases h0 : n = 0
    · subst h0; rw [hgt_zero, hgt_one]; omega
    by_cases h1 : n = 1
    · subst h1; rw [hgt_big 2 (by omega)]; simp [hgt_one]
    rw [hgt_big n (by omega), hgt_big (n + 1) (by omega)]
    rcases Nat.mod_two_eq_zero_or_one n with e | e
    · have e1 : (n + 1) / 2 = n / 2 := by omega
      have e2 : n + 1 - n / 2 = n / 2 + 1 := by omega
      have e3 : n - n / 2 = n / 2 := by omega
      rw [e1, e2, e3]
      have := ih (n / 2) (by omega)
      omega
    · have e1 : (n + 1) / 2 = n / 2 + 1 := by omega
      have e2 : n + 1 - (n / 2 + 1) = n / 2 + 1 := by omega
      have e3 : n - n / 2 = n / 2 + 1 := by omega
      rw [e1, e2, e3]
      have := ih (n / 2) (by omega)
      omega
theorem hgt_halves (n : Nat) (h : 2 ≤ n) : hgt (n / 2) ≤ hgt (n - n / 2) ∧ hgt (n - n / 2) ≤ hgt (n / 2) + 1 := by
  rcases Nat.mod_two_eq_zero_or_one n with e | e
  · rw [show n - n / 2 = n / 2 by omega]; omega
  · rw [show n - n / 2 = n / 2 + 1 by omega]
    exact hgt_succ _ _ (Nat.le_refl _)
def lvs (ts : List Tr) : List (List Int × Int) := ts.flatMap Tr.lv
structure Built (ts : List Tr) (t : Tr) : Prop where
  lv : t.lv = lvs ts
  ok : (ts = [] ∧ t = .nil) ∨ (ts ≠ [] ∧ t.Wf)
  bd : t.Bd
  avl : t.Avl
  high : t.sm.high = (hgt ts.length : Int)
theorem Built.row {ts : List Tr} {t : Tr} (h : Built ts t) : t.row = rowOf (lvs ts) := by rw [Tr.row_lv, h.lv]
theorem Built.ok_ {ts : List Tr} {t : Tr} (h : Built ts t) : t.Ok := by
  rcases h.ok with ⟨_, h⟩ | ⟨_, h⟩
  · exact .inl h
  · exact .inr h
theorem built_nil : Built [] .nil := ⟨rfl, .inl ⟨rfl, rfl⟩, trivial, trivial, by simp [Tr.sm, hgt_zero]⟩
theorem built_one {t : Tr} (h : t.isLeaf) (hb : t.Bd) : Built [t] t := ⟨by simp [lvs], .inr ⟨by simp, h.wf⟩, hb, h.avl, by simp [h.high, hgt_one]⟩
theorem Built.two {ts us : List Tr} {a b : Tr} (ha : Built ts a) (hb : Built us b) (n : Nat) (hn : 2 ≤ n) (h1 : ts.length = n / 2) (h2 : us.length = n - n / 2) : Built (ts ++ us) (.node a b 0) := by
  have wa : a.Wf := by
    rcases ha.ok with ⟨e, _⟩ | ⟨_, h⟩
    · rw [e] at h1; simp at h1; omega
    · exact h
  have wb : b.Wf := by
    rcases hb.ok with ⟨e, _⟩ | ⟨_, h⟩
    · rw [e] at h2; simp at h2; omega
    · exact h
  have hh := hgt_halves n hn
  have e1 := ha.high
  have e2 := hb.high
  rw [h1] at e1
  rw [h2] at e2
  refine ⟨?_, .inr ⟨?_, wa, wb⟩, ⟨ha.bd, hb.bd, ?_⟩, ⟨ha.avl, hb.avl, by omega, by omega⟩, ?_⟩
  · simp only [Tr.lv]
    rw [upP_zero, ha.lv, hb.lv]
    simp [lvs]
  · intro e
    have := congrArg List.length e
    simp at this
    rw [this.1] at h1
    simp at h1
    omega
  · simp only [Tr.row]
    rw [upL_zero]
    exact ha.bd.row.append hb.bd.row
  · rw [List.length_append, h1, h2, show n / 2 + (n - n / 2) = n by omega, hgt_big n hn]
    simp only [Tr.sm, Sm.raised, Sm.both]
    omega
end Go.Proofs.YtijpfbcippijoaaGreatDoor

namespace Go.Proofs.YtijpfbcippijoaaGreatDoor
set_option maxRecDepth 100000
def Fit (p q : List Int × Int) : Prop := p.2 = q.2 ∧ p.1.length + q.1.length ≤ 32
instance (p q : List Int × Int) : Decidable (Fit p q) := inferInstanceAs (Decidable (_ ∧ _))
def NoFit : List (List Int × Int) → Prop
  | [] => True
  | [_] => True
  | p :: q :: t => ¬ Fit p q ∧ NoFit (q :: t)
structure Pcs (l : List (List Int × Int)) : Prop where
  some_ : ∀ p ∈ l, p.1 ≠ []
  few : ∀ p ∈ l, p.1.length ≤ 32
  apart : NoFit l
end Go.Proofs.YtijpfbcippijoaaGreatDoor
