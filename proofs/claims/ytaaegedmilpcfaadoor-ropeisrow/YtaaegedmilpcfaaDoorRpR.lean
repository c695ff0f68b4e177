import Derived.Test.YtaaegedmilpcfaaDoorRpQ
/-! The pieces of a tree, its balance. -/
namespace Go.Proofs.YtaaegedmilpcfaaDoor
set_option maxRecDepth 100000

def upP (d : Int) (l : List (List Int × Int)) : List (List Int × Int) := l.map fun p => (p.1, p.2 + d)
def Tr.lv : Tr → List (List Int × Int)
  | .nil => []
  | .leaf rs h _ => [(rs, h)]
  | .node l r st => upP st (l.lv ++ r.lv)
def rowOf (l : List (List Int × Int)) : List (Int × Int) := l.flatMap fun p => p.1.map fun c => (c, p.2)
theorem rowOf_append (l k : List (List Int × Int)) : rowOf (l ++ k) = rowOf l ++ rowOf k := by simp [rowOf]
theorem rowOf_up (d : Int) (l : List (List Int × Int)) : rowOf (upP d l) = upL d (rowOf l) := by
  induction l with
  | nil => rfl
  | cons p t ih =>
    have e1 : rowOf (upP d (p :: t)) = (p.1.map fun c => (c, p.2 + d)) ++ rowOf (upP d t) := by simp [rowOf, upP]
    have e2 : rowOf (p :: t) = (p.1.map fun c => (c, p.2)) ++ rowOf t := by simp [rowOf]
    rw [e1, e2, ih, upL_append]
    congr 1
    simp [upL]
theorem Tr.row_lv : ∀ t : Tr, t.row = rowOf t.lv
  | .nil => rfl
  | .leaf rs h st => by simp [Tr.row, Tr.lv, rowOf]
  | .node l r st => by
    have h1 := Tr.row_lv l
    have h2 := Tr.row_lv r
    simp only [Tr.row, Tr.lv]
    rw [rowOf_up, rowOf_append, h1, h2]
theorem upP_zero (l : List (List Int × Int)) : upP 0 l = l := by
  unfold upP
  rw [List.map_congr_left (g := id) (fun c _ => by simp)]
  simp
theorem Tr.lv_raise (t : Tr) (d : Int) : (t.raise d).lv = upP d t.lv := by
  cases t with
  | nil => rfl
  | leaf rs h st => rfl
  | node l r st =>
    simp only [Tr.raise, Tr.lv, upP, List.map_map]
    exact List.map_congr_left fun c _ => by simp [Int.add_assoc]
theorem Tr.lv_node (l r : Tr) (st : Int) : (Tr.node l r st).lv = (l.raise st).lv ++ (r.raise st).lv := by
  rw [Tr.lv_raise, Tr.lv_raise]
  simp [Tr.lv, upP]
def Tr.Avl : Tr → Prop
  | .nil => True
  | .leaf _ _ _ => True
  | .node l r _ => l.Avl ∧ r.Avl ∧ l.sm.high ≤ r.sm.high + 1 ∧ r.sm.high ≤ l.sm.high + 1
theorem Tr.avl_raise (t : Tr) (d : Int) (h : t.Avl) : (t.raise d).Avl := by cases t <;> exact h
theorem Tr.high_raise (t : Tr) (d : Int) : (t.raise d).sm.high = t.sm.high := by cases t <;> rfl
def Tr.isLeaf : Tr → Prop
  | .leaf rs _ _ => rs ≠ []
  | _ => False
theorem Tr.isLeaf.wf {t : Tr} (h : t.isLeaf) : t.Wf := by cases t <;> first | exact h | exact h.elim
theorem Tr.isLeaf.avl {t : Tr} (h : t.isLeaf) : t.Avl := by cases t <;> first | trivial | exact h.elim
theorem Tr.isLeaf.high {t : Tr} (h : t.isLeaf) : t.sm.high = 1 := by cases t <;> first | rfl | exact h.elim
/-- The height of a tree grown of n pieces. -/
def hgt (n : Nat) : Nat := if h : n ≤ 1 then n else max (hgt (n / 2)) (hgt (n - n / 2)) + 1
termination_by n
decreasing_by all_goals omega
theorem hgt_big (n : Nat) (h : 2 ≤ n) : hgt n = max (hgt (n / 2)) (hgt (n - n / 2)) + 1 := by
  conv => lhs; unfold hgt
  rw [dif_neg (by omega)]
theorem hgt_zero : hgt 0 = 0 := by unfold hgt; rfl
theorem hgt_one : hgt 1 = 1 := by unfold hgt; rfl
/-- n + 1 pieces make a tree that is as high, or one higher. -/
theorem hgt_succ : ∀ (b n : Nat), n ≤ b → hgt n ≤ hgt (n + 1) ∧ hgt (n + 1) ≤ hgt n + 1 := by
  intro b
  induction b with
  | zero => intro n h; obtain rfl : n = 0 := by omega
            rw [hgt_zero, hgt_one]; omega
  | succ b ih =>
    intro n h
    by_cases h0 : n = 0
    · subst h0; rw [hgt_zero, hgt_one]; omega
    by_cases h1 : n = 1
    · subst h1; rw [hgt_big 2 (by omega)]; simp [hgt_one]
    rw [hgt_big n (by omega), hgt_big (n + 1) (by omega)]
    rcases Nat.mod_two_eq_zero_or_one n with e | e
    · have e1 : (n + 1) / 2 = n / 2 := by omega
      have e2 : n + 1 - n / 2 = n / 2 + 1 := by omega
      have e3 : n - n / 2 = n / 2 := by omega
      rw [e1, e2, e3]
      have := ih (n / 2) (by omega)
      omega
    · have e1 : (n + 1) / 2 = n / 2 + 1 := by omega
      have e2 : n + 1 - (n / 2 + 1) = n / 2 + 1 := by omega
      have e3 : n - n / 2 = n / 2 + 1 := by omega
      rw [e1, e2, e3]
      have := ih (n / 2) (by omega)
      omega
theorem hgt_halves (n : Nat) (h : 2 ≤ n) : hgt (n / 2) ≤ hgt (n - n / 2) ∧ hgt (n - n / 2) ≤ hgt (n / 2) + 1 := by
  rcases Nat.mod_two_eq_zero_or_one n with e | e
  · rw [show n - n / 2 = n / 2 by omega]; omega
  · rw [show n - n / 2 = n / 2 + 1 by omega]
    exact hgt_succ _ _ (Nat.le_refl _)
def lvs (ts : List Tr) : List (List Int × Int) := ts.flatMap Tr.lv
/-- A tree that is grown of these pieces. -/
structure Built (ts : List Tr) (t : Tr) : Prop where
  lv : t.lv = lvs ts
  ok : (ts = [] ∧ t = .nil) ∨ (ts ≠ [] ∧ t.Wf)
  bd : t.Bd
  avl : t.Avl
  high : t.sm.high = (hgt ts.length : Int)
theorem Built.row {ts : List Tr} {t : Tr} (h : Built ts t) : t.row = rowOf (lvs ts) := by rw [Tr.row_lv, h.lv]
theorem Built.ok_ {ts : List Tr} {t : Tr} (h : Built ts t) : t.Ok := by
  rcases h.ok with ⟨_, h⟩ | ⟨_, h⟩
  · exact .inl h
  · exact .inr h
theorem built_nil : Built [] .nil := ⟨rfl, .inl ⟨rfl, rfl⟩, trivial, trivial, by simp [Tr.sm, hgt_zero]⟩
theorem built_one {t : Tr} (h : t.isLeaf) (hb : t.Bd) : Built [t] t := ⟨by simp [lvs], .inr ⟨by simp, h.wf⟩, hb, h.avl, by simp [h.high, hgt_one]⟩
theorem Built.two {ts us : List Tr} {a b : Tr} (ha : Built ts a) (hb : Built us b) (n : Nat) (hn : 2 ≤ n) (h1 : ts.length = n / 2) (h2 : us.length = n - n / 2) : Built (ts ++ us) (.node a b 0) := by
  have wa : a.Wf := by
    rcases ha.ok with ⟨e, _⟩ | ⟨_, h⟩
    · rw [e] at h1; simp at h1; omega
    · exact h
  have wb : b.Wf := by
    rcases hb.ok with ⟨e, _⟩ | ⟨_, h⟩
    · rw [e] at h2; simp at h2; omega
    · exact h
  have hh := hgt_halves n hn
  have e1 := ha.high
  have e2 := hb.high
  rw [h1] at e1
  rw [h2] at e2
  refine ⟨?_, .inr ⟨?_, wa, wb⟩, ⟨ha.bd, hb.bd, ?_⟩, ⟨ha.avl, hb.avl, by omega, by omega⟩, ?_⟩
  · simp only [Tr.lv]
    rw [upP_zero, ha.lv, hb.lv]
    simp [lvs]
  · intro e
    have := congrArg List.length e
    simp at this
    rw [this.1] at h1
    simp at h1
    omega
  · simp only [Tr.row]
    rw [upL_zero]
    exact ha.bd.row.append hb.bd.row
  · rw [List.length_append, h1, h2, show n / 2 + (n - n / 2) = n by omega, hgt_big n hn]
    simp only [Tr.sm, Sm.raised, Sm.both]
    omega
end Go.Proofs.YtaaegedmilpcfaaDoor
