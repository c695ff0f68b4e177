import Derived.Test.YtaaegedmilpcfaaDoorRpR
/-! Lists of pieces: none empty, none too long, no two neighbours that fit. -/
namespace Go.Proofs.YtaaegedmilpcfaaDoor
set_option maxRecDepth 100000

def Fit (p q : List Int × Int) : Prop := p.2 = q.2 ∧ p.1.length + q.1.length ≤ 32
instance (p q : List Int × Int) : Decidable (Fit p q) := inferInstanceAs (Decidable (_ ∧ _))
/-- Neighbours that don't fit. -/
def NoFit : List (List Int × Int) → Prop
  | [] => True
  | [_] => True
  | p :: q :: t => ¬ Fit p q ∧ NoFit (q :: t)
structure Pcs (l : List (List Int × Int)) : Prop where
  some_ : ∀ p ∈ l, p.1 ≠ []
  few : ∀ p ∈ l, p.1.length ≤ 32
  apart : NoFit l
theorem pcs_nil : Pcs [] := ⟨fun p hp => (by cases hp), fun p hp => (by cases hp), trivial⟩
/-- Where two lists meet. -/
def Meet (l k : List (List Int × Int)) : Prop := ∀ p q, l.getLast? = some p → k.head? = some q → ¬ Fit p q
theorem noFit_append : ∀ {l k : List (List Int × Int)}, NoFit (l ++ k) ↔ NoFit l ∧ NoFit k ∧ Meet l k
  | [], k => by simp [NoFit, Meet]
  | [p], k => by
    cases k with
    | nil => simp [NoFit, Meet]
    | cons q t =>
      simp only [List.cons_append, List.nil_append, NoFit, true_and, Meet]
      constructor
      · rintro ⟨h1, h2⟩
        refine ⟨h2, fun a b ha hb => ?_⟩
        simp at ha hb
        subst ha; subst hb
        exact h1
      · rintro ⟨h2, h3⟩
        exact ⟨h3 p q rfl rfl, h2⟩
  | p :: q :: t, k => by
    have ih := noFit_append (l := q :: t) (k := k)
    have e : Meet (p :: q :: t) k ↔ Meet (q :: t) k := by unfold Meet; simp [List.getLast?_cons_cons]
    simp only [List.cons_append, NoFit] at ih ⊢
    rw [ih, e]
    constructor
    · rintro ⟨a, b, c, d⟩; exact ⟨⟨a, b⟩, c, d⟩
    · rintro ⟨⟨a, b⟩, c, d⟩; exact ⟨a, b, c, d⟩
theorem Pcs.append {l k : List (List Int × Int)} (hl : Pcs l) (hk : Pcs k) (hm : Meet l k) : Pcs (l ++ k) :=
  ⟨fun p hp => (List.mem_append.1 hp).elim (hl.some_ p) (hk.some_ p), fun p hp => (List.mem_append.1 hp).elim (hl.few p) (hk.few p), noFit_append.2 ⟨hl.apart, hk.apart, hm⟩⟩
theorem Pcs.left {l k : List (List Int × Int)} (h : Pcs (l ++ k)) : Pcs l := ⟨fun p hp => h.some_ p (List.mem_append_left _ hp), fun p hp => h.few p (List.mem_append_left _ hp), (noFit_append.1 h.apart).1⟩
theorem Pcs.right {l k : List (List Int × Int)} (h : Pcs (l ++ k)) : Pcs k := ⟨fun p hp => h.some_ p (List.mem_append_right _ hp), fun p hp => h.few p (List.mem_append_right _ hp), (noFit_append.1 h.apart).2.1⟩
theorem Pcs.meet {l k : List (List Int × Int)} (h : Pcs (l ++ k)) : Meet l k := (noFit_append.1 h.apart).2.2
theorem fit_up (d : Int) (p q : List Int × Int) : Fit (p.1, p.2 + d) (q.1, q.2 + d) ↔ Fit p q := by unfold Fit; simp only; constructor <;> (rintro ⟨a, b⟩; exact ⟨by omega, b⟩)
theorem noFit_up (d : Int) : ∀ l : List (List Int × Int), NoFit (upP d l) ↔ NoFit l
  | [] => Iff.rfl
  | [_] => Iff.rfl
  | p :: q :: t => by
    have ih := noFit_up d (q :: t)
    simp only [upP, List.map_cons, NoFit] at ih ⊢
    rw [ih, fit_up]
theorem Pcs.up {l : List (List Int × Int)} (h : Pcs l) (d : Int) : Pcs (upP d l) := by
  refine ⟨fun p hp => ?_, fun p hp => ?_, (noFit_up d l).2 h.apart⟩
  · obtain ⟨x, hx, rfl⟩ := List.mem_map.1 hp
    exact h.some_ x hx
  · obtain ⟨x, hx, rfl⟩ := List.mem_map.1 hp
    exact h.few x hx
theorem Pcs.down {l : List (List Int × Int)} {d : Int} (h : Pcs (upP d l)) : Pcs l := by
  refine ⟨fun p hp => ?_, fun p hp => ?_, (noFit_up d l).1 h.apart⟩
  · exact h.some_ (p.1, p.2 + d) (List.mem_map.2 ⟨p, hp, rfl⟩)
  · exact h.few (p.1, p.2 + d) (List.mem_map.2 ⟨p, hp, rfl⟩)
/-- Two lists of pieces put together: where they meet, two pieces may become one. -/
def glue (l k : List (List Int × Int)) : List (List Int × Int) :=
  match l.getLast?, k with
  | some p, q :: t => if Fit p q then l.dropLast ++ (p.1 ++ q.1, p.2) :: t else l ++ q :: t
  | _, _ => l ++ k
theorem glue_nil_left (k : List (List Int × Int)) : glue [] k = k := by simp [glue]
theorem glue_nil_right (l : List (List Int × Int)) : glue l [] = l := by unfold glue; split <;> simp_all
theorem glue_meet {l k : List (List Int × Int)} (h : Meet l k) : glue l k = l ++ k := by
  unfold glue
  split
  · rename_i p q t hp
    rw [if_neg (h p q hp rfl)]
  · rfl
theorem glue_fit (l : List (List Int × Int)) (p q : List Int × Int) (t : List (List Int × Int)) (h : Fit p q) : glue (l ++ [p]) (q :: t) = l ++ (p.1 ++ q.1, p.2) :: t := by
  unfold glue
  simp [h]
theorem rowOf_cons (p : List Int × Int) (t : List (List Int × Int)) : rowOf (p :: t) = (p.1.map fun c => (c, p.2)) ++ rowOf t := by simp [rowOf]
theorem rowOf_glue (l k : List (List Int × Int)) : rowOf (glue l k) = rowOf l ++ rowOf k := by
  rcases List.eq_nil_or_concat l with rfl | ⟨l0, p, rfl⟩
  · rw [glue_nil_left]; rfl
  · rw [List.concat_eq_append]
    cases k with
    | nil => rw [glue_nil_right]; simp [rowOf]
    | cons q t =>
      by_cases h : Fit p q
      · rw [glue_fit l0 p q t h, rowOf_append, rowOf_append, rowOf_cons, rowOf_cons, rowOf_cons]
        simp only [List.map_append, List.append_assoc]
        rw [h.1]
        simp [rowOf]
      · rw [glue_meet, rowOf_append]
        intro a b ha hb
        simp at ha hb
        subst ha; subst hb
        exact h
theorem Pcs.glue {l k : List (List Int × Int)} (hl : Pcs l) (hk : Pcs k) : Pcs (glue l k) := by
  rcases List.eq_nil_or_concat l with rfl | ⟨l0, p, rfl⟩
  · rw [glue_nil_left]; exact hk
  · rw [List.concat_eq_append] at hl ⊢
    cases k with
    | nil => rw [glue_nil_right]; exact hl
    | cons q t =>
      by_cases h : Fit p q
      · rw [glue_fit l0 p q t h]
        have h1 : Pcs (l0 ++ [(p.1 ++ q.1, p.2)]) := by
          refine Pcs.append hl.left ⟨fun x hx => ?_, fun x hx => ?_, trivial⟩ fun a b ha hb => ?_
          · simp at hx; subst hx; have := hl.some_ p (by simp); simp [this]
          · simp at hx; subst hx; have := h.2; simp only [List.length_append]; omega
          · simp at hb; subst hb
            have := hl.meet a p ha rfl
            intro hf
            refine this ⟨hf.1, ?_⟩
            have h2 := hf.2
            simp only [List.length_append] at h2
            omega
        have h2 : Pcs ([q] ++ t) := hk
        have h3 : Pcs (l0 ++ [(p.1 ++ q.1, p.2)] ++ t) := by
          refine Pcs.append h1 h2.right fun a b ha hb => ?_
          simp at ha; subst ha
          have := h2.meet q b rfl hb
          intro hf
          refine this ⟨by have := hf.1; have := h.1; simp only at *; omega, ?_⟩
          have h4 := hf.2
          simp only [List.length_append] at h4
          omega
        simpa using h3
      · rw [glue_meet]
        · refine Pcs.append hl hk ?_
          intro a b ha hb
          simp at ha hb
          subst ha; subst hb
          exact h
        · intro a b ha hb
          simp at ha hb
          subst ha; subst hb
          exact h
/-- The outermost pieces, as a node's sums tell them. -/
theorem Tr.Wf.ends {t : Tr} (h : t.Wf) : (∃ p k, t.lv = p :: k ∧ t.sm.fc = p.1.length ∧ t.sm.fh = p.2) ∧ (∃ p k, t.lv = k ++ [p] ∧ t.sm.lc = p.1.length ∧ t.sm.lh = p.2) := by
  induction t with
  | nil => exact h.elim
  | leaf rs hid st => exact ⟨⟨(rs, hid), [], rfl, rfl, rfl⟩, ⟨(rs, hid), [], rfl, rfl, rfl⟩⟩
  | node l r st ihl ihr =>
    obtain ⟨⟨p, k, e1, e2, e3⟩, _⟩ := ihl h.1
    obtain ⟨_, ⟨q, m, f1, f2, f3⟩⟩ := ihr h.2
    refine ⟨⟨(p.1, p.2 + st), upP st (k ++ r.lv), ?_, ?_, ?_⟩, ⟨(q.1, q.2 + st), upP st (l.lv ++ m), ?_, ?_, ?_⟩⟩
    · simp [Tr.lv, e1, upP]
    · simp only [Tr.sm, Sm.raised, Sm.both]; exact e2
    · simp only [Tr.sm, Sm.raised, Sm.both]; omega
    · simp [Tr.lv, f1, upP]
    · simp only [Tr.sm, Sm.raised, Sm.both]; exact f2
    · simp only [Tr.sm, Sm.raised, Sm.both]; omega
/-- A tree between two calls. -/
structure Tr.Sound (t : Tr) : Prop where
  ok : t.Ok
  bd : t.Bd
  avl : t.Avl
  pcs : Pcs t.lv
theorem sound_nil : Tr.Sound .nil := ⟨.inl rfl, trivial, trivial, pcs_nil⟩
theorem Tr.lv_nil_iff {t : Tr} (h : t.Ok) : t.lv = [] ↔ t = .nil := by
  constructor
  · intro e
    rcases h with h | h
    · exact h
    · obtain ⟨⟨p, k, e1, _⟩, _⟩ := h.ends
      rw [e] at e1; cases e1
  · rintro rfl; rfl
theorem Tr.Ok.cells_zero {t : Tr} (h : t.Ok) : t.sm.cells = 0 ↔ t = .nil := by
  constructor
  · intro e
    rcases h with h | h
    · exact h
    · have := h.pos
      have := t.sm_cells
      omega
  · rintro rfl; rfl
/-- The two sides of a node that stands. -/
theorem Tr.Sound.sides {l r : Tr} {st : Int} (h : (Tr.node l r st).Sound) : (l.raise st).Sound ∧ (r.raise st).Sound ∧ (l.raise st).Wf ∧ (r.raise st).Wf := by
  have hw : (Tr.node l r st).Wf := h.ok.resolve_left (by simp)
  have hp := h.pcs
  rw [Tr.lv_node] at hp
  have hb := h.bd.sides hw
  have ha := h.avl
  exact ⟨⟨.inr (Tr.wf_raise l hw.1 st), hb.1, Tr.avl_raise l st ha.1, hp.left⟩, ⟨.inr (Tr.wf_raise r hw.2 st), hb.2, Tr.avl_raise r st ha.2.1, hp.right⟩, Tr.wf_raise l hw.1 st, Tr.wf_raise r hw.2 st⟩
end Go.Proofs.YtaaegedmilpcfaaDoor
