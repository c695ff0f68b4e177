import Derived.ProofKit
namespace Go.Proofs.YtelcjhflopgojaaDoor.Sp

/-- The place q lies in one of the ranges. -/
def Lies (l : List (Int × Int)) (q : Int) : Prop := ∃ r ∈ l, r.1 ≤ q ∧ q < r.2
/-- Ranges that rise, none touching the next, all beyond b. -/
def Norm : Int → List (Int × Int) → Prop
  | _, [] => True
  | b, r :: t => b < r.1 ∧ r.1 < r.2 ∧ Norm r.2 t

theorem lies_nil (q : Int) : ¬ Lies [] q := fun ⟨_, h, _⟩ => by cases h
theorem lies_cons (r : Int × Int) (l : List (Int × Int)) (q : Int) : Lies (r :: l) q ↔ (r.1 ≤ q ∧ q < r.2) ∨ Lies l q := by
  constructor
  · rintro ⟨x, hx, h⟩
    rcases List.mem_cons.1 hx with rfl | hx
    · exact .inl h
    · exact .inr ⟨x, hx, h⟩
  · rintro (h | ⟨x, hx, h⟩)
    · exact ⟨r, List.mem_cons_self, h⟩
    · exact ⟨x, List.mem_cons_of_mem _ hx, h⟩
theorem lies_append (l k : List (Int × Int)) (q : Int) : Lies (l ++ k) q ↔ Lies l q ∨ Lies k q := by
  constructor
  · rintro ⟨x, hx, h⟩
    rcases List.mem_append.1 hx with hx | hx
    · exact .inl ⟨x, hx, h⟩
    · exact .inr ⟨x, hx, h⟩
  · rintro (⟨x, hx, h⟩ | ⟨x, hx, h⟩)
    · exact ⟨x, List.mem_append_left _ hx, h⟩
    · exact ⟨x, List.mem_append_right _ hx, h⟩
theorem norm_mono {b c : Int} {l : List (Int × Int)} (h : Norm b l) (hc : c ≤ b) : Norm c l := by
  cases l with
  | nil => trivial
  | cons r t => exact ⟨by have := h.1; omega, h.2⟩
theorem norm_lt {b : Int} {l : List (Int × Int)} (h : Norm b l) : ∀ r ∈ l, b < r.1 ∧ r.1 < r.2 := by
  induction l generalizing b with
  | nil => intro r hr; cases hr
  | cons x t ih =>
    intro r hr
    rcases List.mem_cons.1 hr with rfl | hr
    · exact ⟨h.1, h.2.1⟩
    · have := ih h.2.2 r hr
      have := h.1
      have := h.2.1
      omega
theorem norm_lies {b : Int} {l : List (Int × Int)} (h : Norm b l) {q : Int} (hq : Lies l q) : b < q := by
  obtain ⟨r, hr, h1, h2⟩ := hq
  have := norm_lt h r hr
  omega

/-- ONE LIST A SET. -/
theorem norm_unique {b c : Int} {l k : List (Int × Int)} (hl : Norm b l) (hk : Norm c k) (h : ∀ q, Lies l q ↔ Lies k q) : l = k := by
  induction l generalizing b c k with
  | nil =>
    cases k with
    | nil => rfl
    | cons y u => exact absurd ((h y.1).2 ((lies_cons y u _).2 (.inl ⟨Int.le_refl _, hk.2.1⟩))) (lies_nil _)
  | cons x t ih =>
    cases k with
    | nil => exact absurd ((h x.1).1 ((lies_cons x t _).2 (.inl ⟨Int.le_refl _, hl.2.1⟩))) (lies_nil _)
    | cons y u =>
      have hx : ∀ q, Lies (x :: t) q → x.1 ≤ q := fun q hq => by
        rcases (lies_cons _ _ _).1 hq with hq | hq
        · exact hq.1
        · have := norm_lies hl.2.2 hq; have := hl.2.1; omega
      have hy : ∀ q, Lies (y :: u) q → y.1 ≤ q := fun q hq => by
        rcases (lies_cons _ _ _).1 hq with hq | hq
        · exact hq.1
        · have := norm_lies hk.2.2 hq; have := hk.2.1; omega
      have e1 : x.1 = y.1 := by
        have p1 := hy _ ((h x.1).1 ((lies_cons x t _).2 (.inl ⟨Int.le_refl _, hl.2.1⟩)))
        have p2 := hx _ ((h y.1).2 ((lies_cons y u _).2 (.inl ⟨Int.le_refl _, hk.2.1⟩)))
        omega
      have nx : ¬ Lies (x :: t) x.2 := fun hq => by
        rcases (lies_cons _ _ _).1 hq with hq | hq
        · omega
        · have := norm_lies hl.2.2 hq; omega
      have ny : ¬ Lies (y :: u) y.2 := fun hq => by
        rcases (lies_cons _ _ _).1 hq with hq | hq
        · omega
        · have := norm_lies hk.2.2 hq; omega
      have e2 : x.2 = y.2 := by
        have l1 := hl.2.1
        have l2 := hk.2.1
        rcases Int.lt_trichotomy x.2 y.2 with hlt | heq | hgt
        · exact absurd ((h x.2).2 ((lies_cons y u _).2 (.inl ⟨by omega, hlt⟩))) nx
        · exact heq
        · exact absurd ((h y.2).1 ((lies_cons x t _).2 (.inl ⟨by omega, hgt⟩))) ny
      have e3 : x = y := Prod.ext e1 e2
      subst e3
      congr 1
      refine ih hl.2.2 hk.2.2 fun q => ?_
      constructor
      · intro hq
        have hlt := norm_lies hl.2.2 hq
        rcases (lies_cons _ _ _).1 ((h q).1 ((lies_cons _ _ _).2 (.inr hq))) with h' | h'
        · omega
        · exact h'
      · intro hq
        have hlt := norm_lies hk.2.2 hq
        rcases (lies_cons _ _ _).1 ((h q).2 ((lies_cons _ _ _).2 (.inr hq))) with h' | h'
        · omega
        · exact h'

/-- Check, from the range i on, b being where the one ahead ends. -/
def chk : Nat → Int → List (Int × Int) → Int × Int
  | _, _, [] => (0, 0)
  | i, b, r :: t => if r.1 < 0 ∨ 1048576 < r.2 ∨ r.2 ≤ r.1 then ((i : Int), 20) else if r.1 ≤ b then ((i : Int), 22) else chk (i + 1) r.2 t
/-- Check's answer. -/
def checkL (l : List (Int × Int)) : Int × Int := if 32768 < l.length then (32768, 21) else chk 0 (-1) l
/-- A list, as the chapter says it. -/
structure Lst (l : List (Int × Int)) : Prop where
  norm : Norm (-1) l
  top : ∀ r ∈ l, r.2 ≤ 1048576
  few : l.length ≤ 32768
theorem chk_ok {i : Nat} {b : Int} {l : List (Int × Int)} (h : (chk i b l).2 = 0) (hb : -1 ≤ b) : Norm b l ∧ ∀ r ∈ l, r.2 ≤ 1048576 := by
  induction l generalizing i b with
  | nil => exact ⟨trivial, fun r hr => by cases hr⟩
  | cons r t ih =>
    unfold chk at h
    split at h
    · simp at h
    · split at h
      · simp at h
      · rename_i h1 h2
        have := ih h (by omega)
        refine ⟨⟨by omega, by omega, this.1⟩, fun x hx => ?_⟩
        rcases List.mem_cons.1 hx with rfl | hx
        · omega
        · exact this.2 x hx
theorem chk_of {i : Nat} {b : Int} {l : List (Int × Int)} (h : Norm b l) (ht : ∀ r ∈ l, r.2 ≤ 1048576) (hb : -1 ≤ b) : chk i b l = (0, 0) := by
  induction l generalizing i b with
  | nil => rfl
  | cons r t ih =>
    have h1 := h.1
    have h2 := h.2.1
    have h3 := ht r List.mem_cons_self
    unfold chk
    rw [if_neg (by omega), if_neg (by omega)]
    exact ih h.2.2 (fun x hx => ht x (List.mem_cons_of_mem _ hx)) (by omega)
theorem checkL_ok {l : List (Int × Int)} (h : (checkL l).2 = 0) : Lst l := by
  unfold checkL at h
  split at h
  · simp at h
  · have := chk_ok h (by omega)
    exact ⟨this.1, this.2, by omega⟩
theorem Lst.check {l : List (Int × Int)} (h : Lst l) : checkL l = (0, 0) := by
  unfold checkL
  rw [if_neg (by have := h.few; omega)]
  exact chk_of h.norm h.top (by omega)
theorem chk_codes (i : Nat) (b : Int) (l : List (Int × Int)) : (chk i b l).2 = 0 ∨ (chk i b l).2 = 20 ∨ (chk i b l).2 = 22 := by
  induction l generalizing i b with
  | nil => exact .inl rfl
  | cons r t ih =>
    unfold chk
    split
    · exact .inr (.inl rfl)
    · split
      · exact .inr (.inr rfl)
      · exact ih _ _
theorem checkL_codes (l : List (Int × Int)) : Lst l ∨ ∃ i c, checkL l = (i, c) ∧ (c = 20 ∨ c = 21 ∨ c = 22) := by
  by_cases h0 : (checkL l).2 = 0
  · exact .inl (checkL_ok h0)
  · refine .inr ⟨(checkL l).1, (checkL l).2, rfl, ?_⟩
    unfold checkL at h0 ⊢
    split
    · exact .inr (.inl rfl)
    · rename_i hlen
      rw [if_neg hlen] at h0
      rcases chk_codes 0 (-1) l with h | h | h
      · exact absurd h h0
      · exact .inl h
      · exact .inr (.inr h)
theorem Lst.nonneg {l : List (Int × Int)} (h : Lst l) : ∀ r ∈ l, 0 ≤ r.1 ∧ r.1 < r.2 ∧ r.2 ≤ 1048576 := fun r hr => by
  have := norm_lt h.norm r hr
  have := h.top r hr
  omega

/-- What 'added' makes. -/
def addedL (l : List (Int × Int)) (lo hi : Int) : List (Int × Int) :=
  if hi ≤ lo then l else match l.getLast? with
    | none => [(lo, hi)]
    | some r => if lo ≤ r.2 then l.dropLast ++ [(r.1, max r.2 hi)] else l ++ [(lo, hi)]
theorem norm_snoc {b : Int} {l : List (Int × Int)} {r : Int × Int} : Norm b (l ++ [r]) ↔ Norm b l ∧ r.1 < r.2 ∧ b < r.1 ∧ ∀ x, l.getLast? = some x → x.2 < r.1 := by
  induction l generalizing b with
  | nil => simp [Norm]; omega
  | cons y t ih =>
    simp only [List.cons_append, Norm, ih]
    cases t with
    | nil => simp [Norm]; omega
    | cons z u =>
      constructor
      · rintro ⟨h1, h2, h3, h4, h5, h6⟩
        exact ⟨⟨h1, h2, h3⟩, h4, by omega, fun x hx => h6 x (by rw [List.getLast?_cons_cons] at hx; exact hx)⟩
      · rintro ⟨⟨h1, h2, h3⟩, h4, h5, h6⟩
        have h6' : ∀ x, (z :: u).getLast? = some x → x.2 < r.1 := fun x hx => h6 x (by rw [List.getLast?_cons_cons]; exact hx)
        refine ⟨h1, h2, h3, h4, ?_, h6'⟩
        obtain ⟨x, hx⟩ : ∃ x, (z :: u).getLast? = some x := ⟨_, List.getLast?_eq_some_getLast (by simp)⟩
        have hm : x ∈ z :: u := List.mem_of_getLast? hx
        have := norm_lt h3 x hm
        have := h6' x hx
        omega
theorem getLast?_split {α : Type} {l : List α} {r : α} (h : l.getLast? = some r) : l.dropLast ++ [r] = l := by
  obtain ⟨ys, rfl⟩ := List.getLast?_eq_some_iff.1 h
  simp
theorem addedL_norm {b : Int} {l : List (Int × Int)} {lo hi : Int} (h : Norm b l) (hlo : ∀ r ∈ l, r.1 ≤ lo) (hb : b < lo) : Norm b (addedL l lo hi) := by
  unfold addedL
  split
  · exact h
  · rename_i hlt
    cases hg : l.getLast? with
    | none => exact ⟨hb, by simpa using hlt, trivial⟩
    | some r =>
      have hs := getLast?_split hg
      have hm : r ∈ l := List.mem_of_getLast? hg
      have hr := norm_lt h r hm
      have hr2 := hlo r hm
      simp only
      split
      · rw [← hs] at h
        have h' := norm_snoc.1 h
        refine norm_snoc.2 ⟨h'.1, by simp only; omega, h'.2.2.1, h'.2.2.2⟩
      · rename_i h2
        refine norm_snoc.2 ⟨h, by simp only; omega, hb, fun x hx => ?_⟩
        rw [hg] at hx
        cases hx
        simp only
        omega
theorem addedL_lies {l : List (Int × Int)} {lo hi : Int} (hlo : ∀ r ∈ l, r.1 ≤ lo) (hlt : ∀ r ∈ l, r.1 < r.2) (q : Int) : Lies (addedL l lo hi) q ↔ Lies l q ∨ (lo ≤ q ∧ q < hi) := by
  unfold addedL
  split
  · constructor
    · exact .inl
    · rintro (h | h)
      · exact h
      · omega
  · rename_i hlt'
    cases hg : l.getLast? with
    | none =>
      have : l = [] := List.getLast?_eq_none_iff.1 hg
      subst this
      simp [Lies]
    | some r =>
      have hs := getLast?_split hg
      have hm : r ∈ l := List.mem_of_getLast? hg
      have hr := hlo r hm
      have hr2 := hlt r hm
      simp only
      split
      · rw [lies_append]
        conv => rhs; rw [← hs, lies_append]
        simp only [lies_cons, lies_nil, or_false]
        constructor
        · rintro (h | h)
          · exact .inl (.inl h)
          · by_cases hq : q < r.2
            · exact .inl (.inr ⟨h.1, hq⟩)
            · exact .inr ⟨by omega, by omega⟩
        · rintro ((h | h) | h)
          · exact .inl h
          · exact .inr ⟨h.1, by omega⟩
          · exact .inr ⟨by omega, by omega⟩
      · rw [lies_append]
        simp [lies_cons, lies_nil]
theorem addedL_los {l : List (Int × Int)} {lo hi : Int} (hlo : ∀ r ∈ l, r.1 ≤ lo) : ∀ r ∈ addedL l lo hi, r.1 ≤ lo := by
  unfold addedL
  split
  · exact hlo
  · cases hg : l.getLast? with
    | none => intro r hr; simp only [List.mem_singleton] at hr; subst hr; exact Int.le_refl _
    | some x =>
      have hm : x ∈ l := List.mem_of_getLast? hg
      simp only
      split
      · intro r hr
        rcases List.mem_append.1 hr with h | h
        · exact hlo r (List.dropLast_subset _ h)
        · simp only [List.mem_singleton] at h; subst h; exact hlo x hm
      · intro r hr
        rcases List.mem_append.1 hr with h | h
        · exact hlo r h
        · simp only [List.mem_singleton] at h; subst h; exact Int.le_refl _
theorem addedL_length (l : List (Int × Int)) (lo hi : Int) : (addedL l lo hi).length ≤ l.length + 1 ∧ l.length ≤ (addedL l lo hi).length := by
  unfold addedL
  split
  · omega
  · cases hg : l.getLast? with
    | none =>
      have : l = [] := List.getLast?_eq_none_iff.1 hg
      subst this
      simp
    | some x =>
      have hne : l ≠ [] := fun h => by subst h; simp at hg
      have := List.length_pos_iff.2 hne
      simp only
      split
      · simp; omega
      · simp
theorem addedL_top {l : List (Int × Int)} {lo hi T : Int} (ht : ∀ r ∈ l, r.2 ≤ T) (hh : lo < hi → hi ≤ T) : ∀ r ∈ addedL l lo hi, r.2 ≤ T := by
  unfold addedL
  split
  · exact ht
  · have hh := hh (by omega)
    cases hg : l.getLast? with
    | none => intro r hr; simp only [List.mem_singleton] at hr; subst hr; exact hh
    | some x =>
      have hm : x ∈ l := List.mem_of_getLast? hg
      have := ht x hm
      simp only
      split
      · intro r hr
        rcases List.mem_append.1 hr with h | h
        · exact ht r (List.dropLast_subset _ h)
        · simp only [List.mem_singleton] at h; subst h; simp only; omega
      · intro r hr
        rcases List.mem_append.1 hr with h | h
        · exact ht r h
        · simp only [List.mem_singleton] at h; subst h; exact hh

/-- What 'taken' makes. -/
def takenL (l a : List (Int × Int)) (lo hi d : Int) : List (Int × Int) := a.foldl (fun l r => addedL l (max r.1 lo + d) (min r.2 hi + d)) l
/-- The Lo's rise (they may be the same). -/
def Los (a : List (Int × Int)) : Prop := a.Pairwise fun x y => x.1 ≤ y.1
theorem takenL_all {b : Int} {l a : List (Int × Int)} {lo hi d : Int} (ha : Los a) (h : Norm b l) (hlo : ∀ r ∈ l, ∀ x ∈ a, r.1 ≤ max x.1 lo + d) (hb : ∀ x ∈ a, b < max x.1 lo + d) :
    Norm b (takenL l a lo hi d) ∧ ∀ q, Lies (takenL l a lo hi d) q ↔ Lies l q ∨ (Lies a (q - d) ∧ lo ≤ q - d ∧ q - d < hi) := by
  induction a generalizing l with
  | nil => exact ⟨h, fun q => by simp [takenL, Lies]⟩
  | cons x t ih =>
    have hx : ∀ r ∈ l, r.1 ≤ max x.1 lo + d := fun r hr => hlo r hr x List.mem_cons_self
    have hp := List.pairwise_cons.1 ha
    have hn := addedL_norm (hi := min x.2 hi + d) h hx (hb x List.mem_cons_self)
    have hl2 : ∀ r ∈ addedL l (max x.1 lo + d) (min x.2 hi + d), ∀ y ∈ t, r.1 ≤ max y.1 lo + d := fun r hr y hy => by
      have := addedL_los hx r hr
      have := hp.1 y hy
      omega
    have := ih hp.2 hn hl2 (fun y hy => hb y (List.mem_cons_of_mem _ hy))
    refine ⟨this.1, fun q => ?_⟩
    rw [show takenL l (x :: t) lo hi d = takenL (addedL l (max x.1 lo + d) (min x.2 hi + d)) t lo hi d from rfl, this.2 q, addedL_lies hx (fun r hr => (norm_lt h r hr).2), lies_cons]
    constructor
    · rintro ((h | h) | h)
      · exact .inl h
      · exact .inr ⟨.inl ⟨by omega, by omega⟩, by omega, by omega⟩
      · exact .inr ⟨.inr h.1, h.2⟩
    · rintro (h | ⟨h | h, h2⟩)
      · exact .inl (.inl h)
      · exact .inl (.inr ⟨by omega, by omega⟩)
      · exact .inr ⟨h, h2⟩
theorem takenL_length (l a : List (Int × Int)) (lo hi d : Int) : (takenL l a lo hi d).length ≤ l.length + a.length := by
  induction a generalizing l with
  | nil => simp [takenL]
  | cons x t ih =>
    have := ih (addedL l (max x.1 lo + d) (min x.2 hi + d))
    have := (addedL_length l (max x.1 lo + d) (min x.2 hi + d)).1
    rw [show takenL l (x :: t) lo hi d = takenL (addedL l (max x.1 lo + d) (min x.2 hi + d)) t lo hi d from rfl, List.length_cons]
    omega
theorem norm_los {b : Int} {l : List (Int × Int)} (h : Norm b l) : Los l := by
  induction l generalizing b with
  | nil => exact List.Pairwise.nil
  | cons x t ih =>
    refine List.pairwise_cons.2 ⟨fun y hy => ?_, ih h.2.2⟩
    have := norm_lt h.2.2 y hy
    have := h.2.1
    omega
end Go.Proofs.YtelcjhflopgojaaDoor.Sp
