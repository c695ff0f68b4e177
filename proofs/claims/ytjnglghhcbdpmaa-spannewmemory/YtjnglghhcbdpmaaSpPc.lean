import Derived.Test.YtjnglghhcbdpmaaSpP
namespace Go.Proofs.Ytjnglghhcbdpmaa

/-- Piece k of the cuts. -/
def Piece (cuts : List Int) (k : Nat) (q : Int) : Prop := k + 1 < cuts.length ∧ cuts.getD k 0 ≤ q ∧ q < cuts.getD (k + 1) 0
theorem asc_get {cuts : List Int} (h : cuts.Pairwise (· ≤ ·)) {i j : Nat} (hij : i ≤ j) (hj : j < cuts.length) : cuts.getD i 0 ≤ cuts.getD j 0 := by
  rcases Nat.lt_or_ge i j with hlt | hge
  · have := List.pairwise_iff_getElem.1 h i j (by omega) hj hlt
    simpa [List.getD_eq_getElem?_getD, hj, show i < cuts.length by omega] using this
  · have : i = j := by omega
    subst this
    exact Int.le_refl _
theorem mem_get {cuts : List Int} {x : Int} (h : x ∈ cuts) : ∃ i, i < cuts.length ∧ cuts.getD i 0 = x := by
  obtain ⟨i, hi, rfl⟩ := List.getElem_of_mem h
  exact ⟨i, hi, by simp [List.getD_eq_getElem?_getD, hi]⟩
theorem get_mem {cuts : List Int} {i : Nat} (h : i < cuts.length) : cuts.getD i 0 ∈ cuts := by
  rw [List.getD_eq_getElem?_getD, List.getElem?_eq_getElem h]
  exact List.getElem_mem _
/-- The last cut at or below q. -/
theorem last_cut {cuts : List Int} (hs : cuts.Pairwise (· ≤ ·)) {q : Int} (h1 : ∃ x ∈ cuts, x ≤ q) (h2 : ∃ x ∈ cuts, q < x) : ∃ k, Piece cuts k q := by
  obtain ⟨x, hx, hxq⟩ := h1
  obtain ⟨y, hy, hqy⟩ := h2
  obtain ⟨i, hi, rfl⟩ := mem_get hx
  obtain ⟨j, hj, rfl⟩ := mem_get hy
  have key : ∀ d i, i + d = j → cuts.getD i 0 ≤ q → ∃ k, Piece cuts k q := by
    intro d
    induction d with
    | zero => intro i e h; rw [Nat.add_zero] at e; subst e; omega
    | succ d ih =>
      intro i e h
      by_cases hn : cuts.getD (i + 1) 0 ≤ q
      · exact ih (i + 1) (by omega) hn
      · exact ⟨i, by omega, h, by omega⟩
  have hij : i ≤ j := by
    rcases Nat.lt_or_ge j i with h | h
    · have := asc_get hs (Nat.le_of_lt h) hi; omega
    · exact h
  exact key (j - i) i (by omega) hxq
theorem pieces_all {cuts : List Int} {S : Int → Prop} {I : Nat → Prop} (hs : cuts.Pairwise (· ≤ ·)) (hI : ∀ k, k + 1 < cuts.length → (I k ↔ S (cuts.getD k 0)))
    (H1 : ∀ c q, c ≤ q → (∀ x ∈ cuts, ¬ (c < x ∧ x ≤ q)) → (S c ↔ S q)) (H2 : ∀ q, S q → (∃ x ∈ cuts, x ≤ q) ∧ ∃ x ∈ cuts, q < x) (q : Int) : (∃ k, I k ∧ Piece cuts k q) ↔ S q := by
  have key : ∀ k, Piece cuts k q → ∀ x ∈ cuts, ¬ (cuts.getD k 0 < x ∧ x ≤ q) := fun k hk x hx hh => by
    obtain ⟨i, hi, rfl⟩ := mem_get hx
    rcases Nat.lt_or_ge k i with h | h
    · have := asc_get hs (show k + 1 ≤ i by omega) hi
      have := hk.2.2
      omega
    · have := asc_get hs h (by have := hk.1; omega)
      omega
  constructor
  · rintro ⟨k, hk, hp⟩
    exact (H1 _ q hp.2.1 (key k hp)).1 ((hI k hp.1).1 hk)
  · intro hq
    obtain ⟨k, hp⟩ := last_cut hs (H2 q hq).1 (H2 q hq).2
    exact ⟨k, (hI k hp.1).2 ((H1 _ q hp.2.1 (key k hp)).2 hq), hp⟩
/-- Where no end of a range lies between, membership does not turn. -/
theorem lies_same {l : List (Int × Int)} {cuts : List Int} (hm : ∀ r ∈ l, r.1 ∈ cuts ∧ r.2 ∈ cuts) {c q : Int} (hcq : c ≤ q) (h : ∀ x ∈ cuts, ¬ (c < x ∧ x ≤ q)) : Lies l c ↔ Lies l q := by
  constructor
  · rintro ⟨r, hr, h1, h2⟩
    refine ⟨r, hr, by omega, ?_⟩
    have := h r.2 (hm r hr).2
    omega
  · rintro ⟨r, hr, h1, h2⟩
    refine ⟨r, hr, ?_, by omega⟩
    have := h r.1 (hm r hr).1
    omega
/-- How many of the numbers are at most x. -/
def atMost (l : List Int) (x : Int) : Nat := (l.filter (fun y => decide (y ≤ x))).length
theorem atMost_perm {k l : List Int} (h : k.Perm l) (x : Int) : atMost k x = atMost l x := (h.filter _).length_eq
/-- More have begun than ended just where a part is open. -/
theorem open_iff {l : List (Int × Int)} (hl : ∀ r ∈ l, r.1 ≤ r.2) (c : Int) : atMost (l.map (·.2)) c ≤ atMost (l.map (·.1)) c ∧ (atMost (l.map (·.2)) c < atMost (l.map (·.1)) c ↔ Lies l c) := by
  induction l with
  | nil => simp [atMost, lies_nil]
  | cons r t ih =>
    obtain ⟨i1, i2⟩ := ih (fun x hx => hl x (List.mem_cons_of_mem _ hx))
    have hr := hl r List.mem_cons_self
    have e : ∀ (f : Int × Int → Int), atMost ((r :: t).map f) c = (if f r ≤ c then 1 else 0) + atMost (t.map f) c := fun f => by
      simp only [atMost, List.map_cons, List.filter_cons]
      split <;> split <;> simp_all <;> omega
    rw [e, e, lies_cons, ← i2]
    by_cases h1 : r.1 ≤ c <;> by_cases h2 : r.2 ≤ c
    · rw [if_pos h1, if_pos h2]; constructor; omega; constructor; (intro h; exact .inr (by omega)); (rintro (h | h); omega; omega)
    · rw [if_pos h1, if_neg h2]; constructor; omega; constructor; (intro _; exact .inl ⟨h1, by omega⟩); (intro _; omega)
    · omega
    · rw [if_neg h1, if_neg h2]; constructor; omega; constructor; (intro h; exact .inr (by omega)); (rintro (h | h); omega; omega)
/-- Of rising numbers, the first k are those at most x. -/
theorem atMost_asc {l : List Int} {x : Int} {k : Nat} (hk : k ≤ l.length) (h1 : ∀ i, i < k → l.getD i 0 ≤ x) (h2 : ∀ i, k ≤ i → i < l.length → x < l.getD i 0) : atMost l x = k := by
  have e : l = l.take k ++ l.drop k := (List.take_append_drop k l).symm
  unfold atMost
  rw [e, List.filter_append, List.length_append, List.filter_eq_self.2 (fun y hy => ?_), List.filter_eq_nil_iff.2 (fun y hy => ?_)]
  · simp; omega
  · obtain ⟨i, hi, rfl⟩ := List.getElem_of_mem hy
    have hi' : i < l.length - k := by simpa using hi
    have := h2 (k + i) (by omega) (by omega)
    simp only [List.getD_eq_getElem?_getD, List.getElem?_eq_getElem (show k + i < l.length by omega), Option.getD_some] at this
    simp only [List.getElem_drop, decide_eq_true_eq]
    omega
  · obtain ⟨i, hi, rfl⟩ := List.getElem_of_mem hy
    have hi' : i < k := by simp at hi; omega
    have := h1 i hi'
    simp only [List.getD_eq_getElem?_getD, List.getElem?_eq_getElem (show i < l.length by omega), Option.getD_some] at this
    simp only [List.getElem_take, decide_eq_true_eq]
    exact this
end Go.Proofs.Ytjnglghhcbdpmaa
