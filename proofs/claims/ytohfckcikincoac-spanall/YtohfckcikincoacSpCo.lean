import Derived.Test.YtohfckcikincoacSpRm
namespace Go.Proofs.Ytohfckcikincoac
open Go.RowKit Go.Lib
set_option maxRecDepth 100000

/-- The ends of a list's ranges. -/
def ends (l : List (Int × Int)) : List Int := l.flatMap fun r => [r.1, r.2]
theorem ends_length (l : List (Int × Int)) : (ends l).length = 2 * l.length := by
  induction l with
  | nil => rfl
  | cons r t ih => simp only [ends, List.flatMap_cons, List.length_append, List.length_cons, List.length_nil] at ih ⊢; omega
theorem ends_snoc (l : List (Int × Int)) (j : Nat) (hj : j < l.length) : ends (l.take (j + 1)) = ends (l.take j) ++ [(l.getD j (0, 0)).1, (l.getD j (0, 0)).2] := by
  have e : l.take (j + 1) = l.take j ++ [l.getD j (0, 0)] := by rw [pget hj]; simp
  rw [e]; simp [ends]
theorem ends_mem {l : List (Int × Int)} {x : Int} : x ∈ ends l ↔ ∃ r ∈ l, x = r.1 ∨ x = r.2 := by simp [ends]
def combP (how : Int) (p q : Prop) : Prop := (how = 1 ∧ (p ∨ q)) ∨ (how = 2 ∧ p ∧ q) ∨ (how = 3 ∧ p ∧ ¬ q)
theorem combP_or {how : Int} {p q : Prop} (h : combP how p q) : p ∨ q := by
  rcases h with ⟨_, h⟩ | ⟨_, h, _⟩ | ⟨_, h, _⟩
  · exact h
  · exact .inl h
  · exact .inl h
theorem comb_of {l k : List (Int × Int)} {y6 : List Int} {bs : List Bool} {n : Nat} {how : Int} (hl : Lst l) (hk : Lst k) (p6 : y6.Perm (ends l ++ ends k)) (ha : Asc y6) (hlen : y6.length = n)
    (hlb : ∀ i, i < n → (bs.getD i false = true ↔ combP how (Lies l (y6.getD i 0)) (Lies k (y6.getD i 0)))) :
    Norm (-1) (joinedL y6 bs (n - 1)) ∧ (∀ q, Lies (joinedL y6 bs (n - 1)) q ↔ combP how (Lies l q) (Lies k q)) ∧ (joinedL y6 bs (n - 1)).length ≤ n := by
  subst hlen
  have hm : ∀ x, x ∈ y6 ↔ (∃ r ∈ l, x = r.1 ∨ x = r.2) ∨ ∃ r ∈ k, x = r.1 ∨ x = r.2 := fun x => by
    rw [p6.mem_iff, List.mem_append, ends_mem, ends_mem]
  have hin : ∀ r, r ∈ l ∨ r ∈ k → r.1 ∈ y6 ∧ r.2 ∈ y6 := fun r hr => by
    rcases hr with hr | hr
    · exact ⟨(hm _).2 (.inl ⟨r, hr, .inl rfl⟩), (hm _).2 (.inl ⟨r, hr, .inr rfl⟩)⟩
    · exact ⟨(hm _).2 (.inr ⟨r, hr, .inl rfl⟩), (hm _).2 (.inr ⟨r, hr, .inr rfl⟩)⟩
  have hb : ∀ x ∈ y6, (-1 : Int) < x := fun x hx => by
    rcases (hm x).1 hx with ⟨r, hr, rfl | rfl⟩ | ⟨r, hr, rfl | rfl⟩
    · have := hl.nonneg r hr; omega
    · have := hl.nonneg r hr; omega
    · have := hk.nonneg r hr; omega
    · have := hk.nonneg r hr; omega
  have hT : ∀ x ∈ y6, x ≤ (1048576 : Int) := fun x hx => by
    rcases (hm x).1 hx with ⟨r, hr, rfl | rfl⟩ | ⟨r, hr, rfl | rfl⟩
    · have := hl.nonneg r hr; omega
    · have := hl.nonneg r hr; omega
    · have := hk.nonneg r hr; omega
    · have := hk.nonneg r hr; omega
  obtain ⟨h1, _, h3⟩ := joinedL_is ha (bs := bs) (S := fun q => combP how (Lies l q) (Lies k q)) hb hT (fun i hi => hlb i (by omega))
    (fun c q hcq h => by
      obtain ⟨a1, a2⟩ := two_same hin hcq h
      simp only [combP, a1, a2])
    (fun q hq => by
      rcases combP_or hq with h | h
      · exact lies_cuts (fun r hr => hin r (.inl hr)) h
      · exact lies_cuts (fun r hr => hin r (.inr hr)) h)
  exact ⟨h1, h3, by have := joinedL_length y6 bs (y6.length - 1); omega⟩
theorem OwnI.heap2 {w w' : World} {B : Nat} {v : Value} {l : List Int} (h : OwnI w B v l) (e : w'.heap = w.heap) : OwnI w' B v l := by
  refine ⟨h.1, ?_⟩
  rcases h.2 with h0 | ⟨g, cap, cur, e1, h1, hh, rest⟩
  · exact .inl h0
  · exact .inr ⟨g, cap, cur, e1, h1, by rw [e]; exact hh, rest⟩
theorem exBool (p : Prop) : ∃ r : Bool, r = true ↔ p := by
  by_cases h : p
  · exact ⟨true, by simp [h]⟩
  · exact ⟨false, by simp [h]⟩

end Go.Proofs.Ytohfckcikincoac
