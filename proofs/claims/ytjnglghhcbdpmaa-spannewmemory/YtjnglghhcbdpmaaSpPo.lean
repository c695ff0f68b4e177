import Derived.Test.YtjnglghhcbdpmaaSpKp
namespace Go.Proofs.Ytjnglghhcbdpmaa
open Go.RowKit Go.Lib
set_option maxRecDepth 100000

/-- The list of the places of any parts. -/
def PlOf (l L : List (Int × Int)) : Prop := Norm (-1) L ∧ (∀ r ∈ L, r.2 ≤ 1048576) ∧ (∀ q, Lies L q ↔ Lies l q) ∧ L.length ≤ 2 * l.length
theorem pl_of {l : List (Int × Int)} {y1 y2 y6 : List Int} {bs : List Bool} {n : Nat} (hl : ∀ r ∈ l, 0 ≤ r.1 ∧ r.1 ≤ r.2 ∧ r.2 ≤ 1048576) (p1 : y1.Perm (l.map (·.1))) (p2 : y2.Perm (l.map (·.2))) (p6 : y6.Perm (y1 ++ y2)) (ha : Asc y6) (hlen : y6.length = n)
    (hlb : ∀ i, i < n → bs.getD i false = decide (atMost y2 (y6.getD i 0) < atMost y1 (y6.getD i 0))) : PlOf l (joinedL y6 bs (n - 1)) := by
  subst hlen
  have hm : ∀ x, x ∈ y6 ↔ (∃ r ∈ l, r.1 = x) ∨ ∃ r ∈ l, r.2 = x := fun x => by
    rw [p6.mem_iff, List.mem_append, p1.mem_iff, p2.mem_iff, List.mem_map, List.mem_map]
  have hin : ∀ r ∈ l, r.1 ∈ y6 ∧ r.2 ∈ y6 := fun r hr => ⟨(hm _).2 (.inl ⟨r, hr, rfl⟩), (hm _).2 (.inr ⟨r, hr, rfl⟩)⟩
  have hb : ∀ x ∈ y6, (-1 : Int) < x := fun x hx => by
    rcases (hm x).1 hx with ⟨r, hr, rfl⟩ | ⟨r, hr, rfl⟩ <;> have := hl r hr <;> omega
  have hT : ∀ x ∈ y6, x ≤ (1048576 : Int) := fun x hx => by
    rcases (hm x).1 hx with ⟨r, hr, rfl⟩ | ⟨r, hr, rfl⟩ <;> have := hl r hr <;> omega
  obtain ⟨h1, h2, h3⟩ := joinedL_is ha (bs := bs) (S := fun q => Lies l q) hb hT (fun k hk => by
      rw [hlb k (by omega), decide_eq_true_iff, atMost_perm p1, atMost_perm p2]
      exact (open_iff (fun r hr => (hl r hr).2.1) _).2)
    (fun c q hcq h => lies_same hin hcq h) (fun q hq => lies_cuts hin hq)
  refine ⟨h1, h2, h3, ?_⟩
  have h4 := joinedL_length y6 bs (y6.length - 1)
  have h5 := p6.length_eq
  have h6 := p1.length_eq
  have h7 := p2.length_eq
  simp only [List.length_append, List.length_map] at h5 h6 h7
  omega
theorem ownB_frozen {w : World} {B g n cap : Nat} {l : List Bool} (h : OwnB w B (.slice (some ⟨g, 0, none⟩) n cap) l) (j : Nat) : w.frozen? ⟨g, j, none⟩ = false := by
  rcases h.2 with ⟨e, _⟩ | ⟨g', cap', cur, e, _, hh, _⟩
  · simp at e
  · simp only [Value.slice.injEq, Option.some.injEq, Addr.mk.injEq, and_true] at e
    obtain ⟨rfl, _⟩ := e
    simp [World.frozen?, hh]
theorem getD_set_lt {bs : List Bool} {k i : Nat} {z : Bool} (hk : k < bs.length) : (bs.set k z).getD i false = if i = k then z else bs.getD i false := by
  rw [List.getD_eq_getElem?_getD, List.getElem?_set]
  by_cases e : k = i
  · subst e; simp [hk]
  · rw [if_neg e, if_neg (fun h => e h.symm), List.getD_eq_getElem?_getD]
end Go.Proofs.Ytjnglghhcbdpmaa
