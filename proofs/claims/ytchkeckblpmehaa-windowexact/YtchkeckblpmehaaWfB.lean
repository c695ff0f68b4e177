import Derived.Test.YtchkeckblpmehaaWfA
import Derived.Test.YtchkeckblpmehaaWaB
import Derived.LoopIn
/-! The least number that does; the next thing of a window. -/
namespace Go.Proofs.Ytchkeckblpmehaa
open Go.RowKit Go.Lib
theorem exists_least {p : Nat → Prop} : ∀ n, p n → ∃ k, p k ∧ ∀ j, p j → k ≤ j := by
  intro n
  induction n using Nat.strongRecOn with
  | ind n ih =>
    intro hn
    by_cases h : ∃ j, j < n ∧ p j
    · obtain ⟨j, hj, hp⟩ := h
      exact ih j hj hp
    · exact ⟨n, hn, fun j hj => by
        rcases Nat.lt_or_ge j n with h1 | h1
        · exact absurd ⟨j, h1, hj⟩ h
        · exact h1⟩
noncomputable def least (p : Nat → Prop) : Nat := Classical.epsilon fun k => p k ∧ ∀ j, p j → k ≤ j
theorem least_spec {p : Nat → Prop} {n : Nat} (h : p n) : p (least p) ∧ ∀ j, p j → least p ≤ j := Classical.epsilon_spec (exists_least n h)
/-- The next thing of a window, and the window behind it. -/
def nxtW {α : Type} (S : Wn α) : Option ((Int × α) × Wn α) := (getN S.L S.nx).map fun v => ((S.nx, v), passS S)
theorem nxtW_none {α : Type} {S : Wn α} (h : nxtW S = none) : hasN S.L S.nx = false := by
  simp only [nxtW, Option.map_eq_none_iff] at h
  rw [← getN_isSome, h]; rfl
theorem nxtW_of {α : Type} {S : Wn α} {v : α} (h : getN S.L S.nx = some v) : nxtW S = some ((S.nx, v), passS S) := by simp [nxtW, h]
theorem nxtW_inv {α : Type} {S S' : Wn α} {x : Int × α} (h : nxtW S = some (x, S')) : x.1 = S.nx ∧ getN S.L S.nx = some x.2 ∧ S' = passS S ∧ hasN S.L S.nx = true := by
  simp only [nxtW, Option.map_eq_some_iff] at h
  obtain ⟨v, hv, he⟩ := h
  simp only [Prod.mk.injEq] at he
  obtain ⟨rfl, rfl⟩ := he
  exact ⟨rfl, hv, rfl, by rw [← getN_isSome, hv]; rfl⟩
end Go.Proofs.Ytchkeckblpmehaa
