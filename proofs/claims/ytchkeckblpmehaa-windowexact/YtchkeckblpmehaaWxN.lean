import Derived.Test.YtchkeckblpmehaaWxM
import Derived.Sort.QuietTacIn
import Derived.Laws.EntriesVeiled
/-! How many rounds a loop over what is ready has. -/
namespace Go.Proofs.Ytchkeckblpmehaa
open Go.RowKit Go.Lib
/-- The things that are held, and the one that the loop's body may still put. -/
def mu (N : Int) (S : Wn Int) : Nat := S.L.length + (if S.nx ≤ N ∧ hasN S.L N = false then 1 else 0)
theorem mu_le (N : Int) (S : Wn Int) : S.L.length ≤ mu N S ∧ mu N S ≤ S.L.length + 1 := by
  unfold mu
  split <;> omega
theorem mu_pass (N : Int) {S : Wn Int} (hd : (S.L.map (·.1)).Nodup) (h : hasN S.L S.nx = true) : mu N (passS S) + 1 = mu N S ∧ (passS S).nx = S.nx + 1 := by
  have h1 : passS S = ⟨S.nx + 1, S.sz, delN S.L S.nx⟩ := by simp [passS, h]
  have h2 := delN_length hd h
  rw [h1]
  refine ⟨?_, rfl⟩
  unfold mu
  by_cases hN : N = S.nx
  · have a1 : ¬ (S.nx + 1 ≤ N ∧ hasN (delN S.L S.nx) N = false) := by omega
    have a2 : ¬ (S.nx ≤ N ∧ hasN S.L N = false) := by rw [hN, h]; simp
    simp only [a1, a2, if_false]
    omega
  · rw [hasN_delN_ne S.L hN]
    by_cases a1 : S.nx ≤ N ∧ hasN S.L N = false
    · have a2 : S.nx + 1 ≤ N ∧ hasN S.L N = false := ⟨by omega, a1.2⟩
      simp only [a1, a2, and_self, if_true]
      omega
    · have a2 : ¬ (S.nx + 1 ≤ N ∧ hasN S.L N = false) := fun h => a1 ⟨by omega, h.2⟩
      simp only [a1, a2, if_false]
      omega
theorem mu_put (N x : Int) (S : Wn Int) : mu N (putS S N x) = mu N S ∧ (putS S N x).nx = S.nx := by
  rcases putE_cases S N with ⟨h1, he⟩ | ⟨h1, h2, he⟩ | ⟨h1, h2, h3, he⟩ | ⟨h1, h2, h3, he⟩
  · simp [putS, he]
  · simp [putS, he]
  · simp [putS, he]
  · have e2 : putS S N x = ⟨S.nx, S.sz, S.L ++ [(N, x)]⟩ := by simp [putS, he]
    rw [e2]
    refine ⟨?_, rfl⟩
    have h4 : hasN (S.L ++ [(N, x)]) N = true := by rw [hasN_app]; simp
    have a1 : S.nx ≤ N ∧ hasN S.L N = false := ⟨by omega, h3⟩
    unfold mu
    simp [h4, h3, List.length_append]
    omega
end Go.Proofs.Ytchkeckblpmehaa
