import Derived.Test.YtfnpmncmceocdaaDoorPgPl
import Derived.Test.YtfnpmncmceocdaaDoorPgSh
import Derived.Test.YtfnpmncmceocdaaDoorPgY
import Derived.Test.YtfnpmncmceocdaaDoorPgL
/-! What is shown of a row, in plain data. -/
namespace Go.Proofs.YtfnpmncmceocdaaDoor
open Go.RowKit Go.Lib Go.Shelf
set_option maxRecDepth 100000

theorem chR_len (r : Int) (c : Nat) : (chR r c).length ≤ 4 := by
  unfold chR
  split
  · rw [List.length_replicate]; exact colN_le r c
  · simp
theorem drawR_len (rs : List Int) (lo : Nat) (car : Int) : ∀ j, (drawR rs lo car j).length ≤ 5 * j
  | 0 => Nat.le_refl _
  | j + 1 => by
    have h1 := drawR_len rs lo car j
    have h2 := chR_len (rs.getD (lo + j) 0) (wd rs lo (lo + j))
    unfold drawR
    rw [List.length_append, List.length_append]
    have h3 : (if ((lo + j : Nat) : Int) = car then [(124 : Int)] else []).length ≤ 1 := by split <;> simp
    omega
theorem trimI_len (l : List Int) : (trimI l).length ≤ l.length := by
  unfold trimI
  rw [List.length_reverse]
  have := (List.dropWhile_sublist (l := l.reverse) (fun r => r == 32)).length_le
  rwa [List.length_reverse] at this
theorem drawnR_len (rs : List Int) (lo hi : Nat) (hard : Bool) (car : Int) : (drawnR rs lo hi hard car).length ≤ 5 * (hi - lo) + 1 := by
  unfold drawnR
  refine Nat.le_trans (trimI_len _) ?_
  rw [List.length_append]
  have h1 := drawR_len rs lo (carR lo hi hard car) (hi - lo)
  have h3 : (if (hi : Int) = carR lo hi hard car then [(124 : Int)] else []).length ≤ 1 := by split <;> simp
  omega
/-- A row as it is shown with the caret at a place (G) and without one (P). -/
structure RowG (rs : List Int) (at' r q lo hi : Nat) (hard : Bool) (G P : List Int) : Prop where
  sG : rowB rs (at' : Int) ⟨lo, hi, hard⟩ = strOf G
  sP : rowB rs (-1) ⟨lo, hi, hard⟩ = strOf P
  ok : ∀ x ∈ G, okR x
  few : G.length ≤ 1000000
  bare : P = trimI (drawR rs lo (-1) (hi - lo))
  here : q = r → G.count 124 = 1 ∧ trimI (unbar G) = P
  else_ : q ≠ r → G.count 124 = 0 ∧ G = P
theorem drawnR_bare (rs : List Int) (lo hi : Nat) (hard : Bool) : drawnR rs lo hi hard (-1) = trimI (drawR rs lo (-1) (hi - lo)) := by
  have h : carR lo hi hard (-1) = -1 := by
    unfold carR
    split
    · rfl
    · rfl
  unfold drawnR
  rw [h, if_neg (by omega : ¬ (hi : Int) = -1), List.append_nil]
theorem rowG {rs : List Int} (hok : ∀ r ∈ rs, okR r) (hno : (124 : Int) ∉ rs) (hm : rs.length ≤ 200) {W at' r lo0 hi0 : Nat} {hard0 : Bool} (hst : Stands rs W at' r lo0 hi0 hard0) (hat : at' ≤ rs.length) {q lo hi : Nat} {hard : Bool} (hq : (rowsP rs W)[q]? = some ⟨lo, hi, hard⟩) (hlo : lo ≤ hi) (hhi : hi ≤ rs.length) : ∃ G P, RowG rs at' r q lo hi hard G P := by
  obtain ⟨h1, h2⟩ := drawnB_is hok (hard := hard) (car := (at' : Int)) hhi hlo
  obtain ⟨h3, h4⟩ := drawnB_is hok (hard := hard) (car := -1) hhi hlo
  refine ⟨drawnR rs lo hi hard at', drawnR rs lo hi hard (-1), ?_, ?_, h2, ?_, drawnR_bare rs lo hi hard, fun e => ?_, fun e => ?_⟩
  · unfold rowB strOf; rw [h1]
  · unfold rowB strOf; rw [h3]
  · have := drawnR_len rs lo hi hard at'
    omega
  · subst e
    have e2 := hq.symm.trans hst.get
    simp only [Option.some.injEq, Rv.mk.injEq] at e2
    obtain ⟨rfl, rfl, rfl⟩ := e2
    exact drawn_bar hno hhi hst.le (hst.last hat)
  · have hc : ¬ ((lo : Int) ≤ (at' : Int) ∧ (at' : Int) ≤ lastP hi hard) := fun ⟨a1, a2⟩ => e (Stands.unique (Stands.of hq (by omega) (by omega)) hst)
    obtain ⟨b1, b2⟩ := drawn_none hno (hard := hard) hhi hlo hc
    exact ⟨b2, b1⟩
end Go.Proofs.YtfnpmncmceocdaaDoor
