import Derived.Test.YtaaegedmilpcfaaDoorRrP
namespace Go.Proofs.YtaaegedmilpcfaaDoor
open Go.RowKit Go.Lib
set_option maxRecDepth 100000

theorem kindRg : Kind Tryd.prog 63 84 2 16 := kind_of Tryd.underlying63 (z := .agg #[.int .i64 0, .int .i64 0]) (by kernel_rfl) rfl
/-- A list of some cells, as far as q. -/
structure Chs (R : List (Int × Int)) (down : Bool) (q : Nat) (l : List (Int × Int)) : Prop where
  each : ∀ r ∈ l, 0 ≤ r.1 ∧ r.1 < r.2 ∧ r.2 ≤ (q : Int)
  gap : ∀ (j : Nat) x y, l[j]? = some x → l[j + 1]? = some y → x.2 < y.1
  few : l.length ≤ q
  low : down = true → ∀ r ∈ l, ∀ p : Nat, r.1 ≤ (p : Int) → (p : Int) < r.2 → ∀ c, R[p]? = some c → c.2 ≠ 0
theorem chs_nil (R : List (Int × Int)) (down : Bool) (q : Nat) : Chs R down q [] := ⟨fun r h => (by cases h), fun j x y h => (by simp at h), Nat.zero_le _, fun _ r h => (by cases h)⟩
theorem Chs.skip {R : List (Int × Int)} {down : Bool} {q : Nat} {l : List (Int × Int)} (h : Chs R down q l) : Chs R down (q + 1) l :=
  ⟨fun r hr => by have := h.each r hr; omega, h.gap, by have := h.few; omega, h.low⟩
theorem Chs.longer {R : List (Int × Int)} {down : Bool} {q : Nat} {l : List (Int × Int)} {a : Int} (h : Chs R down q (l ++ [(a, (q : Int))])) (hd : down = true → ∀ c, R[q]? = some c → c.2 ≠ 0) : Chs R down (q + 1) (l ++ [(a, (q : Int) + 1)]) := by
  refine ⟨fun r hr => ?_, fun j x y hx hy => ?_, ?_, fun e r hr p h1 h2 c hc => ?_⟩
  · rcases List.mem_append.1 hr with hr | hr
    · have := h.each r (List.mem_append_left _ hr); omega
    · have := h.each (a, (q : Int)) (by simp)
      simp at hr; subst hr; simp only at this ⊢; omega
  · have hj : j < l.length := by
      have := (List.getElem?_eq_some_iff.1 hy).1
      simp at this; omega
    rw [List.getElem?_append_left hj] at hx
    by_cases e : j + 1 < l.length
    · rw [List.getElem?_append_left e] at hy
      exact h.gap j x y (by rw [List.getElem?_append_left hj]; exact hx) (by rw [List.getElem?_append_left e]; exact hy)
    · have e2 : j + 1 = l.length := by omega
      rw [e2, List.getElem?_append_right (Nat.le_refl _)] at hy
      simp at hy
      subst hy
      exact h.gap j x (a, (q : Int)) (by rw [List.getElem?_append_left hj]; exact hx) (by rw [e2, List.getElem?_append_right (Nat.le_refl _)]; simp)
  · have := h.few; simp at this ⊢; omega
  · rcases List.mem_append.1 hr with hr | hr
    · exact h.low e r (List.mem_append_left _ hr) p h1 h2 c hc
    · simp at hr; subst hr
      simp only at h1 h2
      by_cases ep : p = q
      · subst ep; exact hd e c hc
      · exact h.low e (a, (q : Int)) (by simp) p h1 (by simp only; omega) c hc
theorem Chs.one {R : List (Int × Int)} {down : Bool} {q : Nat} {l : List (Int × Int)} (h : Chs R down q l) (hl : ∀ r, l.getLast? = some r → r.2 ≠ (q : Int)) (hd : down = true → ∀ c, R[q]? = some c → c.2 ≠ 0) : Chs R down (q + 1) (l ++ [((q : Int), (q : Int) + 1)]) := by
  refine ⟨fun r hr => ?_, fun j x y hx hy => ?_, ?_, fun e r hr p h1 h2 c hc => ?_⟩
  · rcases List.mem_append.1 hr with hr | hr
    · have := h.each r hr; omega
    · simp at hr; subst hr; simp only; omega
  · have hj : j < l.length := by
      have := (List.getElem?_eq_some_iff.1 hy).1
      simp at this; omega
    rw [List.getElem?_append_left hj] at hx
    by_cases e : j + 1 < l.length
    · rw [List.getElem?_append_left e] at hy
      exact h.gap j x y hx hy
    · have e2 : j + 1 = l.length := by omega
      rw [e2, List.getElem?_append_right (Nat.le_refl _)] at hy
      simp at hy
      subst hy
      have h3 := h.each x (List.mem_of_getElem? hx)
      have h4 := hl x (by rw [List.getLast?_eq_getElem?, show l.length - 1 = j by omega]; exact hx)
      simp only
      omega
  · have := h.few; simp; omega
  · rcases List.mem_append.1 hr with hr | hr
    · exact h.low e r hr p h1 h2 c hc
    · simp at hr; subst hr
      simp only at h1 h2
      have ep : p = q := by omega
      subst ep
      exact hd e c hc
theorem flatP_set (l : List (Int × Int)) (x y z : Int) : (flatF pieceV (l ++ [(x, y)])).set (l.length * 2 + 1) (.int .i64 z) = flatF pieceV (l ++ [(x, z)]) := by
  unfold flatF
  rw [List.flatMap_append, List.flatMap_append]
  have hl : (List.flatMap pieceV l).length = l.length * 2 := flatF_length layP l
  rw [List.set_append, hl, if_neg (by omega), show l.length * 2 + 1 - l.length * 2 = 1 by omega]
  rfl
theorem OwnF.setLast {w : World} {B g cap : Nat} {l : List (Int × Int)} {x y : Int} (h : OwnF pieceV 2 84 w B (.slice (some ⟨g, 0, none⟩) (l.length + 1) cap) (l ++ [(x, y)])) (z : Int) :
    OwnF pieceV 2 84 (w.setCell ⟨g, l.length * 2 + 1, none⟩ (.int .i64 z)) B (.slice (some ⟨g, 0, none⟩) (l.length + 1) cap) (l ++ [(x, z)]) := by
  have e : ∀ t : Int, (l ++ [(x, t)]).length = l.length + 1 := fun t => by simp
  unfold OwnF at h ⊢
  rw [e] at h ⊢
  have := (World.ownsRow.stored h (l.length * 2 + 1) (.int .i64 z)).1
  rw [flatP_set] at this
  exact this
end Go.Proofs.YtaaegedmilpcfaaDoor
