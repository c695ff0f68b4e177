import Derived.Test.YtiaidmhobbeedaaWeB
import Derived.Test.YtiaidmhobbeedaaWfB
/-! A stream of things, as plain data. -/
namespace Go.Proofs.Ytiaidmhobbeedaa
open Go.RowKit Go.Lib
set_option maxRecDepth 100000

/-- A window into which the numbers base + x, x of T, were put (with 7 times the number) and from which those below Next were taken. -/
structure Str (m : Nat) (base : Int) (T : List Int) (S : Wn Int) : Prop where
  sz : S.sz = m
  lo : base ≤ S.nx
  hi : S.nx ≤ base + m
  has : ∀ n, hasN S.L n = true ↔ (S.nx ≤ n ∧ n - base ∈ T)
  get : ∀ n v, getN S.L n = some v → v = 7 * n
  old : ∀ n, base ≤ n → n < S.nx → n - base ∈ T
  rng : ∀ x ∈ T, 0 ≤ x ∧ x < (m : Int)
theorem Str.start (m : Nat) (base : Int) : Str m base [] ⟨base, m, []⟩ :=
  ⟨rfl, Int.le_refl _, by show base ≤ base + m; omega, fun n => by simp [hasN], fun n v h => by simp [getN] at h, fun n h1 h2 => by simp only at h2; omega, by simp⟩
theorem Str.lt {m : Nat} {base : Int} {T : List Int} {S : Wn Int} (h : Str m base T S) (hr : hasN S.L S.nx = true) : S.nx < base + m := by
  have := h.rng _ ((h.has _).1 hr).2
  omega
theorem Str.pass {m : Nat} {base : Int} {T : List Int} {S : Wn Int} (h : Str m base T S) (hr : hasN S.L S.nx = true) : Str m base T (passS S) := by
  have hlt := h.lt hr
  have hlo := h.lo
  have e : passS S = ⟨S.nx + 1, S.sz, delN S.L S.nx⟩ := by simp [passS, hr]
  rw [e]
  refine ⟨h.sz, by show base ≤ S.nx + 1; omega, by show S.nx + 1 ≤ base + m; omega, fun n => ?_, fun n v hv => ?_, fun n h1 h2 => ?_, h.rng⟩
  · show hasN (delN S.L S.nx) n = true ↔ (S.nx + 1 ≤ n ∧ _)
    by_cases hn : n = S.nx
    · subst hn
      rw [hasN_delN]
      simp
      omega
    · rw [hasN_delN_ne _ hn, h.has n]
      constructor
      · rintro ⟨h1, h2⟩; exact ⟨by omega, h2⟩
      · rintro ⟨h1, h2⟩; exact ⟨by omega, h2⟩
  · have hv' : getN (delN S.L S.nx) n = some v := hv
    by_cases hn : n = S.nx
    · subst hn
      rw [getN_none (hasN_delN _ _)] at hv'
      cases hv'
    · rw [getN_delN_ne _ hn] at hv'
      exact h.get n v hv'
  · have h2' : n < S.nx + 1 := h2
    by_cases hn : n = S.nx
    · subst hn; exact ((h.has _).1 hr).2
    · exact h.old n h1 (by omega)
theorem Str.can {m : Nat} {base : Int} {T : List Int} {S : Wn Int} (h : Str m base T S) {x : Int} (hx : x ∉ T) (h0 : 0 ≤ x) (h1 : x < (m : Int)) : putE S (base + x) = 0 ∧ hasN S.L (base + x) = false := by
  have e0 : base + x - base = x := by omega
  have hn : hasN S.L (base + x) = false := by
    cases hh : hasN S.L (base + x) with
    | false => rfl
    | true => have := ((h.has _).1 hh).2; rw [e0] at this; exact absurd this hx
  have hge : S.nx ≤ base + x := by
    rcases Int.lt_or_le (base + x) S.nx with h2 | h2
    · have := h.old _ (by omega) h2
      rw [e0] at this
      exact absurd this hx
    · exact h2
  have hlo := h.lo
  have hsz := h.sz
  refine ⟨?_, hn⟩
  have g1 : ¬ base + x < S.nx := by omega
  have g2 : ¬ S.sz ≤ base + x - S.nx := by omega
  simp [putE, hn, g1, g2]
theorem Str.put {m : Nat} {base : Int} {T : List Int} {S : Wn Int} (h : Str m base T S) {x : Int} (hx : x ∉ T) (h0 : 0 ≤ x) (h1 : x < (m : Int)) : Str m base (T ++ [x]) ⟨S.nx, S.sz, S.L ++ [(base + x, 7 * (base + x))]⟩ := by
  have hc := (h.can hx h0 h1).2
  have e0 : base + x - base = x := by omega
  have hge : S.nx ≤ base + x := by
    rcases Int.lt_or_le (base + x) S.nx with h2 | h2
    · have := h.old _ (by omega) h2
      rw [e0] at this
      exact absurd this hx
    · exact h2
  refine ⟨h.sz, h.lo, h.hi, fun n => ?_, fun n v hv => ?_, fun n h1 h2 => ?_, ?_⟩
  · show hasN (S.L ++ [(base + x, 7 * (base + x))]) n = true ↔ _
    rw [hasN_app, Bool.or_eq_true, h.has n]
    simp only [beq_iff_eq, List.mem_append, List.mem_singleton]
    constructor
    · rintro (⟨h1, h2⟩ | rfl)
      · exact ⟨h1, .inl h2⟩
      · exact ⟨hge, .inr (by omega)⟩
    · rintro ⟨h1, h2 | h2⟩
      · exact .inl ⟨h1, h2⟩
      · exact .inr (by omega)
  · have hv' : getN (S.L ++ [(base + x, 7 * (base + x))]) n = some v := hv
    by_cases hn : n = base + x
    · subst hn
      rw [getN_app_new _ hc] at hv'
      cases hv'
      rfl
    · rw [getN_app_ne _ _ hn] at hv'
      exact h.get n v hv'
  · exact List.mem_append_left _ (h.old n h1 h2)
  · intro y hy
    rcases List.mem_append.1 hy with hy | hy
    · exact h.rng y hy
    · simp at hy; subst hy; exact ⟨h0, h1⟩
/-- All have come, none is ready: the window is empty and stands at the next lap. -/
theorem Str.full {m : Nat} {base : Int} {T : List Int} {S : Wn Int} (h : Str m base T S) (hq : hasN S.L S.nx = false) (hf : ∀ x, 0 ≤ x → x < (m : Int) → x ∈ T) : S = ⟨base + m, m, []⟩ := by
  have hlo := h.lo
  have hhi := h.hi
  have hnx : S.nx = base + m := by
    rcases Int.lt_or_le S.nx (base + m) with h2 | h2
    · have := (h.has S.nx).2 ⟨Int.le_refl _, hf _ (by omega) (by omega)⟩
      rw [hq] at this; cases this
    · omega
  have hL : S.L = [] := by
    cases hl : S.L with
    | nil => rfl
    | cons p L =>
      have h1 : hasN S.L p.1 = true := by rw [hl]; simp [hasN]
      have h2 := (h.has _).1 h1
      have h3 := h.rng _ h2.2
      omega
  have hsz := h.sz
  cases S
  simp only at hnx hL hsz
  subst hnx hL hsz
  rfl
end Go.Proofs.Ytiaidmhobbeedaa
