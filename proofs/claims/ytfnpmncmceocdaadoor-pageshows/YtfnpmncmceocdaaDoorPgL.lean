import Derived.Test.YtfnpmncmceocdaaDoorPgK
/-! PageKeeps. -/
namespace Go.Proofs.YtfnpmncmceocdaaDoor
open Go.RowKit Go.Lib
set_option maxRecDepth 100000

def nxt (x : Rv) : Nat := if x.hard then x.hi + 1 else x.hi
/-- Where the row behind some rows begins. -/
def posn : Nat → List Rv → Nat
  | a, [] => a
  | _, x :: l => posn (nxt x) l
theorem posn_snoc : ∀ (l : List Rv) (a : Nat) (x : Rv), posn a (l ++ [x]) = nxt x
  | [], _, _ => rfl
  | _ :: l, _, x => posn_snoc l _ x
theorem ch_posn : ∀ {l : List Rv} {a b : Nat}, Ch a l b → posn a l = b
  | [], _, _, h => h
  | x :: l, _, b, ⟨_, h⟩ => (ch_posn h : posn (nxt x) l = b)
theorem Ch.lo : ∀ {l : List Rv} {a b : Nat}, Ch a l b → ∀ (i : Nat) (x : Rv), l[i]? = some x → x.lo = posn a (l.take i)
  | [], _, _, _, i, x, h => by simp at h
  | y :: l, a, b, ⟨h1, h2⟩, 0, x, h => by
    simp at h
    subst h
    exact h1
  | y :: l, a, b, ⟨h1, h2⟩, i + 1, x, h => by
    simp only [List.getElem?_cons_succ] at h
    exact Ch.lo h2 i x h
theorem posn_succ {l : List Rv} {i : Nat} {x : Rv} (h : l[i]? = some x) (a : Nat) : posn a (l.take (i + 1)) = nxt x := by
  obtain ⟨hi, rfl⟩ := List.getElem?_eq_some_iff.1 h
  rw [List.take_succ_eq_append_getElem hi, posn_snoc]
/-- What is known of row i. -/
structure RowI (rs : List Int) (W : Nat) (i k : Nat) (lo hi : Nat) (hard : Bool) : Prop where
  get : (rowsP rs W)[i]? = some ⟨lo, hi, hard⟩
  at_ : lo = posn 0 ((rowsP rs W).take i)
  next : posn 0 ((rowsP rs W).take (i + 1)) = if hard then hi + 1 else hi
  le : lo ≤ hi
  len : hi ≤ rs.length
  line : ∀ q, lo ≤ q → q < hi → ∀ r, rs[q]? = some r → r ≠ 10
  wide : wd rs lo hi ≤ W ∨ hi = lo + 1
  last : i + 1 = k → hard = true ∧ hi = rs.length
  mid : i + 1 < k → hi < rs.length
  nl : i + 1 < k → hard = true → rs[hi]? = some 10
  soft : hard = false → lo < hi ∧ ∃ r, rs[hi]? = some r ∧ r ≠ 10
theorem rowI (rs : List Int) (W : Nat) {i : Nat} (h : i < (rowsP rs W).length) : ∃ lo hi hard, RowI rs W i (rowsP rs W).length lo hi hard := by
  obtain ⟨hok, hch⟩ := rowsP_ok rs W
  have hx : (rowsP rs W)[i]? = some (rowsP rs W)[i] := List.getElem?_eq_getElem h
  generalize (rowsP rs W)[i] = x at hx
  have hr := hok x (List.mem_of_getElem? hx)
  have hsoft : x.hard = false → ∃ r, rs[x.hi]? = some r ∧ r ≠ 10 := fun e => by
    obtain ⟨h1, h2, j, r, h3, h4, h5, h6, h7⟩ := hr.soft e
    rcases Nat.eq_or_lt_of_le h3 with h8 | h8
    · exact ⟨r, by rw [h8]; exact h4, h5⟩
    · have hj := (List.getElem?_eq_some_iff.1 h4).1
      have : rs[x.hi]? = some rs[x.hi] := List.getElem?_eq_getElem (by omega)
      exact ⟨_, this, (h6 x.hi (Nat.le_refl _) h8 _ this).2⟩
  refine ⟨x.lo, x.hi, x.hard, ⟨hx, hch.lo i x hx, posn_succ hx 0, hr.le, hr.len, hr.line, hr.wide, fun e => ?_, fun e => ?_, fun e eh => ?_, fun e => ⟨(hr.soft e).1, hsoft e⟩⟩⟩
  · have h1 := posn_succ hx 0
    rw [e, List.take_length, ch_posn hch] at h1
    unfold nxt at h1
    have := hr.len
    cases hh : x.hard with
    | true => rw [hh] at h1; simp at h1; exact ⟨rfl, by omega⟩
    | false => rw [hh] at h1; simp at h1; omega
  · cases hh : x.hard with
    | false =>
      obtain ⟨r, h1, _⟩ := hsoft hh
      exact (List.getElem?_eq_some_iff.1 h1).1
    | true =>
      have hy : (rowsP rs W)[i + 1]? = some (rowsP rs W)[i + 1] := List.getElem?_eq_getElem e
      have h1 := hch.lo (i + 1) _ hy
      have h2 := hok _ (List.mem_of_getElem? hy)
      rw [posn_succ hx 0, nxt, hh] at h1
      simp only [if_true] at h1
      have := h2.le
      have := h2.len
      omega
  · have hy : (rowsP rs W)[i + 1]? = some (rowsP rs W)[i + 1] := List.getElem?_eq_getElem e
    have h1 := hch.lo (i + 1) _ hy
    have h2 := hok _ (List.mem_of_getElem? hy)
    rw [posn_succ hx 0, nxt, eh] at h1
    simp only [if_true] at h1
    have := h2.le
    have := h2.len
    rcases hr.hard eh with h3 | h3
    · omega
    · exact h3
/-- As RowI, with the length of the text. -/
structure RowM (rs : List Int) (W : Nat) (i k m : Nat) (lo hi : Nat) (hard : Bool) : Prop extends RowI rs W i k lo hi hard where
  mm : rs.length = m
theorem wd_cols (rs : List Int) (a b : Nat) : wideN 0 ((rs.take b).drop a) = wd rs a b := rfl
end Go.Proofs.YtfnpmncmceocdaaDoor
