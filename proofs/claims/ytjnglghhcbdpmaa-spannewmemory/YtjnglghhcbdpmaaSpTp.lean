import Derived.Test.YtjnglghhcbdpmaaSpRm
namespace Go.Proofs.Ytjnglghhcbdpmaa
open Go.RowKit Go.Lib
set_option maxRecDepth 100000

theorem lies_flat {l : List (Int × Int)} {f : Int × Int → List (Int × Int)} {q : Int} : Lies (l.flatMap f) q ↔ ∃ r ∈ l, Lies (f r) q := by
  constructor
  · rintro ⟨x, hx, h⟩
    obtain ⟨r, hr, hx⟩ := List.mem_flatMap.1 hx
    exact ⟨r, hr, x, hx, h⟩
  · rintro ⟨r, hr, x, hx, h⟩
    exact ⟨x, List.mem_flatMap.2 ⟨r, hr, hx⟩, h⟩
/-- The parts of a range behind an insert. -/
def thr (at_ n : Int) (r : Int × Int) : List (Int × Int) := (if r.1 < at_ then [(r.1, min r.2 at_)] else []) ++ (if at_ < r.2 then [(max r.1 at_ + n, r.2 + n)] else [])
theorem thr_length (at_ n : Int) (r : Int × Int) : (thr at_ n r).length ≤ 2 := by unfold thr; split <;> split <;> simp
theorem flat_len {f : Int × Int → List (Int × Int)} (h : ∀ r, (f r).length ≤ 2) (l : List (Int × Int)) : (l.flatMap f).length ≤ 2 * l.length := by
  induction l with
  | nil => simp
  | cons r t ih => have := h r; simp only [List.flatMap_cons, List.length_append, List.length_cons]; omega
theorem thr_lies {at_ n q : Int} {r : Int × Int} : Lies (thr at_ n r) q ↔ (r.1 ≤ q ∧ q < r.2 ∧ q < at_) ∨ (r.1 ≤ q - n ∧ q - n < r.2 ∧ at_ ≤ q - n) := by
  unfold thr
  rw [lies_append]
  constructor
  · rintro (h | h)
    · split at h
      · obtain ⟨x, hx, h1, h2⟩ := h
        simp only [List.mem_singleton] at hx
        subst hx
        simp only at h1 h2
        omega
      · exact absurd h (lies_nil _)
    · split at h
      · obtain ⟨x, hx, h1, h2⟩ := h
        simp only [List.mem_singleton] at hx
        subst hx
        simp only at h1 h2
        omega
      · exact absurd h (lies_nil _)
  · rintro (h | h)
    · left
      rw [if_pos (by omega)]
      exact ⟨_, List.mem_singleton.2 rfl, by simp only; omega, by simp only; omega⟩
    · right
      rw [if_pos (by omega)]
      exact ⟨_, List.mem_singleton.2 rfl, by simp only; omega, by simp only; omega⟩
theorem thrL_lies {l : List (Int × Int)} {at_ n q : Int} : Lies (l.flatMap (thr at_ n)) q ↔ (Lies l q ∧ q < at_) ∨ (Lies l (q - n) ∧ at_ ≤ q - n) := by
  rw [lies_flat]
  constructor
  · rintro ⟨r, hr, h⟩
    rcases thr_lies.1 h with h | h
    · exact .inl ⟨⟨r, hr, h.1, h.2.1⟩, h.2.2⟩
    · exact .inr ⟨⟨r, hr, h.1, h.2.1⟩, h.2.2⟩
  · rintro (⟨⟨r, hr, h1, h2⟩, h3⟩ | ⟨⟨r, hr, h1, h2⟩, h3⟩)
    · exact ⟨r, hr, thr_lies.2 (.inl ⟨h1, h2, h3⟩)⟩
    · exact ⟨r, hr, thr_lies.2 (.inr ⟨h1, h2, h3⟩)⟩
/-- Some cell would pass the end. -/
def passes (l : List (Int × Int)) (at_ n : Int) : Prop := ∃ r ∈ l, at_ < r.2 ∧ 1048576 < r.2 + n
theorem grows_passes {l : List (Int × Int)} (h : Lst l) {at_ n : Int} : grows l at_ n ↔ passes l at_ n := by
  constructor
  · rintro ⟨r, hr, h1⟩
    exact ⟨r, List.mem_of_getLast? hr, h1⟩
  · rintro ⟨r, hr, h1, h2⟩
    cases hg : l.getLast? with
    | none => rw [List.getLast?_eq_none_iff.1 hg] at hr; cases hr
    | some x =>
      have := lst_last h.norm hg r hr
      exact ⟨x, hg, by omega, by omega⟩
theorem thr_good {l : List (Int × Int)} (h : Lst l) {at_ n : Int} (ha : 0 ≤ at_ ∧ at_ ≤ 1048576) (hn : 0 ≤ n ∧ n ≤ 1048576) (hp : ¬ passes l at_ n) : ∀ p ∈ l.flatMap (thr at_ n), 0 ≤ p.1 ∧ p.1 ≤ p.2 ∧ p.2 ≤ 1048576 := fun p hpm => by
  obtain ⟨r, hr, hx⟩ := List.mem_flatMap.1 hpm
  have h1 := h.nonneg r hr
  have h2 : ¬ (at_ < r.2 ∧ 1048576 < r.2 + n) := fun hh => hp ⟨r, hr, hh⟩
  unfold thr at hx
  rcases List.mem_append.1 hx with hx | hx
  · split at hx
    · simp only [List.mem_singleton] at hx
      subst hx
      simp only
      omega
    · cases hx
  · split at hx
    · simp only [List.mem_singleton] at hx
      subst hx
      simp only
      omega
    · cases hx
theorem take_snocP (l : List (Int × Int)) (j : Nat) (hj : j < l.length) : l.take (j + 1) = l.take j ++ [l.getD j (0, 0)] := by rw [pget hj]; simp
theorem flat_snoc {f : Int × Int → List (Int × Int)} (l : List (Int × Int)) (j : Nat) (hj : j < l.length) : (l.take (j + 1)).flatMap f = (l.take j).flatMap f ++ f (l.getD j (0, 0)) := by
  have e : l.take (j + 1) = l.take j ++ [l.getD j (0, 0)] := by rw [pget hj]; simp
  rw [e]; simp
open Classical in
noncomputable def throughCode (l : List (Int × Int)) (at_ n : Int) : Int :=
  if (checkL l).2 = 0 then (if (0 ≤ at_ ∧ at_ ≤ 1048576) ∧ 0 ≤ n ∧ n ≤ 1048576 then (if passes l at_ n then 24 else 0) else 12) else (checkL l).2
def throughS (l : List (Int × Int)) (at_ n q : Int) : Prop := (Lies l q ∧ q < at_) ∨ (Lies l (q - n) ∧ at_ ≤ q - n)
theorem through_res {w : World} {a : Option Addr} {m cap : Nat} {l : List (Int × Int)} (h : Rng w a m cap l) (at_ n : Int) :
    Calls Try.prog 22 #[.slice a m cap, .int .i64 at_, .int .i64 n] w fun e w' => ∃ c U, SpecS (throughCode l at_ n) (throughS l at_ n) c U ∧ Res w e w' c U := by
  by_cases h0 : (checkL l).2 = 0
  · have hl := checkL_ok h0
    by_cases hp : (0 ≤ at_ ∧ at_ ≤ 1048576) ∧ 0 ≤ n ∧ n ≤ 1048576
    · by_cases hg : passes l at_ n
      · have e0 : throughCode l at_ n = 24 := by unfold throughCode; rw [if_pos h0, if_pos hp, if_pos hg]
        refine (through_grow h hl hp ((grows_passes hl).2 hg)).mono ?_
        rintro e w' ⟨rfl, hb⟩
        exact ⟨24, [], .inl ⟨by rw [e0]; decide, e0.symm, rfl⟩, Res.nil hb⟩
      · have e0 : throughCode l at_ n = 0 := by unfold throughCode; rw [if_pos h0, if_pos hp, if_neg hg]
        rw [e0]
        obtain ⟨n1, n2⟩ := throughL_all hl hp.1 hp.2
        exact (through_ok h hl hp (fun hh => hg ((grows_passes hl).1 hh))).mono fun e w' ⟨ha, hb⟩ => ha.res hb n1 n2
    · have e0 : throughCode l at_ n = 12 := by unfold throughCode; rw [if_pos h0, if_neg hp]
      refine (through_place h hl hp).mono ?_
      rintro e w' ⟨rfl, hb⟩
      exact ⟨12, [], .inl ⟨by rw [e0]; decide, e0.symm, rfl⟩, Res.nil hb⟩
  · have e0 : throughCode l at_ n = (checkL l).2 := by unfold throughCode; rw [if_neg h0]
    refine (through_bad h (i := (checkL l).1) (c := (checkL l).2) rfl h0 at_ n).mono ?_
    rintro e w' ⟨rfl, hb⟩
    exact ⟨_, [], .inl ⟨by rw [e0]; exact h0, e0.symm, rfl⟩, Res.nil hb⟩
end Go.Proofs.Ytjnglghhcbdpmaa
