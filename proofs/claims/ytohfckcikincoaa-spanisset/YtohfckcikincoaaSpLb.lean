import Derived.Test.YtohfckcikincoaaSpLn
import Derived.Test.YtohfckcikincoaaSpL
namespace Go.Proofs.Ytohfckcikincoaa

theorem inj_le {α β : Type} {U : List α} {A : List β} (P : α → β → Prop) (hU : U.Nodup) (h : ∀ r ∈ U, ∃ x ∈ A, P r x) (hinj : ∀ r ∈ U, ∀ r' ∈ U, ∀ x ∈ A, P r x → P r' x → r = r') : U.length ≤ A.length := by
  classical
  induction U generalizing A with
  | nil => simp
  | cons r t ih =>
    obtain ⟨x, hx, hp⟩ := h r List.mem_cons_self
    have hn := List.nodup_cons.1 hU
    have := ih (A := A.erase x) hn.2 (fun r' hr' => by
      obtain ⟨y, hy, hp'⟩ := h r' (List.mem_cons_of_mem _ hr')
      have hne : y ≠ x := fun e => by
        subst e
        have := hinj r List.mem_cons_self r' (List.mem_cons_of_mem _ hr') y hx hp hp'
        subst this
        exact hn.1 hr'
      exact ⟨y, (List.mem_erase_of_ne hne).2 hy, hp'⟩) (fun r1 h1 r2 h2 y hy => hinj r1 (List.mem_cons_of_mem _ h1) r2 (List.mem_cons_of_mem _ h2) y (List.mem_of_mem_erase hy))
    rw [List.length_erase_of_mem hx] at this
    have := List.length_pos_of_mem hx
    simp only [List.length_cons]
    omega
theorem norm_nodup' {b : Int} {l : List (Int × Int)} (h : Norm b l) : l.Nodup := by
  have := norm_nodup h
  exact (List.pairwise_map.1 this).imp (fun h e => h (by rw [e]))
theorem norm_fst {b : Int} {l : List (Int × Int)} (h : Norm b l) {r r' : Int × Int} (hr : r ∈ l) (hr' : r' ∈ l) (e : r.1 = r'.1) : r = r' := by
  induction l generalizing b with
  | nil => cases hr
  | cons x t ih =>
    have key : ∀ y ∈ t, x.1 < y.1 := fun y hy => by have := norm_lt h.2.2 y hy; have := h.2.1; omega
    rcases List.mem_cons.1 hr with rfl | h1
    · rcases List.mem_cons.1 hr' with rfl | h2
      · rfl
      · have := key _ h2; omega
    · rcases List.mem_cons.1 hr' with rfl | h2
      · have := key _ h1; omega
      · exact ih h.2.2 h1 h2
/-- Ranges of U, each with its own range of A: φ of a start lies in it, and if two starts' φ lie in one range, the place ahead of the later start is in U. -/
theorem len_by {U A : List (Int × Int)} (φ : Int → Int) (hU : Norm (-1) U) (h1 : ∀ q, Lies U q → ¬ Lies U (q - 1) → Lies A (φ q)) (h2 : ∀ x ∈ A, ∀ p q, Lies U p → Lies U q → p < q → x.1 ≤ φ p → φ p < x.2 → x.1 ≤ φ q → φ q < x.2 → Lies U (q - 1)) : U.length ≤ A.length := by
  refine inj_le (fun r x => x.1 ≤ φ r.1 ∧ φ r.1 < x.2) (norm_nodup' hU) (fun r hr => ?_) (fun r hr r' hr' x hx p p' => ?_)
  · obtain ⟨a, b⟩ := norm_start hU hr
    exact h1 _ a b
  · obtain ⟨a, b⟩ := norm_start hU hr
    obtain ⟨a', b'⟩ := norm_start hU hr'
    rcases Int.lt_trichotomy r.1 r'.1 with h | h | h
    · exact absurd (h2 x hx _ _ a a' h p.1 p.2 p'.1 p'.2) b'
    · exact norm_fst hU hr hr' h
    · exact absurd (h2 x hx _ _ a' a h p'.1 p'.2 p.1 p.2) b
theorem backOld_len {A : List (Int × Int)} (h : Lst A) {at_ n : Int} (ha : 0 ≤ at_ ∧ at_ ≤ 1048576) (hn : 0 ≤ n) : (backOldL A at_ n).length ≤ A.length := by
  obtain ⟨hN, hM⟩ := backOldL_all h ha (n := n)
  refine len_by (fun q => if q < at_ then q else q + n) hN (fun q h1 _ => ?_) (fun x hx p q hp hq hpq a b c d => ?_)
  · rcases (hM q).1 h1 with h' | h'
    · rw [if_pos h'.2]; exact h'.1
    · rw [if_neg (by omega)]; exact h'.1
  · rw [hM]
    by_cases hq' : q - 1 < at_
    · refine .inl ⟨⟨x, hx, ?_, ?_⟩, hq'⟩ <;> (split at a <;> split at d <;> omega)
    · refine .inr ⟨⟨x, hx, ?_, ?_⟩, by omega⟩ <;> (split at a <;> split at d <;> omega)
theorem backIn_len {A : List (Int × Int)} (h : Lst A) {at_ n : Int} : (backInL A at_ n).length ≤ A.length := by
  obtain ⟨hN, hM⟩ := backInL_all h (at_ := at_) (n := n)
  refine len_by (fun q => q + at_) hN (fun q h1 _ => ((hM q).1 h1).1) (fun x hx p q hp hq hpq a b c d => ?_)
  have := ((hM p).1 hp).2
  have := ((hM q).1 hq).2
  rw [hM]
  exact ⟨⟨x, hx, by omega, by omega⟩, by omega, by omega⟩
theorem through_len {A : List (Int × Int)} (h : Lst A) {at_ n : Int} (ha : 0 ≤ at_ ∧ at_ ≤ 1048576) (hn : 0 ≤ n ∧ n ≤ 1048576) : (throughL A at_ n).length ≤ A.length + 1 := by
  obtain ⟨hN, hM⟩ := throughL_all h ha hn
  have := nodup_le (norm_nodup hN) (m := (at_ + n) :: A.map (fun r => if r.1 < at_ then r.1 else r.1 + n)) (fun x hx => by
    obtain ⟨r, hr, rfl⟩ := List.mem_map.1 hx
    obtain ⟨h1, h2⟩ := norm_start hN hr
    by_cases he : r.1 = at_ + n
    · rw [he]; exact List.mem_cons_self
    · refine List.mem_cons_of_mem _ (List.mem_map.2 ?_)
      rw [hM] at h1 h2
      rcases h1 with h1 | h1
      · have h3 : ¬ Lies A (r.1 - 1) := fun h' => h2 (.inl ⟨h', by omega⟩)
        obtain ⟨y, hy, e⟩ := List.mem_map.1 (start_mem h1.1 h3)
        exact ⟨y, hy, by rw [if_pos (by omega)]; exact e⟩
      · have h3 : ¬ Lies A (r.1 - n - 1) := fun h' => h2 (.inr ⟨by rw [show r.1 - 1 - n = r.1 - n - 1 by omega]; exact h', by omega⟩)
        obtain ⟨y, hy, e⟩ := List.mem_map.1 (start_mem h1.1 h3)
        exact ⟨y, hy, by rw [if_neg (by omega)]; omega⟩)
  simpa using this
theorem through0_len {A : List (Int × Int)} (h : Lst A) {n : Int} (hn : 0 ≤ n ∧ n ≤ 1048576) : (throughL A 0 n).length ≤ A.length := by
  obtain ⟨hN, hM⟩ := throughL_all h (at_ := 0) (by omega) hn
  refine len_by (fun q => q - n) hN (fun q h1 _ => ?_) (fun x hx p q hp hq hpq a b c d => ?_)
  · rcases (hM q).1 h1 with h' | h'
    · have := lies_top h h'.1; omega
    · exact h'.1
  · rw [hM]
    have hx' := h.nonneg x hx
    exact .inr ⟨⟨x, hx, by omega, by omega⟩, by omega⟩
/-- Places that are not in a grown list. -/
theorem not_grows {A : List (Int × Int)} (h : Norm (-1) A) {at_ n : Int} (hh : ∀ q, Lies A q → at_ ≤ q → q + n < 1048576) : ¬ grows A at_ n := fun ⟨r, hr, h1, h2⟩ => by
  have hm := List.mem_of_getLast? hr
  have := norm_lt h r hm
  have := hh (r.2 - 1) ⟨r, hm, by omega, by omega⟩ (by omega)
  omega
end Go.Proofs.Ytohfckcikincoaa
