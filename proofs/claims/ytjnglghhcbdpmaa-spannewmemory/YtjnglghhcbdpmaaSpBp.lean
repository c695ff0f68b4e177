import Derived.Test.YtjnglghhcbdpmaaSpTp
import Derived.Test.YtjnglghhcbdpmaaSpKr
namespace Go.Proofs.Ytjnglghhcbdpmaa
open Go.RowKit Go.Lib
set_option maxRecDepth 100000

/-- The parts of a range ahead of an insert: the old cells', the inserted ones'. -/
def bko1 (at_ : Int) (r : Int × Int) : List (Int × Int) := if r.1 < at_ then [(r.1, min r.2 at_)] else []
def bko2 (at_ n : Int) (r : Int × Int) : List (Int × Int) := if at_ + n < r.2 then [(max r.1 (at_ + n) - n, r.2 - n)] else []
def bko (at_ n : Int) (r : Int × Int) : List (Int × Int) := bko1 at_ r ++ bko2 at_ n r
def bki (at_ n : Int) (r : Int × Int) : List (Int × Int) := if at_ < r.2 ∧ r.1 < at_ + n then [(max r.1 at_ - at_, min r.2 (at_ + n) - at_)] else []
theorem bko_length (at_ n : Int) (r : Int × Int) : (bko at_ n r).length ≤ 2 := by unfold bko bko1 bko2; split <;> split <;> simp
theorem bki_length (at_ n : Int) (r : Int × Int) : (bki at_ n r).length ≤ 2 := by unfold bki; split <;> simp
theorem lies_one {p : Int × Int} {q : Int} : Lies [p] q ↔ p.1 ≤ q ∧ q < p.2 := by
  rw [lies_cons]
  constructor
  · rintro (h | h)
    · exact h
    · exact absurd h (lies_nil _)
  · exact .inl
theorem bko_lies {at_ n q : Int} {r : Int × Int} : Lies (bko at_ n r) q ↔ (r.1 ≤ q ∧ q < r.2 ∧ q < at_) ∨ (r.1 ≤ q + n ∧ q + n < r.2 ∧ at_ ≤ q) := by
  unfold bko bko1 bko2
  rw [lies_append]
  constructor
  · rintro (h | h)
    · split at h
      · rw [lies_one] at h
        simp only at h
        omega
      · exact absurd h (lies_nil _)
    · split at h
      · rw [lies_one] at h
        simp only at h
        omega
      · exact absurd h (lies_nil _)
  · rintro (h | h)
    · left
      rw [if_pos (by omega), lies_one]
      simp only
      omega
    · right
      rw [if_pos (by omega), lies_one]
      simp only
      omega
theorem bki_lies {at_ n q : Int} {r : Int × Int} : Lies (bki at_ n r) q ↔ r.1 ≤ q + at_ ∧ q + at_ < r.2 ∧ 0 ≤ q ∧ q < n := by
  unfold bki
  constructor
  · intro h
    split at h
    · rw [lies_one] at h
      simp only at h
      omega
    · exact absurd h (lies_nil _)
  · intro h
    rw [if_pos (by omega), lies_one]
    simp only
    omega
def backS (l : List (Int × Int)) (at_ n q : Int) : Prop := (Lies l q ∧ q < at_) ∨ (Lies l (q + n) ∧ at_ ≤ q)
def backT (l : List (Int × Int)) (at_ n q : Int) : Prop := Lies l (q + at_) ∧ 0 ≤ q ∧ q < n
theorem bkoL_lies {l : List (Int × Int)} {at_ n q : Int} : Lies (l.flatMap (bko at_ n)) q ↔ backS l at_ n q := by
  rw [lies_flat]
  unfold backS
  constructor
  · rintro ⟨r, hr, h⟩
    rcases bko_lies.1 h with h | h
    · exact .inl ⟨⟨r, hr, h.1, h.2.1⟩, h.2.2⟩
    · exact .inr ⟨⟨r, hr, h.1, h.2.1⟩, h.2.2⟩
  · rintro (⟨⟨r, hr, h1, h2⟩, h3⟩ | ⟨⟨r, hr, h1, h2⟩, h3⟩)
    · exact ⟨r, hr, bko_lies.2 (.inl ⟨h1, h2, h3⟩)⟩
    · exact ⟨r, hr, bko_lies.2 (.inr ⟨h1, h2, h3⟩)⟩
theorem bkiL_lies {l : List (Int × Int)} {at_ n q : Int} : Lies (l.flatMap (bki at_ n)) q ↔ backT l at_ n q := by
  rw [lies_flat]
  unfold backT
  constructor
  · rintro ⟨r, hr, h⟩
    have := bki_lies.1 h
    exact ⟨⟨r, hr, this.1, this.2.1⟩, this.2.2⟩
  · rintro ⟨⟨r, hr, h1, h2⟩, h3, h4⟩
    exact ⟨r, hr, bki_lies.2 ⟨h1, h2, h3, h4⟩⟩
theorem bko_good {l : List (Int × Int)} (h : Lst l) {at_ n : Int} (ha : 0 ≤ at_ ∧ at_ ≤ 1048576) (hn : 0 ≤ n ∧ n ≤ 1048576) : ∀ p ∈ l.flatMap (bko at_ n), 0 ≤ p.1 ∧ p.1 ≤ p.2 ∧ p.2 ≤ 1048576 := fun p hpm => by
  obtain ⟨r, hr, hx⟩ := List.mem_flatMap.1 hpm
  have h1 := h.nonneg r hr
  unfold bko bko1 bko2 at hx
  rcases List.mem_append.1 hx with hx | hx
  · split at hx
    · simp only [List.mem_singleton] at hx
      subst hx
      simp only
      omega
    · cases hx
  · split at hx
    · simp only [List.mem_singleton] at hx
      subst hx
      simp only
      omega
    · cases hx
theorem bki_good {l : List (Int × Int)} (h : Lst l) {at_ n : Int} (ha : 0 ≤ at_ ∧ at_ ≤ 1048576) (hn : 0 ≤ n ∧ n ≤ 1048576) : ∀ p ∈ l.flatMap (bki at_ n), 0 ≤ p.1 ∧ p.1 ≤ p.2 ∧ p.2 ≤ 1048576 := fun p hpm => by
  obtain ⟨r, hr, hx⟩ := List.mem_flatMap.1 hpm
  have h1 := h.nonneg r hr
  unfold bki at hx
  split at hx
  · simp only [List.mem_singleton] at hx
    subst hx
    simp only
    omega
  · cases hx
/-- Two lists that a call answers, and its error. -/
def ResB (w : World) (e : Ending) (w' : World) (c : Int) (U V : List (Int × Int)) : Prop :=
  ∃ a n cap b m capb, e = .returned (.tuple #[.slice a n cap, .slice b m capb, .int .i64 c]) ∧ Own w' w.heap.size (.slice a n cap) U ∧ Own w' w.heap.size (.slice b m capb) V ∧ Below w.heap.size w w'
def SpecB (c0 : Int) (S T : Int → Prop) (c : Int) (U V : List (Int × Int)) : Prop :=
  (c0 ≠ 0 ∧ c = c0 ∧ U = [] ∧ V = []) ∨ (c0 = 0 ∧ c = 0 ∧ Norm (-1) U ∧ (∀ q, Lies U q ↔ S q) ∧ Norm (-1) V ∧ ∀ q, Lies V q ↔ T q)
theorem SpecB.unique {c0 c c' : Int} {S T : Int → Prop} {U U' V V' : List (Int × Int)} (h : SpecB c0 S T c U V) (h' : SpecB c0 S T c' U' V') : c = c' ∧ U = U' ∧ V = V' := by
  rcases h with ⟨h0, rfl, rfl, rfl⟩ | ⟨h0, rfl, n1, l1, n2, l2⟩
  · rcases h' with ⟨_, rfl, rfl, rfl⟩ | ⟨h1, _⟩
    · exact ⟨rfl, rfl, rfl⟩
    · exact absurd h1 h0
  · rcases h' with ⟨h1, _⟩ | ⟨_, rfl, n1', l1', n2', l2'⟩
    · exact absurd h0 h1
    · exact ⟨rfl, norm_unique n1 n1' (fun q => (l1 q).trans (l1' q).symm), norm_unique n2 n2' (fun q => (l2 q).trans (l2' q).symm)⟩
theorem ResB.nil {w w' : World} {c : Int} (hb : Below w.heap.size w w') : ResB w (.returned (.tuple #[.slice none 0 0, .slice none 0 0, .int .i64 c])) w' c [] [] := ⟨none, 0, 0, none, 0, 0, rfl, own_nil _ _, own_nil _ _, hb⟩
open Classical in
noncomputable def backCode (l : List (Int × Int)) (at_ n : Int) : Int :=
  if (checkL l).2 = 0 then (if (0 ≤ at_ ∧ at_ ≤ 1048576) ∧ (0 ≤ n ∧ n ≤ 1048576) ∧ at_ + n ≤ 1048576 then 0 else 12) else (checkL l).2
theorem back_res {w : World} {a : Option Addr} {m cap : Nat} {l : List (Int × Int)} (h : Rng w a m cap l) (at_ n : Int) :
    Calls Try.prog 29 #[.slice a m cap, .int .i64 at_, .int .i64 n] w fun e w' => ∃ c U V, SpecB (backCode l at_ n) (backS l at_ n) (backT l at_ n) c U V ∧ ResB w e w' c U V := by
  by_cases h0 : (checkL l).2 = 0
  · have hl := checkL_ok h0
    by_cases hp : (0 ≤ at_ ∧ at_ ≤ 1048576) ∧ (0 ≤ n ∧ n ≤ 1048576) ∧ at_ + n ≤ 1048576
    · have e0 : backCode l at_ n = 0 := by unfold backCode; rw [if_pos h0, if_pos hp]
      rw [e0]
      obtain ⟨n1, l1⟩ := backOldL_all hl (at_ := at_) (n := n) hp.1
      obtain ⟨n2, l2⟩ := backInL_all hl (at_ := at_) (n := n)
      refine (back_ok h hl hp).mono ?_
      rintro e w' ⟨o, no, co, i, ni, ci, rfl, h1, h2, _, hb⟩
      exact ⟨0, _, _, .inr ⟨rfl, rfl, n1, l1, n2, l2⟩, o, no, co, i, ni, ci, rfl, h1, h2, hb⟩
    · have e0 : backCode l at_ n = 12 := by unfold backCode; rw [if_pos h0, if_neg hp]
      refine (back_place h hl hp).mono ?_
      rintro e w' ⟨rfl, hb⟩
      exact ⟨12, [], [], .inl ⟨by rw [e0]; decide, e0.symm, rfl, rfl⟩, ResB.nil hb⟩
  · have e0 : backCode l at_ n = (checkL l).2 := by unfold backCode; rw [if_neg h0]
    refine (back_bad h (i := (checkL l).1) (c := (checkL l).2) rfl h0 at_ n).mono ?_
    rintro e w' ⟨rfl, hb⟩
    exact ⟨_, [], [], .inl ⟨by rw [e0]; exact h0, e0.symm, rfl, rfl⟩, ResB.nil hb⟩
end Go.Proofs.Ytjnglghhcbdpmaa
