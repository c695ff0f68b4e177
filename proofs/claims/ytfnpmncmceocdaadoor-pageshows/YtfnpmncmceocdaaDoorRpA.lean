import Derived.Test.YtfnpmncmceocdaaDoorPosT
import Derived.WalkKit
import Derived.WalkSpells
import Derived.WalkLawsBesides
import Derived.Lib.OthersKept
import Derived.Laws.OwnMore
import Derived.Maps.AppendAt
namespace Go.Proofs.YtfnpmncmceocdaaDoor
open Go.RowKit Go.Lib
set_option maxRecDepth 100000

theorem rest_eq2 (n m : Int) (hm : 0 < m) : (n.tmod m + m) % m = n % m := by
  have h1 : n.tmod m = n % m ∨ n.tmod m = n % m - m := by
    rw [Int.tmod_eq_emod]
    split
    · left; omega
    · right; rw [show (m.natAbs : Int) = m by omega]
  rcases h1 with h1 | h1
  · rw [h1]; simp
  · rw [h1]; rw [show n % m - m + m = n % m by omega]; simp
theorem tmod_bd (n m : Int) (hm : 0 < m) : -m < n.tmod m ∧ n.tmod m < m := by
  have h1 : n.tmod m = n % m ∨ n.tmod m = n % m - m := by
    rw [Int.tmod_eq_emod]
    split
    · left; omega
    · right; rw [show (m.natAbs : Int) = m by omega]
  have h2 := Int.emod_nonneg n (show m ≠ 0 by omega)
  have h3 := Int.emod_lt_of_pos n hm
  by_cases h : n % m = 0
  · rw [Int.tmod_eq_emod, if_pos (.inr (Int.dvd_of_emod_eq_zero h))]; omega
  · omega
theorem ret_i64 {a b : Int} (h : a = b) : Ending.returned (.int .i64 a) = .returned (.int .i64 b) := by rw [h]
/-- What a sign may be. -/
structure IsSign (r : Int) : Prop where
  is : (97 ≤ r ∧ r ≤ 122) ∨ r = 233 ∨ r = 8364 ∨ r = 128512
theorem IsSign.ok {r : Int} (h : IsSign r) : okR r := by
  have := h.is
  refine ⟨valid_of (by omega) (by omega) (by omega), ?_⟩
  unfold okRune
  simp only [decide_eq_true_eq]
  omega
theorem isText_nil : IsText ⟨#[]⟩ [] := ⟨rfl, fun r hr => by cases hr⟩
theorem IsText.snoc {s : ByteArray} {rs : List Int} (h : IsText s rs) {r : Int} (hr : okR r) : IsText (s ++ Utf8.encode r) (rs ++ [r]) := by
  refine ⟨?_, fun x hx => ?_⟩
  · rw [ByteArray.data_append, Array.toList_append, h.bytes, encs_append, encs_cons]
    simp [encs, encB]
  · rcases List.mem_append.1 hx with hx | hx
    · exact h.ok x hx
    · simp at hx; subst hx; exact hr
theorem encB_le (r : Int) (h : okR r) : (encB r).length ≤ 4 := by
  obtain ⟨h0, h1, h2⟩ := valid_le h.1
  obtain ⟨c, rfl⟩ : ∃ c : Nat, r = c := ⟨r.toNat, by omega⟩
  by_cases c1 : c < 0x80
  · rw [encB1 c c1]; simp
  · by_cases c2 : c < 0x800
    · rw [encB2 c c2 (by omega)]; simp
    · by_cases c3 : c < 0x10000
      · rw [encB3 c c3 (by omega) h.1]; simp
      · rw [encB4 c (by omega) h.1]; simp
theorem encs_le {rs : List Int} (h : ∀ r ∈ rs, okR r) : (encs rs).length ≤ rs.length * 4 := by
  induction rs with
  | nil => simp [encs]
  | cons r t ih =>
    have h1 := encB_le r (h r (by simp))
    have h2 := ih (fun x hx => h x (by simp [hx]))
    rw [encs_cons, List.length_append, List.length_cons]
    omega
theorem IsText.small {s : ByteArray} {rs : List Int} (h : IsText s rs) : s.size ≤ rs.length * 4 := by
  rw [size_data, h.bytes]
  exact encs_le h.ok
theorem IsText.big {s : ByteArray} {rs : List Int} (h : IsText s rs) : rs.length ≤ s.size := by
  rw [size_data, h.bytes]
  exact encs_len2 rs
/-- A text of n runes. -/
def TextOf (n : Int) (s : ByteArray) : Prop := ∃ rs, IsText s rs ∧ (rs.length : Int) = n
end Go.Proofs.YtfnpmncmceocdaaDoor

