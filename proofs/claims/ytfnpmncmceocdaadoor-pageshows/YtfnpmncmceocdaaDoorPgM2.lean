import Derived.Test.YtfnpmncmceocdaaDoorPgPm
import Derived.Test.YtfnpmncmceocdaaDoorPgBa
/-! What a row's runes must come to; a rune put behind a row of runes. -/
namespace Go.Proofs.YtfnpmncmceocdaaDoor
open Go.RowKit Go.Lib Go.Shelf
set_option maxRecDepth 100000

/-- The runes of a row's beginnings: up to K they are D K; all of them, without blanks at the end, are the string SP. -/
def WantP (rs : List Int) (lo hi : Nat) (D : Nat → List Int) (SP : ByteArray) : Prop :=
  D lo = [] ∧ (∀ K, lo ≤ K → K < hi → ∃ x, rs[K]? = some x ∧ D (K + 1) = D K ++ chR x (wd rs lo K)) ∧ (∀ K, (D K).length ≤ 5 * (K - lo)) ∧ strOf (trimI (D hi)) = SP
theorem wantP {rs : List Int} {lo hi : Nat} (hhi : hi ≤ rs.length) {P : List Int} (hP : P = trimI (drawR rs lo (-1) (hi - lo))) : WantP rs lo hi (fun K => drawR rs lo (-1) (K - lo)) (strOf P) := by
  refine ⟨?_, fun K h1 h2 => ?_, fun K => drawR_len rs lo (-1) _, by rw [hP]⟩
  · show drawR rs lo (-1) (lo - lo) = []
    rw [Nat.sub_self]; rfl
  · refine ⟨rs[K], List.getElem?_eq_getElem (by omega), ?_⟩
    show drawR rs lo (-1) (K + 1 - lo) = _
    rw [show K + 1 - lo = (K - lo) + 1 by omega, drawR]
    have e : lo + (K - lo) = K := by omega
    rw [e, if_neg (by omega : ¬ ((K : Nat) : Int) = -1), List.nil_append, List.getD_eq_getElem?_getD, List.getElem?_eq_getElem (by omega : K < rs.length)]
    rfl
theorem app_rune {w9 V : World} {B j cap2 : Nat} {b2 : Option Addr} {L : List Int} (ho : OwnF rune1 1 21 V B (.slice b2 j cap2) L) (hb : Below w9.heap.size w9 V) (hB : w9.heap.size ≤ B) (hBV : B ≤ V.heap.size) (hj : L.length = j) (hjb : j ≤ 1000000) (x : Int) :
    ∃ g5 cap5 w6, (Builtin.append_ #[23, 23] 23 #[.slice b2 j cap2, .slice (some ⟨V.heap.size, 0, none⟩) 1 1]).run Tryd.prog (V.alloc (.cells #[.int .i32 x] 21)) = .ok (.slice (some ⟨g5, 0, none⟩) (j + 1) cap5) w6 ∧ Hid (OwnF rune1 1 21 w6 B (.slice (some ⟨g5, 0, none⟩) (j + 1) cap5) (L ++ [x]) ∧ Below w9.heap.size w9 w6 ∧ B ≤ w6.heap.size) := by
  obtain ⟨g5, cap5, w6, hr, ho6, hb6, -⟩ := appendF_one kindRu layRu ho (by omega) x #[.int .i32 x] rfl 21 (by omega) (by omega) 23
  rw [hj] at hr
  rw [hj] at ho6
  exact ⟨g5, cap5, w6, hr, ho6, hb.trans (hb6.mono hB), Nat.le_trans hBV hb6.size⟩
end Go.Proofs.YtfnpmncmceocdaaDoor
