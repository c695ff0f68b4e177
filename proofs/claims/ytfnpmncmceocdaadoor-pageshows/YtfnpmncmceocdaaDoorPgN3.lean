import Derived.Test.YtfnpmncmceocdaaDoorPgN2
/-! PageShows: what the loop over the rows asks, out of what Show answers. -/
namespace Go.Proofs.YtfnpmncmceocdaaDoor
open Go.RowKit Go.Lib Go.Shelf
set_option maxRecDepth 100000

theorem rows_shown {w6 : World} {rs : List Int} {W H m k g off capl r top d n ga oa capg gp op capp at' lo0 hi0 : Nat} {hard0 : Bool} (hok : ∀ r ∈ rs, okR r) (hno : (124 : Int) ∉ rs) (hm : rs.length = m) (hm2 : m ≤ 200) (hst : Stands rs W at' r lo0 hi0 hard0) (hat : at' ≤ m) (hk : (rowsP rs W).length = k)
    (hRw : Rw l4V 4 w6 (some ⟨g, off, none⟩) k capl (rowsL rs W)) (hgot : Rw str1 1 w6 (some ⟨ga, oa, none⟩) n capg (shownL rs W H top at')) (hpl : Rw str1 1 w6 (some ⟨gp, op, none⟩) n capp (shownL rs W H top (-1))) (hd : top + d = r) (hn : n = min H (k - top)) :
    ∀ i, i < n → ∃ (lo hi c : Nat) (SG SU SP : ByteArray) (D : Nat → List Int) (p : Nat), lo ≤ hi ∧ hi ≤ m ∧ top + i = p ∧ p < k ∧ Hid (∀ V, Calls Tryd.prog 10 #[.string SG] V fun e w' => e = .returned (.tuple #[.int .i64 (c : Int), .string SU]) ∧ Below V.heap.size V w') ∧ (i = d → c = 1 ∧ SU = SP) ∧ (i ≠ d → c = 0 ∧ SG = SP) ∧ Hid (WantP rs lo hi D SP) ∧ Hid (∀ V, Below w6.heap.size w6 V → V.cell? ⟨ga, oa + i, none⟩ = some (.string SG) ∧ V.cell? ⟨gp, op + i, none⟩ = some (.string SP) ∧ V.cell? ⟨g, off + p * 4, none⟩ = some (.int .i64 (lo : Int)) ∧ V.cell? ⟨g, off + p * 4 + 1, none⟩ = some (.int .i64 (hi : Int))) := by
  intro i hi_
  have hp : top + i < k := by omega
  have hiH : i < H := by omega
  obtain ⟨lo, hi, hard, hI⟩ := rowI rs W (i := top + i) (by rw [hk]; exact hp)
  obtain ⟨G, P, hG⟩ := rowG hok hno (by omega) hst (by omega) hI.get hI.le hI.len
  refine ⟨lo, hi, G.count 124, strOf G, strOf (trimI (unbar G)), strOf P, fun K => drawR rs lo (-1) (K - lo), top + i, hI.le, by have := hI.len; omega, rfl, hp, fun V => bars_any (strOf_text hG.ok) hG.few V, fun e => ?_, fun e => ?_, wantP hI.len hG.bare, fun V hV => ?_⟩
  · obtain ⟨h1, h2⟩ := hG.here (by omega)
    exact ⟨h1, by rw [h2]⟩
  · obtain ⟨h1, h2⟩ := hG.else_ (by omega)
    exact ⟨h1, by rw [h2]⟩
  · obtain ⟨g1, o1, x1, ea, hg1, hx1, hc1⟩ := hgot.at i hi_
    simp only [Option.some.injEq, Addr.mk.injEq, and_true] at ea
    obtain ⟨rfl, rfl⟩ := ea
    rw [shownL_get rs W H top at' hiH hI.get] at hx1
    obtain rfl := Option.some.inj hx1
    obtain ⟨g2, o2, x2, ea, hg2, hx2, hc2⟩ := hpl.at i hi_
    simp only [Option.some.injEq, Addr.mk.injEq, and_true] at ea
    obtain ⟨rfl, rfl⟩ := ea
    rw [shownL_get rs W H top (-1) hiH hI.get] at hx2
    obtain rfl := Option.some.inj hx2
    obtain ⟨g3, o3, x3, ea, hg3, hx3, hc3⟩ := hRw.at (top + i) hp
    simp only [Option.some.injEq, Addr.mk.injEq, and_true] at ea
    obtain ⟨rfl, rfl⟩ := ea
    rw [rowsL_get rs W hI.get] at hx3
    obtain rfl := Option.some.inj hx3
    have a1 := (hV.cell (p := ⟨ga, oa + i * 1, none⟩) hg1).trans (hc1 0 _ rfl)
    have a2 := (hV.cell (p := ⟨gp, op + i * 1, none⟩) hg2).trans (hc2 0 _ rfl)
    rw [Nat.mul_one, hG.sG] at a1
    rw [Nat.mul_one, hG.sP] at a2
    exact ⟨a1, a2, (hV.cell (p := ⟨g, off + (top + i) * 4, none⟩) hg3).trans (hc3 0 _ rfl), (hV.cell (p := ⟨g, off + (top + i) * 4 + 1, none⟩) hg3).trans (hc3 1 _ rfl)⟩
/-- The first row that is shown, and how far below it the caret's row stands. -/
theorem topR_is (r od H : Nat) (hH : 1 ≤ H) : ∃ tp d : Nat, topR (r : Int) (od : Int) (H : Int) = (tp : Int) ∧ tp + d = r ∧ d < H ∧ ((od ≤ r ∧ r < od + H ∧ tp = od) ∨ (r < od ∧ tp = r) ∨ (od + H ≤ r ∧ d + 1 = H)) := by
  unfold topR
  split
  · exact ⟨r, 0, rfl, by omega, by omega, by omega⟩
  · split
    · exact ⟨r + 1 - H, H - 1, by omega, by omega, by omega, by omega⟩
    · exact ⟨od, r - od, rfl, by omega, by omega, by omega⟩
end Go.Proofs.YtfnpmncmceocdaaDoor
