import Derived.Test.YtjnglghhcbdpmaaSpM
import Derived.Test.YtjnglghhcbdpmaaRows
import Derived.ProofKit
import Derived.OpenShut
import Derived.Deep.DeepHandedRow
import Derived.SizedLaws
namespace Go.Proofs.Ytjnglghhcbdpmaa
open Go.ChangeShapes Go.WideShapes Go.ChangeAt Go.RowKit Go.WideMaps Go.WideElems
set_option maxRecDepth 100000

theorem cellsRange : Try.prog.cellsOf 39 = 2 := by kernel_rfl
theorem cellsRanges : Try.prog.cellsOf 22 = 1 := by kernel_rfl
theorem cellsI64 : Try.prog.cellsOf 3 = 1 := by kernel_rfl
theorem bytesRange : Try.prog.bytesOf 39 = 16 := by kernel_rfl
theorem addr_add (g off j : Nat) : (⟨g, off, none⟩ : Addr).add j = ⟨g, off + j, none⟩ := by unfold Addr.add; split <;> simp_all

theorem open_range {H : Type} {enc : TypeId × Value → H} {W : World} {fuel : Nat} {cs : List Value} {x : DataW H × List MemPlace}
    (h : DataW.trod enc Try.prog W 0 (fun _ => true) true fuel 39 cs = some x) : ∃ lo hi, cs = [.int .i64 lo, .int .i64 hi] := by
  obtain ⟨y0, y1, n, hx, hl, h0, h1⟩ := trod_struct2 Try.underlying39 h
  rw [cellsRange] at hl
  simp only [cellsI64] at h0 h1
  obtain ⟨a, e0, f0, _⟩ := DataW.trod_int Try.underlying3 h0
  obtain ⟨b, e1, f1, _⟩ := DataW.trod_int Try.underlying3 h1
  match cs, hl, e0, e1 with
  | [x, y], _, e0, e1 =>
    simp at e0 e1
    exact ⟨a, b, by simp [e0, e1]⟩
/-- A slice of ranges, opened. -/
theorem open_rng {H : Type} {enc : TypeId × Value → H} {W : World} {fuel : Nat} {c : Value} {y : DataW H × List MemPlace}
    (h : DataW.trod enc Try.prog W 0 (fun _ => true) true fuel 22 [c] = some y) (hw : ∀ elems spare, y.1 = .slice elems spare → (elems.length + spare.length) * Try.prog.bytesOf 39 ≤ reachBytes) :
    ∃ a n cap l, c = .slice a n cap ∧ Rng W a n cap l ∧ n * 16 ≤ 140737488351232 := by
  rcases DataW.trod_slice Try.underlying22 h with ⟨hc, _⟩ | ⟨a, len, cap, elems, rest, m, _, hc, hx, _, hl, hm, hlen, hel, _, _⟩
  · simp only [List.cons.injEq, and_true] at hc
    exact ⟨none, 0, 0, [], hc, rng_nil W, by omega⟩
  · simp only [List.cons.injEq, and_true] at hc
    have hbig : len * 16 ≤ 140737488351232 := by
      have h1 := hw (elems.map (·.1)) (rest.map (·.1)) (by rw [hx])
      rw [bytesRange] at h1
      simp only [List.length_map] at h1
      have : reachBytes = 140737488351232 := rfl
      omega
    have hcell : ∀ j, j < len → ∃ lo hi, W.cell? (a.add (j * 2)) = some (.int .i64 lo) ∧ W.cell? ((a.add (j * 2)).add 1) = some (.int .i64 hi) := fun j hj => by
      have he := hel j hj
      rw [List.getElem?_eq_getElem (by omega : j < elems.length), cellsRange] at he
      obtain ⟨cs, hcs, htr⟩ := Option.bind_eq_some_iff.1 he
      obtain ⟨lo, hi, rfl⟩ := open_range htr
      obtain ⟨_, _, hcell⟩ := World.cells?_some hcs
      have h0 := hcell 0 (by decide)
      have h1 := hcell 1 (by decide)
      refine ⟨lo, hi, ?_, h1⟩
      have e0 : (a.add (j * 2)).add 0 = a.add (j * 2) := by unfold Addr.add; split <;> simp_all
      rw [e0] at h0
      exact h0
    by_cases h0 : len = 0
    · subst h0
      exact ⟨some a, 0, cap, [], hc, ⟨rfl, ⟨hl, hm⟩, fun _ hj => absurd hj (Nat.not_lt_zero _)⟩, by omega⟩
    · obtain ⟨g, off, spot⟩ := a
      have hspot : spot = none := by
        obtain ⟨lo, hi, h1, _⟩ := hcell 0 (by omega)
        simpa [Addr.add] using World.cell?_spot h1
      subst hspot
      have hcell2 : ∀ j, j < len → ∃ r : Int × Int, W.cell? ⟨g, off + j * 2, none⟩ = some (.int .i64 r.1) ∧ W.cell? ⟨g, off + j * 2 + 1, none⟩ = some (.int .i64 r.2) := fun j hj => by
        obtain ⟨lo, hi, h1, h2⟩ := hcell j hj
        rw [addr_add] at h1 h2
        rw [addr_add] at h2
        exact ⟨(lo, hi), h1, h2⟩
      obtain ⟨l, hll, hget⟩ : ∃ l : List (Int × Int), l.length = len ∧ ∀ j, j < len → W.cell? ⟨g, off + j * 2, none⟩ = some (.int .i64 (l.getD j (0, 0)).1) ∧ W.cell? ⟨g, off + j * 2 + 1, none⟩ = some (.int .i64 (l.getD j (0, 0)).2) := by
        refine ⟨(List.range len).map fun j => if hj : j < len then (hcell2 j hj).choose else (0, 0), by simp, fun j hj => ?_⟩
        have e1 : ((List.range len).map fun j => if hj : j < len then (hcell2 j hj).choose else (0, 0)).getD j (0, 0) = (hcell2 j hj).choose := by
          simp [List.getD_eq_getElem?_getD, hj]
        rw [e1]
        exact (hcell2 j hj).choose_spec
      have hg : g < W.heap.size := World.block_lt_of_cell? _ _ (hget 0 (by omega)).1
      exact ⟨some ⟨g, off, none⟩, len, cap, l, hc, ⟨hll, ⟨hl, hm⟩, fun j hj => ⟨g, off, rfl, hg, hget j hj⟩⟩, hbig⟩
end Go.Proofs.Ytjnglghhcbdpmaa
