import Derived.Test.YtgbdohljfedeoaaKaA
import Derived.Test.YtgbdohljfedeoaaRows
import Derived.ProofKit
import Derived.OpenShut
import Derived.Deep.DeepHandedRow
import Derived.SizedLaws
namespace Go.Proofs.Ytgbdohljfedeoaa
open Go.ChangeShapes Go.WideShapes Go.ChangeAt Go.RowKit Go.WideMaps Go.WideElems
set_option maxRecDepth 100000

theorem cellsID : Try.prog.cellsOf 24 = 2 := by kernel_rfl
theorem cellsIDs : Try.prog.cellsOf 22 = 1 := by kernel_rfl
theorem cellsI64 : Try.prog.cellsOf 3 = 1 := by kernel_rfl
theorem bytesID : Try.prog.bytesOf 24 = 16 := by kernel_rfl

/-- An id, opened. -/
theorem open_id2 {H : Type} {enc : TypeId × Value → H} {W : World} {fuel : Nat} {cs : List Value} {x : DataW H × List MemPlace}
    (h : DataW.trod enc Try.prog W 0 (fun _ => true) true fuel 24 cs = some x) : ∃ a b, cs = [.int .i64 a, .int .i64 b] ∧ (-9223372036854775808 ≤ a ∧ a ≤ 9223372036854775807) ∧ (-9223372036854775808 ≤ b ∧ b ≤ 9223372036854775807) := by
  obtain ⟨xs, m, _, hx, hl, hlen, hel⟩ := DataW.trod_array Try.underlying24 h
  rw [cellsID] at hl
  rw [cellsI64] at hel
  match cs, hl, xs, hlen, hx, hel with
  | [c0, c1], _, [y0, y1], _, hx, hel =>
    have q0 : DataW.trod enc Try.prog W 0 (fun _ => true) true m 3 [c0] = some y0 := by simpa using hel 0 (by decide)
    have q1 : DataW.trod enc Try.prog W 0 (fun _ => true) true m 3 [c1] = some y1 := by simpa using hel 1 (by decide)
    obtain ⟨a, e0, _, wa⟩ := DataW.trod_int Try.underlying3 q0
    obtain ⟨b, e1, _, wb⟩ := DataW.trod_int Try.underlying3 q1
    simp only [List.cons.injEq, and_true] at e0 e1
    subst e0 e1
    have ba := bounds_i64 wa
    have bb := bounds_i64 wb
    exact ⟨a, b, rfl, by omega, by omega⟩

/-- A slice of ids, opened. -/
theorem open_ids {H : Type} {enc : TypeId × Value → H} {W : World} {base : Nat} {v : Value} {d : DataW H} {p : List MemPlace}
    (hv : Value.okWide Try.prog W .any base 22 v) (h : DataW.Trod enc Try.prog W 0 (fun _ => true) true 22 v d p)
    (hz : (d.weights Try.prog 22).all (· ≤ reachBytes) = true) :
    ∃ a n cap l, v = .slice a n cap ∧ Rw idV 2 W a n cap l ∧ n * 16 ≤ 140737488351232 := by
  obtain ⟨a0, n0, cap0, rfl⟩ := okWide_slice Try.underlying22 hv
  obtain ⟨fuel, hf⟩ := h
  rcases DataW.trod_slice Try.underlying22 hf with ⟨hc, _⟩ | ⟨a, len, cap, elems, rest, m, _, hc, hx, _, hl, hm, hlen, hel, _, _⟩
  · simp only [Value.cells, List.cons.injEq, Value.slice.injEq, and_true] at hc
    obtain ⟨rfl, rfl, rfl⟩ := hc
    exact ⟨none, 0, 0, [], rfl, rw_nil W, by omega⟩
  · simp only [Value.cells, List.cons.injEq, Value.slice.injEq, and_true] at hc
    obtain ⟨rfl, rfl, rfl⟩ := hc
    simp only [Prod.mk.injEq] at hx
    have hbig : n0 * 16 ≤ 140737488351232 := by
      have hz' : (DataW.weightsEach Try.prog [22] [d]).all (· ≤ reachBytes) = true := by simpa [DataW.weightsEach] using hz
      rw [hx.1] at hz'
      have h1 := sized_slice hz' (j := 0) rfl rfl Try.underlying22
      rw [bytesID] at h1
      simp only [List.length_map] at h1
      have : reachBytes = 140737488351232 := rfl
      omega
    have hcell : ∀ j, j < n0 → ∃ r : Int × Int, W.cell? (a.add (j * 2)) = some (.int .i64 r.1) ∧ W.cell? ((a.add (j * 2)).add 1) = some (.int .i64 r.2) := fun j hj => by
      have he := hel j hj
      rw [List.getElem?_eq_getElem (by omega : j < elems.length), cellsID] at he
      obtain ⟨cs, hcs, htr⟩ := Option.bind_eq_some_iff.1 he
      obtain ⟨lo, hi, rfl, _, _⟩ := open_id2 htr
      obtain ⟨_, _, hcell⟩ := World.cells?_some hcs
      have h0 := hcell 0 (by decide)
      have h1 := hcell 1 (by decide)
      refine ⟨(lo, hi), ?_, h1⟩
      have e0 : (a.add (j * 2)).add 0 = a.add (j * 2) := by unfold Addr.add; split <;> simp_all
      rw [e0] at h0
      exact h0
    by_cases h0 : n0 = 0
    · subst h0
      exact ⟨some a, 0, cap0, [], rfl, ⟨rfl, ⟨hl, hm⟩, fun hj => absurd hj (Nat.lt_irrefl _)⟩, by omega⟩
    · obtain ⟨g, off, spot⟩ := a
      have hspot : spot = none := by
        obtain ⟨r, h1, _⟩ := hcell 0 (by omega)
        simpa [Addr.add] using World.cell?_spot h1
      subst hspot
      obtain ⟨f, hfc⟩ : ∃ f : Nat → Int × Int, ∀ j, j < n0 → W.cell? ⟨g, off + j * 2, none⟩ = some (.int .i64 (f j).1) ∧ W.cell? ⟨g, off + j * 2 + 1, none⟩ = some (.int .i64 (f j).2) := by
        have hcell2 : ∀ j, j < n0 → ∃ r : Int × Int, W.cell? ⟨g, off + j * 2, none⟩ = some (.int .i64 r.1) ∧ W.cell? ⟨g, off + j * 2 + 1, none⟩ = some (.int .i64 r.2) := fun j hj => by
          obtain ⟨r, h1, h2⟩ := hcell j hj
          rw [addr_add'] at h1 h2
          rw [addr_add'] at h2
          exact ⟨r, h1, h2⟩
        refine ⟨fun j => if hj : j < n0 then (hcell2 j hj).choose else (0, 0), fun j hj => ?_⟩
        simp only [dif_pos hj]
        exact (hcell2 j hj).choose_spec
      have hg : g < W.heap.size := World.block_lt_of_cell? _ _ (hfc 0 (by omega)).1
      refine ⟨some ⟨g, off, none⟩, n0, cap0, (List.range n0).map f, rfl, ⟨by simp, ⟨hl, hm⟩, fun _ => ⟨g, off, rfl, hg, fun j x hj i v hv => ?_⟩⟩, hbig⟩
      have hjn : j < n0 := by
        rcases Nat.lt_or_ge j n0 with h' | h'
        · exact h'
        · rw [List.getElem?_eq_none (by simpa using h')] at hj; cases hj
      have hx' : x = f j := by simp [List.getElem?_map, List.getElem?_range hjn] at hj; exact hj.symm
      subst hx'
      match i, hv with
      | 0, hv => simp [idV] at hv; subst hv; exact (hfc j hjn).1
      | 1, hv => simp [idV] at hv; subst hv; exact (hfc j hjn).2
end Go.Proofs.Ytgbdohljfedeoaa
