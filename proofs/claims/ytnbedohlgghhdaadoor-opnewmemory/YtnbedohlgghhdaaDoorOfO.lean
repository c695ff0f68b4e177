import Derived.Test.YtnbedohlgghhdaaDoorOfG
import Derived.Test.YtnbedohlgghhdaaDoorOeO
import Derived.SizedLaws
namespace Go.Proofs.YtnbedohlgghhdaaDoor
open Go.ChangeShapes Go.WideShapes Go.ChangeAt Go.RowKit Go.WideMaps Go.WideElems Go.Lib
set_option maxRecDepth 100000

theorem bytesDeed : Tryd.prog.bytesOf 30 = 64 := by kernel_rfl
theorem open_deed4 {H : Type} {enc : TypeId × Value → H} {W : World} {fuel : Nat} {cs : List Value} {x : DataW H × List MemPlace}
    (h : DataW.trod enc Tryd.prog W 0 (fun _ => true) true fuel 30 cs = some x) : ∃ p, DeedOk W p ∧ cs = deedF p := by
  obtain ⟨xs, m, _, hx, hl, hlen, hel⟩ := DataW.trod_struct Tryd.underlying30 h
  rw [cellsDeed] at hl
  match cs, hl, xs, hlen, hel with
  | [c0, c1, c2, c3], _, [y0, y1, y2, y3], _, hel =>
    have q0 : DataW.trod enc Tryd.prog W 0 (fun _ => true) true m 3 [c0] = some y0 := by simpa [cellsI64] using hel 0 _ rfl
    have q1 : DataW.trod enc Tryd.prog W 0 (fun _ => true) true m 3 [c1] = some y1 := by simpa [cellsI64] using hel 1 _ rfl
    have q2 : DataW.trod enc Tryd.prog W 0 (fun _ => true) true m 28 [c2] = some y2 := by simpa [cellsRunes] using hel 2 _ rfl
    have q3 : DataW.trod enc Tryd.prog W 0 (fun _ => true) true m 27 [c3] = some y3 := by simpa [cellsInts] using hel 3 _ rfl
    obtain ⟨x0, e0, _, _⟩ := DataW.trod_int Tryd.underlying3 q0
    obtain ⟨x1, e1, _, _⟩ := DataW.trod_int Tryd.underlying3 q1
    obtain ⟨a2, m2, k2, zs, e2, h2⟩ := open_runes1 q2
    obtain ⟨a3, m3, k3, ys, e3, h3⟩ := open_ints1 q3
    simp only [List.cons.injEq, and_true] at e0 e1
    subst e0 e1 e2 e3
    exact ⟨((x0, x1), (a2, m2, k2), (a3, m3, k3)), ⟨⟨zs, h2⟩, ys, h3⟩, rfl⟩
/-- A slice of deeds, opened. -/
theorem open_deeds {H : Type} {enc : TypeId × Value → H} {W : World} {base : Nat} {v : Value} {d : DataW H} {p : List MemPlace}
    (hv : Value.okWide Tryd.prog W .any base 22 v) (h : DataW.Trod enc Tryd.prog W 0 (fun _ => true) true 22 v d p)
    (hz : (d.weights Tryd.prog 22).all (· ≤ reachBytes) = true) :
    ∃ a n cap L, v = .slice a n cap ∧ Rw deedF 4 W a n cap L ∧ (∀ x ∈ L, DeedOk W x) ∧ n * 64 ≤ 140737488351232 := by
  obtain ⟨a0, n0, cap0, rfl⟩ := okWide_slice Tryd.underlying22 hv
  obtain ⟨fuel, hf⟩ := h
  rcases DataW.trod_slice Tryd.underlying22 hf with ⟨hc, _⟩ | ⟨a, len, cap, elems, rest, m, _, hc, hx, _, hl, hm, hlen, hel, _, _⟩
  · simp only [Value.cells, List.cons.injEq, Value.slice.injEq, and_true] at hc
    obtain ⟨rfl, rfl, rfl⟩ := hc
    exact ⟨none, 0, 0, [], rfl, rw_nil W, (fun x hx => by simp at hx), by omega⟩
  · simp only [Value.cells, List.cons.injEq, Value.slice.injEq, and_true] at hc
    obtain ⟨rfl, rfl, rfl⟩ := hc
    simp only [Prod.mk.injEq] at hx
    have hbig : n0 * 64 ≤ 140737488351232 := by
      have hz' : (DataW.weightsEach Tryd.prog [22] [d]).all (· ≤ reachBytes) = true := by simpa [DataW.weightsEach] using hz
      rw [hx.1] at hz'
      have h1 := sized_slice hz' (j := 0) rfl rfl Tryd.underlying22
      rw [bytesDeed] at h1
      simp only [List.length_map] at h1
      have : reachBytes = 140737488351232 := rfl
      omega
    obtain ⟨L, hr, hP⟩ := rw_of_cells layD hl hm (a := a) (W := W) (P := DeedOk W) (fun j hj => by
      have he := hel j hj
      rw [List.getElem?_eq_getElem (by omega : j < elems.length), cellsDeed] at he
      obtain ⟨cs, hcs, htr⟩ := Option.bind_eq_some_iff.1 he
      obtain ⟨p, hp, hcsp⟩ := open_deed4 htr
      exact ⟨p, hp, cs, hcs, hcsp⟩)
    exact ⟨some a, n0, cap0, L, rfl, hr, hP, hbig⟩
end Go.Proofs.YtnbedohlgghhdaaDoor
