import Derived.Test.YtaaegedmilpcfaaDoorRtL
import Derived.Test.YtaaegedmilpcfaaDoorRpW
/-! The opener of a []Act. -/
namespace Go.Proofs.YtaaegedmilpcfaaDoor
open Go.ChangeShapes Go.WideShapes Go.ChangeAt Go.RowKit Go.WideMaps Go.WideElems
set_option maxRecDepth 100000

theorem cellsAct : Tryd.prog.cellsOf 36 = 4 := by kernel_rfl
theorem open_act {H : Type} {enc : TypeId × Value → H} {W : World} {fuel : Nat} {cs : List Value} {x : DataW H × List MemPlace}
    (h : DataW.trod enc Tryd.prog W 0 (fun _ => true) true fuel 36 cs = some x) : ∃ p : Int × Int × Int × Int, cs = actV p := by
  obtain ⟨xs, m, _, hx, hl, hlen, hel⟩ := DataW.trod_struct Tryd.underlying36 h
  rw [cellsAct] at hl
  match cs, hl, xs, hlen, hel with
  | [c0, c1, c2, c3], _, [y0, y1, y2, y3], _, hel =>
    have q0 : DataW.trod enc Tryd.prog W 0 (fun _ => true) true m 3 [c0] = some y0 := by simpa [cellsI64] using hel 0 _ rfl
    have q1 : DataW.trod enc Tryd.prog W 0 (fun _ => true) true m 3 [c1] = some y1 := by simpa [cellsI64] using hel 1 _ rfl
    have q2 : DataW.trod enc Tryd.prog W 0 (fun _ => true) true m 3 [c2] = some y2 := by simpa [cellsI64] using hel 2 _ rfl
    have q3 : DataW.trod enc Tryd.prog W 0 (fun _ => true) true m 3 [c3] = some y3 := by simpa [cellsI64] using hel 3 _ rfl
    obtain ⟨x0, e0, _, _⟩ := DataW.trod_int Tryd.underlying3 q0
    obtain ⟨x1, e1, _, _⟩ := DataW.trod_int Tryd.underlying3 q1
    obtain ⟨x2, e2, _, _⟩ := DataW.trod_int Tryd.underlying3 q2
    obtain ⟨x3, e3, _, _⟩ := DataW.trod_int Tryd.underlying3 q3
    simp only [List.cons.injEq, and_true] at e0 e1 e2 e3
    subst e0 e1 e2 e3
    exact ⟨(x0, x1, x2, x3), rfl⟩
/-- The acts that a statement is handed. -/
theorem open_acts {H : Type} {enc : TypeId × Value → H} {W : World} {fuel : Nat} {c : Value} {y : DataW H × List MemPlace}
    (h : DataW.trod enc Tryd.prog W 0 (fun _ => true) true fuel 23 [c] = some y) : ∃ a n cap l, c = .slice a n cap ∧ Rw actV 4 W a n cap l := by
  rcases DataW.trod_slice Tryd.underlying23 h with ⟨hc, _⟩ | ⟨a, len, cap, elems, rest, m, _, hc, hx, _, hl, hm, hlen, hel, _, _⟩
  · simp only [List.cons.injEq, and_true] at hc
    exact ⟨none, 0, 0, [], hc, rw_nil W⟩
  · simp only [List.cons.injEq, and_true] at hc
    obtain ⟨l, hr⟩ := rw_of_cells layA hl hm (a := a) (W := W) (fun j hj => by
      have he := hel j hj
      rw [List.getElem?_eq_getElem (by omega : j < elems.length), cellsAct] at he
      obtain ⟨cs, hcs, htr⟩ := Option.bind_eq_some_iff.1 he
      obtain ⟨p, hp⟩ := open_act htr
      exact ⟨p, cs, hcs, hp⟩)
    exact ⟨some a, len, cap, l, hc, hr⟩
theorem open_actsT {H : Type} {enc : TypeId × Value → H} {W : World} {base : Nat} {v : Value} {d : DataW H} {p : List MemPlace}
    (hv : Value.okWide Tryd.prog W .any base 23 v) (h : DataW.Trod enc Tryd.prog W 0 (fun _ => true) true 23 v d p) : ∃ a n cap l, v = .slice a n cap ∧ Rw actV 4 W a n cap l := by
  obtain ⟨a0, n0, cap0, rfl⟩ := okWide_slice Tryd.underlying23 hv
  obtain ⟨fuel, hf⟩ := h
  exact open_acts hf
end Go.Proofs.YtaaegedmilpcfaaDoor
