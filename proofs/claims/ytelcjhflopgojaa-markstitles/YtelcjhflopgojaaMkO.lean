import Derived.Test.YtelcjhflopgojaaMkA
import Derived.Test.YtelcjhflopgojaaRows
import Derived.ProofKit
import Derived.OpenShut
import Derived.Deep.DeepHandedRow
/-! The opener of a Title. -/
namespace Go.Proofs.Ytelcjhflopgojaa
open Go.ChangeShapes Go.WideShapes Go.ChangeAt Go.RowKit Go.WideMaps Go.WideElems Go.Lib
set_option maxRecDepth 100000

theorem cellsI64 : Try.prog.cellsOf 3 = 1 := by kernel_rfl
theorem cellsBoolx : Try.prog.cellsOf 4 = 1 := by kernel_rfl
theorem cellsStr : Try.prog.cellsOf 9 = 1 := by kernel_rfl
theorem cellsTitle : Try.prog.cellsOf 28 = 4 := by kernel_rfl
theorem array4 {α : Type} {cs : Array α} (h : cs.size = 4) : ∃ c0 c1 c2 c3, cs = #[c0, c1, c2, c3] := by
  obtain ⟨l⟩ := cs
  match l, h with
  | [c0, c1, c2, c3], _ => exact ⟨c0, c1, c2, c3, rfl⟩
/-- A Title, opened. -/
theorem open_title {H : Type} {enc : TypeId × Value → H} {W : World} {base : Nat} {v : Value} {d : DataW H} {p : List MemPlace}
    (hv : Value.okWide Try.prog W .any base 28 v) (h : DataW.Trod enc Try.prog W 0 (fun _ => true) true 28 v d p) :
    ∃ (l : List UInt8) (lo hi : Int) (many : Bool), v = .agg #[.string ⟨l.toArray⟩, .int .i64 lo, .int .i64 hi, .bool many] ∧ l.length ≤ 9223372036854775807 := by
  obtain ⟨cs, rfl, hsz⟩ := okWide_struct Try.underlying28 hv
  obtain ⟨c0, c1, c2, c3, rfl⟩ := array4 (hsz.trans cellsTitle)
  obtain ⟨fuel, hf⟩ := h
  obtain ⟨xs, m, _, hx, _, hlen, hel⟩ := DataW.trod_struct Try.underlying28 hf
  match xs, hlen, hx, hel with
  | [y0, y1, y2, y3], _, hx, hel =>
    have q0 : DataW.trod enc Try.prog W 0 (fun _ => true) true m 9 [c0] = some y0 := by simpa [Value.cells, cellsI64, cellsBoolx, cellsStr] using hel 0 _ rfl
    have q1 : DataW.trod enc Try.prog W 0 (fun _ => true) true m 3 [c1] = some y1 := by simpa [Value.cells, cellsI64, cellsBoolx, cellsStr] using hel 1 _ rfl
    have q2 : DataW.trod enc Try.prog W 0 (fun _ => true) true m 3 [c2] = some y2 := by simpa [Value.cells, cellsI64, cellsBoolx, cellsStr] using hel 2 _ rfl
    have q3 : DataW.trod enc Try.prog W 0 (fun _ => true) true m 4 [c3] = some y3 := by simpa [Value.cells, cellsI64, cellsBoolx, cellsStr] using hel 3 _ rfl
    obtain ⟨s, e0, _, hs⟩ := DataW.trod_string Try.underlying9 q0
    obtain ⟨lo, e1, _, _⟩ := DataW.trod_int Try.underlying3 q1
    obtain ⟨hi, e2, _, _⟩ := DataW.trod_int Try.underlying3 q2
    obtain ⟨many, e3, _⟩ := DataW.trod_bool Try.underlying4 q3
    simp only [List.cons.injEq, and_true] at e0 e1 e2 e3
    subst e0 e1 e2 e3
    simp only [maxLen] at hs
    have hsl : s.data.toList.length ≤ 9223372036854775807 := by rw [Array.length_toList]; exact hs
    exact ⟨s.data.toList, lo, hi, many, rfl, hsl⟩
end Go.Proofs.Ytelcjhflopgojaa
