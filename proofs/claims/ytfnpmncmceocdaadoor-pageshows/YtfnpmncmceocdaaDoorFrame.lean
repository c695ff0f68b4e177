import Derived.Test.YtfnpmncmceocdaaDoorLow
import Derived.ProofKit
import Derived.OpenShut
import Derived.Deep.DeepHandedRow
import Derived.Lib.LaidTab
namespace Go.Proofs.YtfnpmncmceocdaaDoor
open Go.ChangeShapes Go.WideShapes Go.ChangeAt Go.RowKit

theorem own : ownKnob Tryd.prog.godebug = none := by kernel_rfl
theorem gBar : Tryd.prog.globalNamed "redraft/utext.barred" = some 2 := by kernel_rfl
theorem gBarType : (Tryd.prog.globals[2]?).map (·.type) = some 98 := by kernel_rfl
theorem cellsArr : Tryd.prog.cellsOf 98 = 10 := by kernel_rfl
theorem cellsStr : Tryd.prog.cellsOf 97 = 2 := by kernel_rfl
theorem cells32 : Tryd.prog.cellsOf 21 = 1 := by kernel_rfl

theorem pairCells {H : Type} {enc : TypeId × Value → H} {W : World} {base m : Nat} {sp : Nat → Bool} {held : Bool} {l : List Value} {lo hi : Int} {p : List MemPlace}
    (h : DataW.trod enc Tryd.prog W base sp held m 97 l = some (.agg [.lit (.int .i32 lo), .lit (.int .i32 hi)], p)) : l = [.int .i32 lo, .int .i32 hi] := by
  obtain ⟨y0, y1, n, hx, hl, h0, h1⟩ := trod_struct2 Tryd.underlying97 h
  rw [cellsStr] at hl
  simp only [cells32] at h0 h1
  obtain ⟨a, e0, f0, _⟩ := DataW.trod_int Tryd.underlying21 h0
  obtain ⟨b, e1, f1, _⟩ := DataW.trod_int Tryd.underlying21 h1
  subst f0 f1
  simp only [Prod.mk.injEq, DataW.agg.injEq, List.cons.injEq, DataW.lit.injEq, Lit.int.injEq] at hx
  obtain ⟨⟨⟨_, ra⟩, ⟨_, rb⟩, _⟩, _⟩ := hx
  subst ra rb
  match l, hl, e0, e1 with
  | [x, y], _, e0, e1 =>
    simp at e0 e1
    simp [e0, e1]

/-- WHAT THE ROW's LIST GIVES: the table's block. -/
theorem table {W : World} {cs0 : Array Value} {f0 : Nat} {p0 : List MemPlace} (hv0 : World.var? Tryd.prog W "redraft/utext.barred" = some cs0)
    (hd0 : DataW.trod (fun _ => ()) Tryd.prog W 0 (fun _ => true) false f0 98 cs0.toList = some (.agg [.agg [.lit (.int .i32 0), .lit (.int .i32 8)], .agg [.lit (.int .i32 11), .lit (.int .i32 31)], .agg [.lit (.int .i32 127), .lit (.int .i32 159)], .agg [.lit (.int .i32 64976), .lit (.int .i32 65007)], .agg [.lit (.int .i32 65279), .lit (.int .i32 65279)]], p0)) :
    ∃ t fr, W.heap[2]? = some (.cells barCells t fr) := by
  obtain ⟨xs, m, _, hx, hlen, hn, hel⟩ := DataW.trod_array Tryd.underlying98 hd0
  rw [cellsArr] at hlen
  rw [cellsStr] at hel
  have hcs : cs0.toList = barCells.toList := by
    match xs, hn, hx with
    | [x0, x1, x2, x3, x4], _, hx =>
      simp only [Prod.mk.injEq, DataW.agg.injEq, List.map_cons, List.map_nil, List.cons.injEq] at hx
      obtain ⟨⟨r0, r1, r2, r3, r4, _⟩, _⟩ := hx
      have q0 := pairCells ((hel 0 (by decide)).trans (congrArg some (Prod.ext r0.symm rfl)))
      have q1 := pairCells ((hel 1 (by decide)).trans (congrArg some (Prod.ext r1.symm rfl)))
      have q2 := pairCells ((hel 2 (by decide)).trans (congrArg some (Prod.ext r2.symm rfl)))
      have q3 := pairCells ((hel 3 (by decide)).trans (congrArg some (Prod.ext r3.symm rfl)))
      have q4 := pairCells ((hel 4 (by decide)).trans (congrArg some (Prod.ext r4.symm rfl)))
      generalize cs0.toList = l at *
      match l, hlen, q0, q1, q2, q3, q4 with
      | [c0, c1, c2, c3, c4, c5, c6, c7, c8, c9], _, q0, q1, q2, q3, q4 =>
        simp at q0 q1 q2 q3 q4
        simp [barCells, q0, q1, q2, q3, q4]
  have hcs' : cs0 = barCells := Array.toList_inj.1 hcs
  subst hcs'
  unfold World.var? at hv0
  rw [gBar] at hv0
  simp only [Option.bind_some] at hv0
  split at hv0
  · rename_i c t fr he
    refine ⟨t, fr, ?_⟩
    rw [he]
    simp only [Option.some.injEq] at hv0
    rw [hv0]
  · cases hv0
end Go.Proofs.YtfnpmncmceocdaaDoor
