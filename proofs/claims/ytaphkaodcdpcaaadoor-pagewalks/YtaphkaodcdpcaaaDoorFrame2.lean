import Derived.Test.YtaphkaodcdpcaaaDoorFrame
import Derived.Test.YtaphkaodcdpcaaaDoorStepAll
import Derived.Test.YtaphkaodcdpcaaaDoorRows
namespace Go.Proofs.YtaphkaodcdpcaaaDoor
open Go.ChangeShapes Go.WideShapes Go.ChangeAt Go.RowKit
set_option maxRecDepth 100000

theorem gWlk : Tryd.prog.globalNamed "redraft/utext.walks" = some 0 := by kernel_rfl
theorem gWlkType : (Tryd.prog.globals[0]?).map (·.type) = some 69 := by kernel_rfl
theorem cellsWArr : Tryd.prog.cellsOf 69 = 20 := by kernel_rfl
theorem cellsW : Tryd.prog.cellsOf 68 = 2 := by kernel_rfl
theorem cellsReach : Tryd.prog.cellsOf 66 = 1 := by kernel_rfl
theorem cellsWay : Tryd.prog.cellsOf 3 = 1 := by kernel_rfl

theorem walkPair {H : Type} {enc : TypeId × Value → H} {W : World} {base m : Nat} {sp : Nat → Bool} {held : Bool} {l : List Value} {lo hi : Int} {p : List MemPlace}
    (h : DataW.trod enc Tryd.prog W base sp held m 68 l = some (.agg [.lit (.int .i64 lo), .lit (.int .i64 hi)], p)) : l = [.int .i64 lo, .int .i64 hi] := by
  obtain ⟨y0, y1, n, hx, hl, h0, h1⟩ := trod_struct2 Tryd.underlying68 h
  rw [cellsW] at hl
  simp only [cellsReach, cellsWay] at h0 h1
  obtain ⟨a, e0, f0, _⟩ := DataW.trod_int Tryd.underlying66 h0
  obtain ⟨b, e1, f1, _⟩ := DataW.trod_int Tryd.underlying3 h1
  subst f0 f1
  simp only [Prod.mk.injEq, DataW.agg.injEq, List.cons.injEq, DataW.lit.injEq, Lit.int.injEq] at hx
  obtain ⟨⟨⟨_, ra⟩, ⟨_, rb⟩, _⟩, _⟩ := hx
  subst ra rb
  match l, hl, e0, e1 with
  | [x, y], _, e0, e1 =>
    simp at e0 e1
    simp [e0, e1]

/-- WHAT THE ROW's LIST GIVES: the table of walks. -/
theorem walkTable {W : World} {cs0 : Array Value} {f0 : Nat} {p0 : List MemPlace} (hv0 : World.var? Tryd.prog W "redraft/utext.walks" = some cs0)
    (hd0 : DataW.trod (fun _ => ()) Tryd.prog W 0 (fun _ => true) false f0 69 cs0.toList = some (Rows.laid_redraft_utext_walks, p0)) : Wlk W := by
  unfold Rows.laid_redraft_utext_walks at hd0
  obtain ⟨xs, m, _, hx, hlen, hn, hel⟩ := DataW.trod_array Tryd.underlying69 hd0
  rw [cellsWArr] at hlen
  rw [cellsW] at hel
  have hcs : cs0.toList = walkCells.toList := by
    match xs, hn, hx with
    | [x0, x1, x2, x3, x4, x5, x6, x7, x8, x9], _, hx =>
      simp only [Prod.mk.injEq, DataW.agg.injEq, List.map_cons, List.map_nil, List.cons.injEq] at hx
      obtain ⟨⟨r0, r1, r2, r3, r4, r5, r6, r7, r8, r9, _⟩, _⟩ := hx
      have q0 := walkPair ((hel 0 (by decide)).trans (congrArg some (Prod.ext r0.symm rfl)))
      have q1 := walkPair ((hel 1 (by decide)).trans (congrArg some (Prod.ext r1.symm rfl)))
      have q2 := walkPair ((hel 2 (by decide)).trans (congrArg some (Prod.ext r2.symm rfl)))
      have q3 := walkPair ((hel 3 (by decide)).trans (congrArg some (Prod.ext r3.symm rfl)))
      have q4 := walkPair ((hel 4 (by decide)).trans (congrArg some (Prod.ext r4.symm rfl)))
      have q5 := walkPair ((hel 5 (by decide)).trans (congrArg some (Prod.ext r5.symm rfl)))
      have q6 := walkPair ((hel 6 (by decide)).trans (congrArg some (Prod.ext r6.symm rfl)))
      have q7 := walkPair ((hel 7 (by decide)).trans (congrArg some (Prod.ext r7.symm rfl)))
      have q8 := walkPair ((hel 8 (by decide)).trans (congrArg some (Prod.ext r8.symm rfl)))
      have q9 := walkPair ((hel 9 (by decide)).trans (congrArg some (Prod.ext r9.symm rfl)))
      generalize cs0.toList = l at *
      match l, hlen, q0, q1, q2, q3, q4, q5, q6, q7, q8, q9 with
      | [c0, c1, c2, c3, c4, c5, c6, c7, c8, c9, d0, d1, d2, d3, d4, d5, d6, d7, d8, d9], _, q0, q1, q2, q3, q4, q5, q6, q7, q8, q9 =>
        simp at q0 q1 q2 q3 q4 q5 q6 q7 q8 q9
        simp [walkCells, q0, q1, q2, q3, q4, q5, q6, q7, q8, q9]
  have hcs' : cs0 = walkCells := Array.toList_inj.1 hcs
  subst hcs'
  unfold World.var? at hv0
  rw [gWlk] at hv0
  simp only [Option.bind_some] at hv0
  split at hv0
  · rename_i c t fr he
    refine ⟨t, fr, ?_⟩
    rw [he]
    simp only [Option.some.injEq] at hv0
    rw [hv0]
  · cases hv0
end Go.Proofs.YtaphkaodcdpcaaaDoor
