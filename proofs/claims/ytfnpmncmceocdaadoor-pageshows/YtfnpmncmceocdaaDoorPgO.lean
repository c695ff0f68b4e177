import Derived.Test.YtfnpmncmceocdaaDoorPgB
import Derived.Test.YtfnpmncmceocdaaDoorPgJ
import Derived.Test.YtfnpmncmceocdaaDoorFrame
import Derived.Test.YtfnpmncmceocdaaDoorRows
import Derived.OpenShut
/-! The tables of the package, as a row lists them; a list of numbers. -/
namespace Go.Proofs.YtfnpmncmceocdaaDoor
open Go.ChangeShapes Go.WideShapes Go.ChangeAt Go.RowKit
set_option maxRecDepth 100000

theorem cells2i : Tryd.prog.cellsOf 74 = 2 := by kernel_rfl
theorem pair2 {H : Type} {enc : TypeId × Value → H} {W : World} {base m : Nat} {sp : Nat → Bool} {held : Bool} {l : List Value} {lo hi : Int} {p : List MemPlace}
    (h : DataW.trod enc Tryd.prog W base sp held m 74 l = some (.agg [.lit (.int .i32 lo), .lit (.int .i32 hi)], p)) : l = [.int .i32 lo, .int .i32 hi] := by
  obtain ⟨xs, f, _, hx, hl, hlen, hel⟩ := DataW.trod_array Tryd.underlying74 h
  rw [cells2i] at hl
  rw [cells32] at hel
  match l, hl, xs, hlen, hx, hel with
  | [c0, c1], _, [y0, y1], _, hx, hel =>
    have q0 : DataW.trod enc Tryd.prog W base sp held f 21 [c0] = some y0 := by simpa using hel 0 (by decide)
    have q1 : DataW.trod enc Tryd.prog W base sp held f 21 [c1] = some y1 := by simpa using hel 1 (by decide)
    obtain ⟨a, e0, d0, _⟩ := DataW.trod_int Tryd.underlying21 q0
    obtain ⟨b, e1, d1, _⟩ := DataW.trod_int Tryd.underlying21 q1
    simp only [List.cons.injEq, and_true] at e0 e1
    subst e0 e1 d0 d1
    simp only [Prod.mk.injEq, DataW.agg.injEq, List.map_cons, List.map_nil, List.cons.injEq, DataW.lit.injEq, Lit.int.injEq, true_and, and_true] at hx
    obtain ⟨⟨ra, rb⟩, _⟩ := hx
    rw [ra, rb]
theorem noneG : Tryd.prog.globalNamed "redraft/page.noColumns" = some 0 := by kernel_rfl
theorem noneGT : (Tryd.prog.globals[0]?).map (·.type) = some 75 := by kernel_rfl
theorem noneCl : Tryd.prog.cellsOf 75 = 8 := by kernel_rfl
theorem noneTable {W : World} {cs0 : Array Value} {f0 : Nat} {p0 : List MemPlace} (hv0 : World.var? Tryd.prog W "redraft/page.noColumns" = some cs0)
    (hd0 : DataW.trod (fun _ => ()) Tryd.prog W 0 (fun _ => true) false f0 75 cs0.toList = some (Rows.laid_redraft_page_noColumns, p0)) : ∃ t fr, W.heap[0]? = some (.cells noneCells t fr) := by
  unfold Rows.laid_redraft_page_noColumns at hd0
  obtain ⟨xs, m, _, hx, hlen, hn, hel⟩ := DataW.trod_array Tryd.underlying75 hd0
  rw [noneCl] at hlen
  rw [cells2i] at hel
  have hcs : cs0.toList = noneCells.toList := by
    match xs, hn, hx with
    | [x0, x1, x2, x3], _, hx =>
      simp only [Prod.mk.injEq, DataW.agg.injEq, List.map_cons, List.map_nil, List.cons.injEq] at hx
      obtain ⟨⟨r0, r1, r2, r3, _⟩, _⟩ := hx
      have q0 := pair2 ((hel 0 (by decide)).trans (congrArg some (Prod.ext r0.symm rfl)))
      have q1 := pair2 ((hel 1 (by decide)).trans (congrArg some (Prod.ext r1.symm rfl)))
      have q2 := pair2 ((hel 2 (by decide)).trans (congrArg some (Prod.ext r2.symm rfl)))
      have q3 := pair2 ((hel 3 (by decide)).trans (congrArg some (Prod.ext r3.symm rfl)))
      generalize cs0.toList = l at *
      match l, hlen, q0, q1, q2, q3 with
      | [c0, c1, c2, c3, c4, c5, c6, c7], _, q0, q1, q2, q3 =>
        simp at q0 q1 q2 q3
        simp [noneCells, q0, q1, q2, q3]
  have hcs' : cs0 = noneCells := Array.toList_inj.1 hcs
  subst hcs'
  unfold World.var? at hv0
  rw [noneG] at hv0
  simp only [Option.bind_some] at hv0
  split at hv0
  · rename_i c t fr he
    refine ⟨t, fr, ?_⟩
    rw [he]
    simp only [Option.some.injEq] at hv0
    rw [hv0]
  · cases hv0
theorem twoG : Tryd.prog.globalNamed "redraft/page.twoColumns" = some 1 := by kernel_rfl
theorem twoGT : (Tryd.prog.globals[1]?).map (·.type) = some 76 := by kernel_rfl
theorem twoCl : Tryd.prog.cellsOf 76 = 20 := by kernel_rfl
theorem twoTable {W : World} {cs0 : Array Value} {f0 : Nat} {p0 : List MemPlace} (hv0 : World.var? Tryd.prog W "redraft/page.twoColumns" = some cs0)
    (hd0 : DataW.trod (fun _ => ()) Tryd.prog W 0 (fun _ => true) false f0 76 cs0.toList = some (Rows.laid_redraft_page_twoColumns, p0)) : ∃ t fr, W.heap[1]? = some (.cells twoCells t fr) := by
  unfold Rows.laid_redraft_page_twoColumns at hd0
  obtain ⟨xs, m, _, hx, hlen, hn, hel⟩ := DataW.trod_array Tryd.underlying76 hd0
  rw [twoCl] at hlen
  rw [cells2i] at hel
  have hcs : cs0.toList = twoCells.toList := by
    match xs, hn, hx with
    | [x0, x1, x2, x3, x4, x5, x6, x7, x8, x9], _, hx =>
      simp only [Prod.mk.injEq, DataW.agg.injEq, List.map_cons, List.map_nil, List.cons.injEq] at hx
      obtain ⟨⟨r0, r1, r2, r3, r4, r5, r6, r7, r8, r9, _⟩, _⟩ := hx
      have q0 := pair2 ((hel 0 (by decide)).trans (congrArg some (Prod.ext r0.symm rfl)))
      have q1 := pair2 ((hel 1 (by decide)).trans (congrArg some (Prod.ext r1.symm rfl)))
      have q2 := pair2 ((hel 2 (by decide)).trans (congrArg some (Prod.ext r2.symm rfl)))
      have q3 := pair2 ((hel 3 (by decide)).trans (congrArg some (Prod.ext r3.symm rfl)))
      have q4 := pair2 ((hel 4 (by decide)).trans (congrArg some (Prod.ext r4.symm rfl)))
      have q5 := pair2 ((hel 5 (by decide)).trans (congrArg some (Prod.ext r5.symm rfl)))
      have q6 := pair2 ((hel 6 (by decide)).trans (congrArg some (Prod.ext r6.symm rfl)))
      have q7 := pair2 ((hel 7 (by decide)).trans (congrArg some (Prod.ext r7.symm rfl)))
      have q8 := pair2 ((hel 8 (by decide)).trans (congrArg some (Prod.ext r8.symm rfl)))
      have q9 := pair2 ((hel 9 (by decide)).trans (congrArg some (Prod.ext r9.symm rfl)))
      generalize cs0.toList = l at *
      match l, hlen, q0, q1, q2, q3, q4, q5, q6, q7, q8, q9 with
      | [c0, c1, c2, c3, c4, c5, c6, c7, c8, c9, c10, c11, c12, c13, c14, c15, c16, c17, c18, c19], _, q0, q1, q2, q3, q4, q5, q6, q7, q8, q9 =>
        simp at q0 q1 q2 q3 q4 q5 q6 q7 q8 q9
        simp [twoCells, q0, q1, q2, q3, q4, q5, q6, q7, q8, q9]
  have hcs' : cs0 = twoCells := Array.toList_inj.1 hcs
  subst hcs'
  unfold World.var? at hv0
  rw [twoG] at hv0
  simp only [Option.bind_some] at hv0
  split at hv0
  · rename_i c t fr he
    refine ⟨t, fr, ?_⟩
    rw [he]
    simp only [Option.some.injEq] at hv0
    rw [hv0]
  · cases hv0
theorem PTab.glob {w : World} (h : PTab w) : Glob w.heap.size := by
  obtain ⟨⟨a, b, h1⟩, ⟨c, d, h2⟩, ⟨e, f, h3⟩⟩ := h
  exact ⟨(Array.getElem?_eq_some_iff.1 h1).1, (Array.getElem?_eq_some_iff.1 h2).1, (Array.getElem?_eq_some_iff.1 h3).1⟩
/-- A list of numbers, in memory. -/
theorem open_is {H : Type} {enc : TypeId × Value → H} {W : World} {base : Nat} {v : Value} {d : DataW H} {ps : List MemPlace} (hval : Value.okWide Tryd.prog W .any base 22 v)
    (hd : DataW.Trod enc Tryd.prog W 0 (fun _ => true) true 22 v d ps) : ∃ a n cap l, v = .slice a n cap ∧ Rw int1 1 W a n cap l := by
  obtain ⟨a0, n0, c0, rfl⟩ := okWide_slice Tryd.underlying22 hval
  obtain ⟨fuel, hf⟩ := hd
  rcases open_ints Tryd.underlying22 Tryd.underlying3 (by kernel_rfl) hf with ⟨hc, _⟩ | ⟨a, n, cap, zs, hc, _, hle, hm, hz, _, hcell, _⟩
  · simp [Value.cells] at hc
    obtain ⟨rfl, rfl, rfl⟩ := hc
    exact ⟨none, 0, 0, [], rfl, rw_nil W⟩
  · simp [Value.cells] at hc
    obtain ⟨rfl, rfl, rfl⟩ := hc
    simp only [if_true] at hz
    by_cases h0 : n0 = 0
    · subst h0
      exact ⟨some a, 0, c0, [], rfl, rfl, ⟨Nat.zero_le _, hm⟩, fun h => absurd h (Nat.lt_irrefl _)⟩
    · obtain ⟨b, off, rfl, hat⟩ := ints_at hcell (by omega)
      refine ⟨some ⟨b, off, none⟩, n0, c0, zs.take n0, rfl, by rw [List.length_take]; omega, ⟨hle, hm⟩, fun _ => ⟨b, off, rfl, ?_, fun j x hj i v hv => ?_⟩⟩
      · have h1 := hat 0 (by omega)
        unfold World.cell? at h1
        rcases Nat.lt_or_ge b W.heap.size with h2 | h2
        · exact h2
        · rw [Array.getElem?_eq_none h2] at h1
          cases h1
      · rw [List.getElem?_take] at hj
        split at hj
        · rename_i hjn
          obtain ⟨hjz, rfl⟩ := List.getElem?_eq_some_iff.1 hj
          have h1 := hat j hjz
          match i, hv with
          | 0, hv =>
            simp only [int1, List.getElem?_cons_zero, Option.some.injEq] at hv
            rw [← hv, Nat.mul_one, Nat.add_zero, h1, List.getD_eq_getElem?_getD, List.getElem?_eq_getElem hjz]
            rfl
          | i + 1, hv => simp [int1] at hv
        · cases hj
end Go.Proofs.YtfnpmncmceocdaaDoor
