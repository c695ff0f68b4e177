import Derived.Test.YthkfcocakhekaaaDoorXcA
import Derived.Test.YthkfcocakhekaaaDoorFrame
import Derived.LaidMore
namespace Go.Proofs.YthkfcocakhekaaaDoor
open Go.ChangeShapes Go.WideShapes Go.ChangeAt Go.RowKit Go.WideMaps Go.WideElems Go.Lib
set_option maxRecDepth 100000

theorem cellsI64 : Tryd.prog.cellsOf 3 = 1 := by kernel_rfl
theorem cellsBool : Tryd.prog.cellsOf 4 = 1 := by kernel_rfl
theorem cellsInts : Tryd.prog.cellsOf 23 = 1 := by kernel_rfl
theorem cellsSpecs : Tryd.prog.cellsOf 22 = 1 := by kernel_rfl
theorem cellsTwo : Tryd.prog.cellsOf 25 = 7 := by kernel_rfl
theorem cellsTexts : Tryd.prog.cellsOf 50 = 5 := by kernel_rfl
theorem cellsString : Tryd.prog.cellsOf 9 = 1 := by kernel_rfl
theorem gTexts : Tryd.prog.globalNamed "redraft/redraftlaw05.texts" = some 0 := by kernel_rfl
theorem gTextsType : (Tryd.prog.globals[0]?).map (·.type) = some 50 := by kernel_rfl
theorem array7 {α : Type} {cs : Array α} (h : cs.size = 7) : ∃ c0 c1 c2 c3 c4 c5 c6, cs = #[c0, c1, c2, c3, c4, c5, c6] := by
  obtain ⟨l⟩ := cs
  match l, h with
  | [c0, c1, c2, c3, c4, c5, c6], _ => exact ⟨c0, c1, c2, c3, c4, c5, c6, rfl⟩
theorem open_slice {H : Type} {enc : TypeId × Value → H} {W : World} {fuel : Nat} {c : Value} {t e : TypeId} {y : DataW H × List MemPlace} (ht : Tryd.prog.underlying t = some (.slice e))
    (h : DataW.trod enc Tryd.prog W 0 (fun _ => true) true fuel t [c] = some y) : ∃ a n cap, c = .slice a n cap := by
  rcases DataW.trod_slice ht h with ⟨hc, _⟩ | ⟨a, len, cap, elems, rest, m, _, hc, _⟩
  · simp only [List.cons.injEq, and_true] at hc
    exact ⟨none, 0, 0, hc⟩
  · simp only [List.cons.injEq, and_true] at hc
    exact ⟨some a, len, cap, hc⟩
/-- What the statements are handed. -/
theorem open_two {H : Type} {enc : TypeId × Value → H} {W : World} {base : Nat} {v : Value} {d : DataW H} {p : List MemPlace}
    (hv : Value.okWide Tryd.prog W .any base 25 v) (h : DataW.Trod enc Tryd.prog W 0 (fun _ => true) true 25 v d p) :
    ∃ (len i j : Int) (e : Bool) (a1 a2 a6 : Option Addr) (m1 m2 m6 cap1 cap2 cap6 : Nat), v = .agg #[.int .i64 len, .slice a1 m1 cap1, .slice a2 m2 cap2, .int .i64 i, .int .i64 j, .bool e, .slice a6 m6 cap6] := by
  obtain ⟨cs, rfl, hsz⟩ := okWide_struct Tryd.underlying25 hv
  obtain ⟨c0, c1, c2, c3, c4, c5, c6, rfl⟩ := array7 (hsz.trans cellsTwo)
  obtain ⟨fuel, hf⟩ := h
  obtain ⟨xs, m, _, hx, _, hlen, hel⟩ := DataW.trod_struct Tryd.underlying25 hf
  match xs, hlen, hx, hel with
  | [y0, y1, y2, y3, y4, y5, y6], _, hx, hel =>
    have q0 : DataW.trod enc Tryd.prog W 0 (fun _ => true) true m 3 [c0] = some y0 := by simpa [Value.cells, cellsI64] using hel 0 _ rfl
    have q1 : DataW.trod enc Tryd.prog W 0 (fun _ => true) true m 22 [c1] = some y1 := by simpa [Value.cells, cellsSpecs] using hel 1 _ rfl
    have q2 : DataW.trod enc Tryd.prog W 0 (fun _ => true) true m 22 [c2] = some y2 := by simpa [Value.cells, cellsSpecs] using hel 2 _ rfl
    have q3 : DataW.trod enc Tryd.prog W 0 (fun _ => true) true m 3 [c3] = some y3 := by simpa [Value.cells, cellsI64] using hel 3 _ rfl
    have q4 : DataW.trod enc Tryd.prog W 0 (fun _ => true) true m 3 [c4] = some y4 := by simpa [Value.cells, cellsI64] using hel 4 _ rfl
    have q5 : DataW.trod enc Tryd.prog W 0 (fun _ => true) true m 4 [c5] = some y5 := by simpa [Value.cells, cellsBool] using hel 5 _ rfl
    have q6 : DataW.trod enc Tryd.prog W 0 (fun _ => true) true m 23 [c6] = some y6 := by simpa [Value.cells, cellsInts] using hel 6 _ rfl
    obtain ⟨x0, e0, _, _⟩ := DataW.trod_int Tryd.underlying3 q0
    obtain ⟨a1, m1, k1, e1⟩ := open_slice Tryd.underlying22 q1
    obtain ⟨a2, m2, k2, e2⟩ := open_slice Tryd.underlying22 q2
    obtain ⟨x3, e3, _, _⟩ := DataW.trod_int Tryd.underlying3 q3
    obtain ⟨x4, e4, _, _⟩ := DataW.trod_int Tryd.underlying3 q4
    obtain ⟨x5, e5, _⟩ := DataW.trod_bool Tryd.underlying4 q5
    obtain ⟨a6, m6, k6, e6⟩ := open_slice Tryd.underlying23 q6
    simp only [List.cons.injEq, and_true] at e0 e3 e4 e5
    subst e0 e1 e2 e3 e4 e5 e6
    exact ⟨_, _, _, _, _, _, _, _, _, _, _, _, _, rfl⟩

def textCells : Array Value := #[.string (txt 0), .string (txt 1), .string (txt 2), .string (txt 3), .string (txt 4)]
theorem oneText {W : World} {m : Nat} {l : List Value} {bs : List UInt8} {p : List MemPlace} (h : DataW.trod (fun _ => ()) Tryd.prog W 0 (fun _ => true) false m 9 l = some (.lit (.string bs), p)) : l = [.string ⟨⟨bs⟩⟩] := by
  obtain ⟨s, e, hx, _⟩ := DataW.trod_string Tryd.underlying9 h
  simp only [Prod.mk.injEq, DataW.lit.injEq, Lit.string.injEq] at hx
  rw [e, hx.1]
/-- The table of texts, out of the row's list. -/
theorem textTable {W : World} {cs0 : Array Value} {f0 : Nat} {p0 : List MemPlace} (hv0 : World.var? Tryd.prog W "redraft/redraftlaw05.texts" = some cs0)
    (hd0 : DataW.trod (fun _ => ()) Tryd.prog W 0 (fun _ => true) false f0 50 cs0.toList = some (.agg [.lit (.string [97]), .lit (.string [97, 195, 169]), .lit (.string [226, 130, 172, 97, 195, 169]), .lit (.string [122, 195, 169, 240, 159, 152, 128, 97]), .lit (.string [97, 98, 99, 100, 101])], p0)) : Txs W := by
  obtain ⟨xs, m, _, hx, hlen, hn, hel⟩ := DataW.trod_array Tryd.underlying50 hd0
  rw [cellsTexts] at hlen
  rw [cellsString] at hel
  have hcs : cs0.toList = textCells.toList := by
    match xs, hn, hx with
    | [x0, x1, x2, x3, x4], _, hx =>
      simp only [Prod.mk.injEq, DataW.agg.injEq, List.map_cons, List.map_nil, List.cons.injEq] at hx
      obtain ⟨⟨r0, r1, r2, r3, r4, _⟩, _⟩ := hx
      have q0 := oneText ((hel 0 (by decide)).trans (congrArg some (Prod.ext r0.symm rfl)))
      have q1 := oneText ((hel 1 (by decide)).trans (congrArg some (Prod.ext r1.symm rfl)))
      have q2 := oneText ((hel 2 (by decide)).trans (congrArg some (Prod.ext r2.symm rfl)))
      have q3 := oneText ((hel 3 (by decide)).trans (congrArg some (Prod.ext r3.symm rfl)))
      have q4 := oneText ((hel 4 (by decide)).trans (congrArg some (Prod.ext r4.symm rfl)))
      generalize cs0.toList = l at *
      match l, hlen, q0, q1, q2, q3, q4 with
      | [c0, c1, c2, c3, c4], _, q0, q1, q2, q3, q4 =>
        simp at q0 q1 q2 q3 q4
        simp [textCells, txt, q0, q1, q2, q3, q4]
  have hcs' : cs0 = textCells := Array.toList_inj.1 hcs
  subst hcs'
  unfold World.var? at hv0
  rw [gTexts] at hv0
  simp only [Option.bind_some] at hv0
  split at hv0
  · rename_i c t fr he
    refine ⟨t, fr, ?_⟩
    rw [he]
    simp only [Option.some.injEq] at hv0
    rw [hv0]
    rfl
  · cases hv0
/-- A world for the witness: the settled one, the tables holding what their initialisers lay. -/
def laidIn (w : World) : World :=
  { w with heap := (w.heap.modify 1 fun
      | .cells _ t frozen => .cells barCells t frozen
      | o => o).modify 0 fun
      | .cells _ t frozen => .cells textCells t frozen
      | o => o }
end Go.Proofs.YthkfcocakhekaaaDoor
