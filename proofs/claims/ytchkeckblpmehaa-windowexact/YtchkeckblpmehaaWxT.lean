import Derived.Test.YtchkeckblpmehaaWxS
import Derived.Test.YtchkeckblpmehaaRows
import Derived.ProofKit
import Derived.OpenShut
import Derived.Deep.DeepHandedRow
import Derived.SizedLaws
/-! The openers of a Room and of a list of Steps; WindowExact at every room. -/
namespace Go.Proofs.Ytchkeckblpmehaa
open Go.ChangeShapes Go.WideShapes Go.ChangeAt Go.RowKit Go.WideMaps Go.WideElems Go.Lib
set_option maxRecDepth 100000

theorem windowExact_any {w : World} (n0 s0 n1 s1 : Int) {a : Option Addr} {n cap : Nat} {ops : List StR} (hr : Rw stV 4 w a n cap ops) (hN : ∀ o ∈ ops, o.N ≤ 9223372036854775807) (hn : n ≤ 4398046511104) :
    Calls Try.prog 3 #[.agg #[.int .i64 n0, .int .i64 s0], .agg #[.int .i64 n1, .int .i64 s1], .slice a n cap] w fun e w' => e = .returned (.bool true) ∧ Below w.heap.size w w' := by
  by_cases hA : n0 < 0 ∨ 1048576 < n0 ∨ s0 < 1 ∨ 1048576 < s0
  · by_cases hB : n1 < 0 ∨ 1048576 < n1 ∨ s1 < 1 ∨ 1048576 < s1
    · exact windowExact_bb n0 s0 n1 s1 hr hN hn hA hB
    · exact windowExact_bg n0 s0 n1 s1 hr hN hn hA (by omega) (by omega) (by omega) (by omega)
  · by_cases hB : n1 < 0 ∨ 1048576 < n1 ∨ s1 < 1 ∨ 1048576 < s1
    · exact windowExact_gb n0 s0 n1 s1 hr hN hn (by omega) (by omega) (by omega) (by omega) hB
    · exact windowExact_gg n0 s0 n1 s1 hr hN hn (by omega) (by omega) (by omega) (by omega) (by omega) (by omega) (by omega) (by omega)
theorem cellsI64 : Try.prog.cellsOf 3 = 1 := by kernel_rfl
theorem cellsRoom : Try.prog.cellsOf 23 = 2 := by kernel_rfl
theorem cellsStep : Try.prog.cellsOf 34 = 4 := by kernel_rfl
theorem bytesStep : Try.prog.bytesOf 34 = 32 := by kernel_rfl
theorem reach_is : reachBytes = 140737488351232 := rfl
theorem array2 {α : Type} {cs : Array α} (h : cs.size = 2) : ∃ c0 c1, cs = #[c0, c1] := by
  obtain ⟨l⟩ := cs
  match l, h with
  | [c0, c1], _ => exact ⟨c0, c1, rfl⟩
theorem list_ofE {α : Type} {P : Nat → α → Prop} : ∀ m : Nat, (∀ j, j < m → ∃ x, P j x) → ∃ l : List α, l.length = m ∧ ∀ (j : Nat) x, l[j]? = some x → P j x
  | 0, _ => ⟨[], rfl, fun j x h => by simp at h⟩
  | m + 1, h => by
    obtain ⟨l, hl, hp⟩ := list_ofE m (fun j hj => h j (by omega))
    obtain ⟨x, hx⟩ := h m (by omega)
    refine ⟨l ++ [x], by simp [hl], fun j y hy => ?_⟩
    by_cases hj : j < l.length
    · rw [List.getElem?_append_left hj] at hy
      exact hp j y hy
    · rw [List.getElem?_append_right (by omega)] at hy
      obtain ⟨hk, rfl⟩ := List.getElem?_eq_some_iff.1 hy
      simp at hk
      have : j = m := by omega
      subst this
      simpa using hx
/-- A row of elements whose cells are opened one by one, each with a fact. -/
theorem rw_of_cells {α : Type} {f : α → List Value} {k : Nat} (hf : Lay f k) {W : World} {a : Addr} {len cap : Nat} {P : α → Prop} (hl : len ≤ cap) (hm : cap ≤ maxLen)
    (hel : ∀ j, j < len → ∃ p : α, P p ∧ ∃ cs, W.cells? 0 (a.add (j * k)) k = some cs ∧ cs = f p) : ∃ l : List α, Rw f k W (some a) len cap l ∧ ∀ x ∈ l, P x := by
  by_cases h0 : len = 0
  · subst h0
    exact ⟨[], ⟨rfl, ⟨hl, hm⟩, fun h => absurd h (Nat.lt_irrefl _)⟩, fun x hx => by cases hx⟩
  · have hk := hf.pos
    obtain ⟨g, off, spot⟩ := a
    have hcell : ∀ j, j < len → ∃ p : α, P p ∧ ∀ i v, (f p)[i]? = some v → W.cell? (((⟨g, off, spot⟩ : Addr).add (j * k)).add i) = some v := fun j hj => by
      obtain ⟨p, hP, cs, hcs, rfl⟩ := hel j hj
      obtain ⟨_, _, hc⟩ := World.cells?_some hcs
      refine ⟨p, hP, fun i v hv => ?_⟩
      obtain ⟨hi, _⟩ := List.getElem?_eq_some_iff.1 hv
      exact (hc i (by rw [hf.len] at hi; exact hi)).trans hv
    have hspot : spot = none := by
      obtain ⟨p, _, h1⟩ := hcell 0 (by omega)
      have hlp : 0 < (f p).length := by rw [hf.len]; exact hk
      have := h1 0 _ (List.getElem?_eq_getElem hlp)
      simpa [Addr.add] using World.cell?_spot this
    subst hspot
    obtain ⟨l, hll, hp⟩ := list_ofE len hcell
    refine ⟨l, ⟨hll, ⟨hl, hm⟩, fun _ => ⟨g, off, rfl, ?_, fun j x hj i v hv => ?_⟩⟩, fun x hx => ?_⟩
    · obtain ⟨p, _, h1⟩ := hcell 0 (by omega)
      have hlp : 0 < (f p).length := by rw [hf.len]; exact hk
      exact World.block_lt_of_cell? _ _ (by
        have := h1 0 _ (List.getElem?_eq_getElem hlp)
        rw [addr_add', addr_add'] at this
        exact this)
    · have := (hp j x hj).2 i v hv
      rw [addr_add', addr_add'] at this
      exact this
    · obtain ⟨j, hj⟩ := List.getElem?_of_mem hx
      exact (hp j x hj).1
theorem open_room {H : Type} {enc : TypeId × Value → H} {W : World} {base : Nat} {v : Value} {d : DataW H} {p : List MemPlace}
    (hv : Value.okWide Try.prog W .any base 23 v) (h : DataW.Trod enc Try.prog W 0 (fun _ => true) true 23 v d p) : ∃ n s : Int, v = .agg #[.int .i64 n, .int .i64 s] := by
  obtain ⟨cs, rfl, hsz⟩ := okWide_struct Try.underlying23 hv
  obtain ⟨c0, c1, rfl⟩ := array2 (hsz.trans cellsRoom)
  obtain ⟨fuel, hf⟩ := h
  obtain ⟨xs, m, _, hx, _, hlen, hel⟩ := DataW.trod_struct Try.underlying23 hf
  match xs, hlen, hx, hel with
  | [y0, y1], _, hx, hel =>
    have q0 : DataW.trod enc Try.prog W 0 (fun _ => true) true m 3 [c0] = some y0 := by simpa [Value.cells, cellsI64] using hel 0 _ rfl
    have q1 : DataW.trod enc Try.prog W 0 (fun _ => true) true m 3 [c1] = some y1 := by simpa [Value.cells, cellsI64] using hel 1 _ rfl
    obtain ⟨k0, e0, _, _⟩ := DataW.trod_int Try.underlying3 q0
    obtain ⟨k1, e1, _, _⟩ := DataW.trod_int Try.underlying3 q1
    simp only [List.cons.injEq, and_true] at e0 e1
    subst e0 e1
    exact ⟨k0, k1, rfl⟩
theorem open_step1 {H : Type} {enc : TypeId × Value → H} {W : World} {fuel : Nat} {cs : List Value} {x : DataW H × List MemPlace}
    (h : DataW.trod enc Try.prog W 0 (fun _ => true) true fuel 34 cs = some x) : ∃ o : StR, o.N ≤ 9223372036854775807 ∧ cs = stV o := by
  obtain ⟨xs, m, _, hx, hl, hlen, hel⟩ := DataW.trod_struct Try.underlying34 h
  rw [cellsStep] at hl
  match cs, hl, xs, hlen, hx, hel with
  | [c0, c1, c2, c3], _, [y0, y1, y2, y3], _, hx, hel =>
    have q0 : DataW.trod enc Try.prog W 0 (fun _ => true) true m 3 [c0] = some y0 := by simpa [Value.cells, cellsI64] using hel 0 _ rfl
    have q1 : DataW.trod enc Try.prog W 0 (fun _ => true) true m 3 [c1] = some y1 := by simpa [Value.cells, cellsI64] using hel 1 _ rfl
    have q2 : DataW.trod enc Try.prog W 0 (fun _ => true) true m 3 [c2] = some y2 := by simpa [Value.cells, cellsI64] using hel 2 _ rfl
    have q3 : DataW.trod enc Try.prog W 0 (fun _ => true) true m 3 [c3] = some y3 := by simpa [Value.cells, cellsI64] using hel 3 _ rfl
    obtain ⟨k0, e0, _, _⟩ := DataW.trod_int Try.underlying3 q0
    obtain ⟨k1, e1, _, _⟩ := DataW.trod_int Try.underlying3 q1
    obtain ⟨k2, e2, _, w2⟩ := DataW.trod_int Try.underlying3 q2
    obtain ⟨k3, e3, _, _⟩ := DataW.trod_int Try.underlying3 q3
    simp only [List.cons.injEq, and_true] at e0 e1 e2 e3
    subst e0 e1 e2 e3
    exact ⟨⟨k0, k1, k2, k3⟩, (bounds_i64 w2).2, rfl⟩
theorem open_steps {H : Type} {enc : TypeId × Value → H} {W : World} {base : Nat} {v : Value} {d : DataW H} {p : List MemPlace}
    (hv : Value.okWide Try.prog W .any base 24 v) (h : DataW.Trod enc Try.prog W 0 (fun _ => true) true 24 v d p) (hz : (d.weights Try.prog 24).all (· ≤ reachBytes) = true) :
    ∃ (a : Option Addr) (n cap : Nat) (ops : List StR), v = .slice a n cap ∧ Rw stV 4 W a n cap ops ∧ (∀ o ∈ ops, o.N ≤ 9223372036854775807) ∧ n ≤ 4398046511104 := by
  obtain ⟨a0, m0, cap0, rfl⟩ := okWide_slice Try.underlying24 hv
  obtain ⟨fuel, hf⟩ := h
  rcases DataW.trod_slice Try.underlying24 hf with ⟨hc, _⟩ | ⟨a, len, cap, elems, rest, m, _, hc, hx, _, hl, hm, hlen, hel, _, _⟩
  · simp only [Value.cells, List.cons.injEq, and_true] at hc
    exact ⟨none, 0, 0, [], hc, rw_nil W, by simp, by omega⟩
  · simp only [Value.cells, List.cons.injEq, and_true] at hc
    have hd : d = .slice (elems.map (·.1)) (rest.map (·.1)) := by
      have := congrArg Prod.fst hx
      simpa using this
    have hz' : (DataW.weightsEach Try.prog [24] [d]).all (· ≤ reachBytes) = true := by simpa [DataW.weightsEach] using hz
    rw [hd] at hz'
    have h1 := sized_slice hz' (j := 0) rfl rfl Try.underlying24
    rw [bytesStep, reach_is] at h1
    simp only [List.length_map] at h1
    obtain ⟨l, hr, hp⟩ := rw_of_cells laySt hl hm (a := a) (W := W) (P := fun o => o.N ≤ 9223372036854775807) (fun j hj => by
      have he := hel j hj
      rw [List.getElem?_eq_getElem (by omega : j < elems.length), cellsStep] at he
      obtain ⟨cs, hcs, htr⟩ := Option.bind_eq_some_iff.1 he
      obtain ⟨o, ho, hcs2⟩ := open_step1 htr
      exact ⟨o, ho, cs, hcs, hcs2⟩)
    exact ⟨some a, len, cap, l, hc, hr, hp, by omega⟩
end Go.Proofs.Ytchkeckblpmehaa
