import Derived.Test.YtnbedohlgghhdaaDoorXaK
import Derived.Test.YtnbedohlgghhdaaDoorFrame
namespace Go.Proofs.YtnbedohlgghhdaaDoor
open Go.ChangeShapes Go.WideShapes Go.ChangeAt Go.RowKit Go.WideMaps Go.WideElems Go.Lib
set_option maxRecDepth 100000

theorem cellsI64 : Tryd.prog.cellsOf 3 = 1 := by kernel_rfl
theorem cellsInts : Tryd.prog.cellsOf 27 = 1 := by kernel_rfl
theorem cellsRunes : Tryd.prog.cellsOf 28 = 1 := by kernel_rfl
theorem cellsDeed : Tryd.prog.cellsOf 30 = 4 := by kernel_rfl
theorem array4 {α : Type} {cs : Array α} (h : cs.size = 4) : ∃ c0 c1 c2 c3, cs = #[c0, c1, c2, c3] := by
  obtain ⟨l⟩ := cs
  match l, h with
  | [c0, c1, c2, c3], _ => exact ⟨c0, c1, c2, c3, rfl⟩
theorem list_ofE {α : Type} {P : Nat → α → Prop} : ∀ m : Nat, (∀ j, j < m → ∃ x, P j x) → ∃ l : List α, l.length = m ∧ ∀ (j : Nat) x, l[j]? = some x → P j x
  | 0, _ => ⟨[], rfl, fun j x h => by simp at h⟩
  | m + 1, h => by
    obtain ⟨l, hl, hp⟩ := list_ofE m (fun j hj => h j (by omega))
    obtain ⟨x, hx⟩ := h m (by omega)
    refine ⟨l ++ [x], by simp [hl], fun j y hy => ?_⟩
    by_cases hj : j < l.length
    · rw [List.getElem?_append_left hj] at hy
      exact hp j y hy
    · rw [List.getElem?_append_right (by omega)] at hy
      obtain ⟨hk, rfl⟩ := List.getElem?_eq_some_iff.1 hy
      simp at hk
      have : j = m := by omega
      subst this
      simpa using hx
/-- A row of elements whose cells are opened one by one, each with a fact. -/
theorem rw_of_cells {α : Type} {f : α → List Value} {k : Nat} (hf : Lay f k) {W : World} {a : Addr} {len cap : Nat} {P : α → Prop} (hl : len ≤ cap) (hm : cap ≤ maxLen)
    (hel : ∀ j, j < len → ∃ p : α, P p ∧ ∃ cs, W.cells? 0 (a.add (j * k)) k = some cs ∧ cs = f p) : ∃ l : List α, Rw f k W (some a) len cap l ∧ ∀ x ∈ l, P x := by
  by_cases h0 : len = 0
  · subst h0
    exact ⟨[], ⟨rfl, ⟨hl, hm⟩, fun h => absurd h (Nat.lt_irrefl _)⟩, fun x hx => by cases hx⟩
  · have hk := hf.pos
    obtain ⟨g, off, spot⟩ := a
    have hcell : ∀ j, j < len → ∃ p : α, P p ∧ ∀ i v, (f p)[i]? = some v → W.cell? (((⟨g, off, spot⟩ : Addr).add (j * k)).add i) = some v := fun j hj => by
      obtain ⟨p, hP, cs, hcs, rfl⟩ := hel j hj
      obtain ⟨_, _, hc⟩ := World.cells?_some hcs
      refine ⟨p, hP, fun i v hv => ?_⟩
      obtain ⟨hi, _⟩ := List.getElem?_eq_some_iff.1 hv
      exact (hc i (by rw [hf.len] at hi; exact hi)).trans hv
    have hspot : spot = none := by
      obtain ⟨p, _, h1⟩ := hcell 0 (by omega)
      have hlp : 0 < (f p).length := by rw [hf.len]; exact hk
      have := h1 0 _ (List.getElem?_eq_getElem hlp)
      simpa [Addr.add] using World.cell?_spot this
    subst hspot
    obtain ⟨l, hll, hp⟩ := list_ofE len hcell
    refine ⟨l, ⟨hll, ⟨hl, hm⟩, fun _ => ⟨g, off, rfl, ?_, fun j x hj i v hv => ?_⟩⟩, fun x hx => ?_⟩
    · obtain ⟨p, _, h1⟩ := hcell 0 (by omega)
      have hlp : 0 < (f p).length := by rw [hf.len]; exact hk
      exact World.block_lt_of_cell? _ _ (by
        have := h1 0 _ (List.getElem?_eq_getElem hlp)
        rw [addr_add', addr_add'] at this
        exact this)
    · have := (hp j x hj).2 i v hv
      rw [addr_add', addr_add'] at this
      exact this
    · obtain ⟨j, hj⟩ := List.getElem?_of_mem hx
      exact (hp j x hj).1
theorem open_ints1 {H : Type} {enc : TypeId × Value → H} {W : World} {fuel : Nat} {c : Value} {y : DataW H × List MemPlace}
    (h : DataW.trod enc Tryd.prog W 0 (fun _ => true) true fuel 27 [c] = some y) : ∃ a n cap zs, c = .slice a n cap ∧ Rw int1 1 W a n cap zs := by
  rcases DataW.trod_slice Tryd.underlying27 h with ⟨hc, _⟩ | ⟨a, len, cap, elems, rest, m, _, hc, hx, _, hl, hm, hlen, hel, _, _⟩
  · simp only [List.cons.injEq, and_true] at hc
    exact ⟨none, 0, 0, [], hc, rw_nil W⟩
  · simp only [List.cons.injEq, and_true] at hc
    obtain ⟨l, hr, _⟩ := rw_of_cells layI1 hl hm (a := a) (W := W) (P := fun _ => True) (fun j hj => by
      have he := hel j hj
      rw [List.getElem?_eq_getElem (by omega : j < elems.length), cellsI64] at he
      obtain ⟨cs, hcs, htr⟩ := Option.bind_eq_some_iff.1 he
      obtain ⟨p, hp, _, _⟩ := DataW.trod_int Tryd.underlying3 htr
      exact ⟨p, trivial, cs, hcs, hp⟩)
    exact ⟨some a, len, cap, l, hc, hr⟩
theorem open_runes1 {H : Type} {enc : TypeId × Value → H} {W : World} {fuel : Nat} {c : Value} {y : DataW H × List MemPlace}
    (h : DataW.trod enc Tryd.prog W 0 (fun _ => true) true fuel 28 [c] = some y) : ∃ a n cap zs, c = .slice a n cap ∧ Rw rune1 1 W a n cap zs := by
  rcases DataW.trod_slice Tryd.underlying28 h with ⟨hc, _⟩ | ⟨a, len, cap, elems, rest, m, _, hc, hx, _, hl, hm, hlen, hel, _, _⟩
  · simp only [List.cons.injEq, and_true] at hc
    exact ⟨none, 0, 0, [], hc, rw_nil W⟩
  · simp only [List.cons.injEq, and_true] at hc
    obtain ⟨l, hr, _⟩ := rw_of_cells layU hl hm (a := a) (W := W) (P := fun _ => True) (fun j hj => by
      have he := hel j hj
      rw [List.getElem?_eq_getElem (by omega : j < elems.length), cells32] at he
      obtain ⟨cs, hcs, htr⟩ := Option.bind_eq_some_iff.1 he
      obtain ⟨p, hp, _, _⟩ := DataW.trod_int Tryd.underlying21 htr
      exact ⟨p, trivial, cs, hcs, hp⟩)
    exact ⟨some a, len, cap, l, hc, hr⟩
/-- A deed, opened. -/
theorem open_deed {H : Type} {enc : TypeId × Value → H} {W : World} {base : Nat} {v : Value} {d : DataW H} {p : List MemPlace}
    (hv : Value.okWide Tryd.prog W .any base 30 v) (h : DataW.Trod enc Tryd.prog W 0 (fun _ => true) true 30 v d p) :
    ∃ (dk dp : Int) (ta pa : Option Addr) (n1 c1 n2 c2 : Nat) (zs ys : List Int), v = deedV dk dp (.slice ta n1 c1) (.slice pa n2 c2) ∧ Rw rune1 1 W ta n1 c1 zs ∧ Rw int1 1 W pa n2 c2 ys := by
  obtain ⟨cs, rfl, hsz⟩ := okWide_struct Tryd.underlying30 hv
  obtain ⟨c0, c1, c2, c3, rfl⟩ := array4 (hsz.trans cellsDeed)
  obtain ⟨fuel, hf⟩ := h
  obtain ⟨xs, m, _, hx, _, hlen, hel⟩ := DataW.trod_struct Tryd.underlying30 hf
  match xs, hlen, hx, hel with
  | [y0, y1, y2, y3], _, hx, hel =>
    have q0 : DataW.trod enc Tryd.prog W 0 (fun _ => true) true m 3 [c0] = some y0 := by simpa [Value.cells, cellsI64] using hel 0 _ rfl
    have q1 : DataW.trod enc Tryd.prog W 0 (fun _ => true) true m 3 [c1] = some y1 := by simpa [Value.cells, cellsI64] using hel 1 _ rfl
    have q2 : DataW.trod enc Tryd.prog W 0 (fun _ => true) true m 28 [c2] = some y2 := by simpa [Value.cells, cellsRunes] using hel 2 _ rfl
    have q3 : DataW.trod enc Tryd.prog W 0 (fun _ => true) true m 27 [c3] = some y3 := by simpa [Value.cells, cellsInts] using hel 3 _ rfl
    obtain ⟨x0, e0, _, _⟩ := DataW.trod_int Tryd.underlying3 q0
    obtain ⟨x1, e1, _, _⟩ := DataW.trod_int Tryd.underlying3 q1
    obtain ⟨a2, m2, k2, zs, e2, h2⟩ := open_runes1 q2
    obtain ⟨a3, m3, k3, ys, e3, h3⟩ := open_ints1 q3
    simp only [List.cons.injEq, and_true] at e0 e1
    subst e0 e1 e2 e3
    exact ⟨_, _, _, _, _, _, _, _, zs, ys, rfl, h2, h3⟩
end Go.Proofs.YtnbedohlgghhdaaDoor
