import Derived.Test.YtdmhajlhpieedaaLcM
import Derived.Test.YtdmhajlhpieedaaRows
import Derived.ProofKit
import Derived.OpenShut
import Derived.Deep.DeepHandedRow
import Derived.SizedLaws
/-! The opener of a []Step whose bulk is small. -/
namespace Go.Proofs.Ytdmhajlhpieedaa
open Go.ChangeShapes Go.WideShapes Go.ChangeAt Go.RowKit Go.WideMaps Go.WideElems Go.Lib
set_option maxRecDepth 100000

theorem cellsI64 : Try.prog.cellsOf 3 = 1 := by kernel_rfl
theorem cellsBoolx : Try.prog.cellsOf 4 = 1 := by kernel_rfl
theorem cellsU8x : Try.prog.cellsOf 5 = 1 := by kernel_rfl
theorem cellsBytes : Try.prog.cellsOf 34 = 1 := by kernel_rfl
theorem list_ofE {α : Type} {P : Nat → α → Prop} : ∀ m : Nat, (∀ j, j < m → ∃ x, P j x) → ∃ l : List α, l.length = m ∧ ∀ (j : Nat) x, l[j]? = some x → P j x
  | 0, _ => ⟨[], rfl, fun j x h => by simp at h⟩
  | m + 1, h => by
    obtain ⟨l, hl, hp⟩ := list_ofE m (fun j hj => h j (by omega))
    obtain ⟨x, hx⟩ := h m (by omega)
    refine ⟨l ++ [x], by simp [hl], fun j y hy => ?_⟩
    by_cases hj : j < l.length
    · rw [List.getElem?_append_left hj] at hy
      exact hp j y hy
    · rw [List.getElem?_append_right (by omega)] at hy
      obtain ⟨hk, rfl⟩ := List.getElem?_eq_some_iff.1 hy
      simp at hk
      have : j = m := by omega
      subst this
      simpa using hx
/-- A row of elements whose cells are opened one by one, each with a fact. -/
theorem rw_of_cells {α : Type} {f : α → List Value} {k : Nat} (hf : Lay f k) {W : World} {a : Addr} {len cap : Nat} {P : α → Prop} (hl : len ≤ cap) (hm : cap ≤ maxLen)
    (hel : ∀ j, j < len → ∃ p : α, P p ∧ ∃ cs, W.cells? 0 (a.add (j * k)) k = some cs ∧ cs = f p) : ∃ l : List α, Rw f k W (some a) len cap l ∧ ∀ x ∈ l, P x := by
  by_cases h0 : len = 0
  · subst h0
    exact ⟨[], ⟨rfl, ⟨hl, hm⟩, fun h => absurd h (Nat.lt_irrefl _)⟩, fun x hx => by cases hx⟩
  · have hk := hf.pos
    obtain ⟨g, off, spot⟩ := a
    have hcell : ∀ j, j < len → ∃ p : α, P p ∧ ∀ i v, (f p)[i]? = some v → W.cell? (((⟨g, off, spot⟩ : Addr).add (j * k)).add i) = some v := fun j hj => by
      obtain ⟨p, hP, cs, hcs, rfl⟩ := hel j hj
      obtain ⟨_, _, hc⟩ := World.cells?_some hcs
      refine ⟨p, hP, fun i v hv => ?_⟩
      obtain ⟨hi, _⟩ := List.getElem?_eq_some_iff.1 hv
      exact (hc i (by rw [hf.len] at hi; exact hi)).trans hv
    have hspot : spot = none := by
      obtain ⟨p, _, h1⟩ := hcell 0 (by omega)
      have hlp : 0 < (f p).length := by rw [hf.len]; exact hk
      have := h1 0 _ (List.getElem?_eq_getElem hlp)
      simpa [Addr.add] using World.cell?_spot this
    subst hspot
    obtain ⟨l, hll, hp⟩ := list_ofE len hcell
    refine ⟨l, ⟨hll, ⟨hl, hm⟩, fun _ => ⟨g, off, rfl, ?_, fun j x hj i v hv => ?_⟩⟩, fun x hx => ?_⟩
    · obtain ⟨p, _, h1⟩ := hcell 0 (by omega)
      have hlp : 0 < (f p).length := by rw [hf.len]; exact hk
      exact World.block_lt_of_cell? _ _ (by
        have := h1 0 _ (List.getElem?_eq_getElem hlp)
        rw [addr_add', addr_add'] at this
        exact this)
    · have := (hp j x hj).2 i v hv
      rw [addr_add', addr_add'] at this
      exact this
    · obtain ⟨j, hj⟩ := List.getElem?_of_mem hx
      exact (hp j x hj).1
theorem bulk_one {H : Type} (d : DataW H) : 1 ≤ Rows.uptoBulk d := by
  cases d with
  | lit l => cases l <;> simp [Rows.uptoBulk]
  | nil => simp [Rows.uptoBulk]
  | ptr d => simp [Rows.uptoBulk]
  | slice elems spare => simp [Rows.uptoBulk]
  | agg parts => simp [Rows.uptoBulk]
  | iface t d => simp [Rows.uptoBulk]
  | map entries => simp [Rows.uptoBulk]
  | held h => simp [Rows.uptoBulk]
theorem bulk_length {H : Type} (l : List (DataW H)) : l.length ≤ Rows.uptoBulkAll l := by
  induction l with
  | nil => simp [Rows.uptoBulkAll]
  | cons x r ih => have := bulk_one x; simp only [Rows.uptoBulkAll, List.length_cons]; omega
theorem open_bytes1 {H : Type} {enc : TypeId × Value → H} {W : World} {fuel : Nat} {c : Value} {y : DataW H × List MemPlace}
    (h : DataW.trod enc Try.prog W 0 (fun _ => true) true fuel 34 [c] = some y) : ∃ a cap l, c = .slice a l.length cap ∧ Rw byU 1 W a l.length cap l ∧ l.length ≤ Rows.uptoBulk y.1 := by
  rcases DataW.trod_slice Try.underlying34 h with ⟨hc, _⟩ | ⟨a, len, cap, elems, rest, m, _, hc, hx, _, hl, hm, hlen, hel, _, _⟩
  · simp only [List.cons.injEq, and_true] at hc
    exact ⟨none, 0, [], hc, rw_nil W, Nat.zero_le _⟩
  · simp only [List.cons.injEq, and_true] at hc
    obtain ⟨l, hr, _⟩ := rw_of_cells layU hl hm (a := a) (W := W) (P := fun _ => True) (fun j hj => by
      have he := hel j hj
      rw [List.getElem?_eq_getElem (by omega : j < elems.length), cellsU8x] at he
      obtain ⟨cs, hcs, htr⟩ := Option.bind_eq_some_iff.1 he
      obtain ⟨p, hp, _, hwf⟩ := DataW.trod_int Try.underlying5 htr
      have hwf2 : 0 ≤ p ∧ p ≤ 255 := by
        simp only [Lit.wf, Bool.and_eq_true, decide_eq_true_eq] at hwf
        exact hwf
      refine ⟨UInt8.ofNat p.toNat, trivial, cs, hcs, ?_⟩
      rw [hp]
      unfold byU
      rw [UInt8.toNat_ofNat']
      congr 2
      omega)
    have hll := hr.len
    refine ⟨some a, cap, l, by rw [hll]; exact hc, by rw [hll]; exact hr, ?_⟩
    rw [hx]
    have h1 := bulk_length (elems.map (·.1))
    simp only [Rows.uptoBulk]
    rw [List.length_map] at h1
    omega
theorem cellsPks : Try.prog.cellsOf 41 = 1 := by kernel_rfl
theorem cellsPk : Try.prog.cellsOf 36 = 3 := by kernel_rfl
theorem cellsStep : Try.prog.cellsOf 51 = 6 := by kernel_rfl
theorem bulk_mem {H : Type} : ∀ {ds : List (DataW H)} {d : DataW H}, d ∈ ds → Rows.uptoBulk d ≤ Rows.uptoBulkAll ds
  | [], _, h => by cases h
  | x :: r, d, h => by
    simp only [Rows.uptoBulkAll]
    rcases List.mem_cons.1 h with rfl | h
    · omega
    · have := bulk_mem h; omega
theorem open_pk1 {H : Type} {enc : TypeId × Value → H} {W : World} {fuel : Nat} {cs : List Value} {x : DataW H × List MemPlace}
    (h : DataW.trod enc Try.prog W 0 (fun _ => true) true fuel 36 cs = some x) : ∃ p : Pk, (Rw byU 1 W p.a p.bs.length p.cap p.bs ∧ p.bs.length ≤ Rows.uptoBulk x.1) ∧ cs = pkv p := by
  obtain ⟨xs, m, _, hx, hl, hlen, hel⟩ := DataW.trod_struct Try.underlying36 h
  rw [cellsPk] at hl
  match cs, hl, xs, hlen, hx, hel with
  | [c0, c1, c2], _, [y0, y1, y2], _, hx, hel =>
    have q0 : DataW.trod enc Try.prog W 0 (fun _ => true) true m 3 [c0] = some y0 := by simpa [Value.cells, cellsI64, cellsBytes] using hel 0 _ rfl
    have q1 : DataW.trod enc Try.prog W 0 (fun _ => true) true m 3 [c1] = some y1 := by simpa [Value.cells, cellsI64, cellsBytes] using hel 1 _ rfl
    have q2 : DataW.trod enc Try.prog W 0 (fun _ => true) true m 34 [c2] = some y2 := by simpa [Value.cells, cellsI64, cellsBytes] using hel 2 _ rfl
    have hd : x.1 = .agg [y0.1, y1.1, y2.1] := by
      have := congrArg Prod.fst hx
      simpa using this
    obtain ⟨k0, e0, _, _⟩ := DataW.trod_int Try.underlying3 q0
    obtain ⟨k1, e1, _, _⟩ := DataW.trod_int Try.underlying3 q1
    obtain ⟨ba, bc, B, e2, hB, bB⟩ := open_bytes1 q2
    simp only [List.cons.injEq, and_true] at e0 e1
    subst e0 e1 e2
    refine ⟨⟨k0, k1, ba, bc, B⟩, ⟨hB, ?_⟩, rfl⟩
    rw [hd]
    simp only [Rows.uptoBulk, Rows.uptoBulkAll]
    omega
theorem open_pks {H : Type} {enc : TypeId × Value → H} {W : World} {fuel : Nat} {c : Value} {y : DataW H × List MemPlace}
    (h : DataW.trod enc Try.prog W 0 (fun _ => true) true fuel 41 [c] = some y) : ∃ a n cap ps, c = .slice a n cap ∧ Rw pkv 3 W a n cap ps ∧ n ≤ Rows.uptoBulk y.1 ∧ ∀ p ∈ ps, Rw byU 1 W p.a p.bs.length p.cap p.bs ∧ p.bs.length ≤ Rows.uptoBulk y.1 := by
  rcases DataW.trod_slice Try.underlying41 h with ⟨hc, _⟩ | ⟨a, len, cap, elems, rest, m, _, hc, hx, _, hl, hm, hlen, hel, _, _⟩
  · simp only [List.cons.injEq, and_true] at hc
    exact ⟨none, 0, 0, [], hc, rw_nil W, Nat.zero_le _, by simp⟩
  · simp only [List.cons.injEq, and_true] at hc
    have h1 := bulk_length (elems.map (·.1))
    rw [List.length_map] at h1
    obtain ⟨l, hr, hp⟩ := rw_of_cells layP hl hm (a := a) (W := W) (P := fun p => Rw byU 1 W p.a p.bs.length p.cap p.bs ∧ p.bs.length ≤ Rows.uptoBulkAll (elems.map (·.1))) (fun j hj => by
      have he := hel j hj
      have hje : j < elems.length := by omega
      rw [List.getElem?_eq_getElem hje, cellsPk] at he
      obtain ⟨cs, hcs, htr⟩ := Option.bind_eq_some_iff.1 he
      obtain ⟨p, hv, hcs2⟩ := open_pk1 htr
      have hb := bulk_mem (ds := elems.map (·.1)) (List.mem_map.2 ⟨elems[j], List.getElem_mem hje, rfl⟩)
      exact ⟨p, ⟨hv.1, by omega⟩, cs, hcs, hcs2⟩)
    refine ⟨some a, len, cap, l, hc, hr, ?_, fun p hpp => ⟨(hp p hpp).1, ?_⟩⟩
    · rw [hx]; simp only [Rows.uptoBulk]; omega
    · have := (hp p hpp).2
      rw [hx]; simp only [Rows.uptoBulk]; omega
/-- What holds of a step. -/
def StepIn (W : World) (N : Nat) (s : Sp) : Prop := ∃ ps, PsAt W s.pa s.pn s.pc ps ∧ s.pn ≤ N ∧ ∀ p ∈ ps, p.bs.length ≤ N
theorem open_step1 {H : Type} {enc : TypeId × Value → H} {W : World} {fuel : Nat} {cs : List Value} {x : DataW H × List MemPlace} {N : Nat} (hN : N ≤ 1048576)
    (h : DataW.trod enc Try.prog W 0 (fun _ => true) true fuel 51 cs = some x) (hb : Rows.uptoBulk x.1 ≤ N) : ∃ s : Sp, StepIn W N s ∧ cs = stv s := by
  obtain ⟨xs, m, _, hx, hl, hlen, hel⟩ := DataW.trod_struct Try.underlying51 h
  rw [cellsStep] at hl
  match cs, hl, xs, hlen, hx, hel with
  | [c0, c1, c2, c3, c4, c5], _, [y0, y1, y2, y3, y4, y5], _, hx, hel =>
    have q0 : DataW.trod enc Try.prog W 0 (fun _ => true) true m 3 [c0] = some y0 := by simpa [Value.cells, cellsI64, cellsU8x, cellsPks] using hel 0 _ rfl
    have q1 : DataW.trod enc Try.prog W 0 (fun _ => true) true m 3 [c1] = some y1 := by simpa [Value.cells, cellsI64, cellsU8x, cellsPks] using hel 1 _ rfl
    have q2 : DataW.trod enc Try.prog W 0 (fun _ => true) true m 3 [c2] = some y2 := by simpa [Value.cells, cellsI64, cellsU8x, cellsPks] using hel 2 _ rfl
    have q3 : DataW.trod enc Try.prog W 0 (fun _ => true) true m 3 [c3] = some y3 := by simpa [Value.cells, cellsI64, cellsU8x, cellsPks] using hel 3 _ rfl
    have q4 : DataW.trod enc Try.prog W 0 (fun _ => true) true m 5 [c4] = some y4 := by simpa [Value.cells, cellsI64, cellsU8x, cellsPks] using hel 4 _ rfl
    have q5 : DataW.trod enc Try.prog W 0 (fun _ => true) true m 41 [c5] = some y5 := by simpa [Value.cells, cellsI64, cellsU8x, cellsPks] using hel 5 _ rfl
    have hd : x.1 = .agg [y0.1, y1.1, y2.1, y3.1, y4.1, y5.1] := by
      have := congrArg Prod.fst hx
      simpa using this
    rw [hd] at hb
    simp only [Rows.uptoBulk, Rows.uptoBulkAll] at hb
    obtain ⟨k0, e0, _, _⟩ := DataW.trod_int Try.underlying3 q0
    obtain ⟨k1, e1, _, _⟩ := DataW.trod_int Try.underlying3 q1
    obtain ⟨k2, e2, _, _⟩ := DataW.trod_int Try.underlying3 q2
    obtain ⟨k3, e3, _, _⟩ := DataW.trod_int Try.underlying3 q3
    obtain ⟨k4, e4, _, hwf⟩ := DataW.trod_int Try.underlying5 q4
    have hwf2 : 0 ≤ k4 ∧ k4 ≤ 255 := by
      simp only [Lit.wf, Bool.and_eq_true, decide_eq_true_eq] at hwf
      exact hwf
    obtain ⟨pa, pn, pc, ps, e5, hr, hn, hp⟩ := open_pks q5
    simp only [List.cons.injEq, and_true] at e0 e1 e2 e3 e4
    subst e0 e1 e2 e3 e4 e5
    refine ⟨⟨k0, k1, k2, k3, UInt8.ofNat k4.toNat, pa, pn, pc⟩, ⟨ps, ⟨hr, fun p hpp => ⟨(hp p hpp).1, ?_⟩⟩, ?_, fun p hpp => ?_⟩, ?_⟩
    · have := (hp p hpp).2; omega
    · show pn ≤ N; omega
    · have := (hp p hpp).2; omega
    · unfold stv
      simp only [UInt8.toNat_ofNat']
      congr 6
      omega
/-- A []Step, opened. -/
theorem open_steps {H : Type} {enc : TypeId × Value → H} {W : World} {base : Nat} {v : Value} {d : DataW H} {p : List MemPlace} {N : Nat} (hN : N ≤ 1048576)
    (hv : Value.okWide Try.prog W .any base 44 v) (h : DataW.Trod enc Try.prog W 0 (fun _ => true) true 44 v d p) (hb : Rows.uptoBulk d ≤ N) :
    ∃ (a : Option Addr) (n c : Nat) (ss : List Sp), v = .slice a n c ∧ Rw stv 6 W a n c ss ∧ n ≤ N ∧ ∀ s ∈ ss, StepIn W N s := by
  obtain ⟨a0, n0, cap0, rfl⟩ := okWide_slice Try.underlying44 hv
  obtain ⟨fuel, hf⟩ := h
  rcases DataW.trod_slice Try.underlying44 hf with ⟨hc, _⟩ | ⟨a, len, cap, elems, rest, m, _, hc, hx, _, hl, hm, hlen, hel, _, _⟩
  · simp only [Value.cells, List.cons.injEq, Value.slice.injEq, and_true] at hc
    obtain ⟨rfl, rfl, rfl⟩ := hc
    exact ⟨none, 0, 0, [], rfl, rw_nil W, Nat.zero_le _, by simp⟩
  · simp only [Value.cells, List.cons.injEq, Value.slice.injEq, and_true] at hc
    obtain ⟨rfl, rfl, rfl⟩ := hc
    simp only [Prod.mk.injEq] at hx
    rw [hx.1] at hb
    simp only [Rows.uptoBulk] at hb
    have h1 := bulk_length (elems.map (·.1))
    rw [List.length_map] at h1
    obtain ⟨l, hr, hp⟩ := rw_of_cells layS hl hm (a := a) (W := W) (P := StepIn W N) (fun j hj => by
      have he := hel j hj
      have hje : j < elems.length := by omega
      rw [List.getElem?_eq_getElem hje, cellsStep] at he
      obtain ⟨cs, hcs, htr⟩ := Option.bind_eq_some_iff.1 he
      have hbm := bulk_mem (ds := elems.map (·.1)) (List.mem_map.2 ⟨elems[j], List.getElem_mem hje, rfl⟩)
      obtain ⟨s, hs, hcs2⟩ := open_step1 hN htr (by omega)
      exact ⟨s, hs, cs, hcs, hcs2⟩)
    exact ⟨some a, n0, cap0, l, rfl, hr, by omega, hp⟩
end Go.Proofs.Ytdmhajlhpieedaa
