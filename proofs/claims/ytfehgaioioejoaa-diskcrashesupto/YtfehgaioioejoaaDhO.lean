import Derived.Test.YtfehgaioioejoaaDgY
import Derived.Test.YtfehgaioioejoaaDcO
/-! The opener of a Script whose bulk is small. -/
namespace Go.Proofs.Ytfehgaioioejoaa
open Go.ChangeShapes Go.WideShapes Go.ChangeAt Go.RowKit Go.WideMaps Go.WideElems Go.Lib
set_option maxRecDepth 100000

theorem cellsFile : Try.prog.cellsOf 73 = 3 := by kernel_rfl
/-- as rw_of_cells, each fact with its index -/
theorem rw_of_cellsJ {α : Type} {f : α → List Value} {k : Nat} (hf : Lay f k) {W : World} {a : Addr} {len cap : Nat} {P : Nat → α → Prop} (hl : len ≤ cap) (hm : cap ≤ maxLen)
    (hel : ∀ j, j < len → ∃ p : α, P j p ∧ ∃ cs, W.cells? 0 (a.add (j * k)) k = some cs ∧ cs = f p) : ∃ l : List α, Rw f k W (some a) len cap l ∧ ∀ (j : Nat) x, l[j]? = some x → P j x := by
  by_cases h0 : len = 0
  · subst h0
    exact ⟨[], ⟨rfl, ⟨hl, hm⟩, fun h => absurd h (Nat.lt_irrefl _)⟩, fun j x hx => by simp at hx⟩
  · have hk := hf.pos
    obtain ⟨g, off, spot⟩ := a
    have hcell : ∀ j, j < len → ∃ p : α, P j p ∧ ∀ i v, (f p)[i]? = some v → W.cell? (((⟨g, off, spot⟩ : Addr).add (j * k)).add i) = some v := fun j hj => by
      obtain ⟨p, hP, cs, hcs, rfl⟩ := hel j hj
      obtain ⟨_, _, hc⟩ := World.cells?_some hcs
      refine ⟨p, hP, fun i v hv => ?_⟩
      obtain ⟨hi, _⟩ := List.getElem?_eq_some_iff.1 hv
      exact (hc i (by rw [hf.len] at hi; exact hi)).trans hv
    have hspot : spot = none := by
      obtain ⟨p, _, h1⟩ := hcell 0 (by omega)
      have hlp : 0 < (f p).length := by rw [hf.len]; exact hk
      have := h1 0 _ (List.getElem?_eq_getElem hlp)
      simpa [Addr.add] using World.cell?_spot this
    subst hspot
    obtain ⟨l, hll, hp⟩ := list_ofE len hcell
    refine ⟨l, ⟨hll, ⟨hl, hm⟩, fun _ => ⟨g, off, rfl, ?_, fun j x hj i v hv => ?_⟩⟩, fun j x hj => (hp j x hj).1⟩
    · obtain ⟨p, _, h1⟩ := hcell 0 (by omega)
      have hlp : 0 < (f p).length := by rw [hf.len]; exact hk
      exact World.block_lt_of_cell? _ _ (by
        have := h1 0 _ (List.getElem?_eq_getElem hlp)
        rw [addr_add', addr_add'] at this
        exact this)
    · have := (hp j x hj).2 i v hv
      rw [addr_add', addr_add'] at this
      exact this
theorem sum_bulk {H : Type} : ∀ (vs : List Fi) (ds : List (DataW H)), vs.length = ds.length → (∀ (j : Nat) v d, vs[j]? = some v → ds[j]? = some d → v.bs.length ≤ Rows.uptoBulk d) → sumI vs ≤ Rows.uptoBulkAll ds
  | [], [], _, _ => by simp [sumI, Rows.uptoBulkAll]
  | [], _ :: _, h, _ => by simp at h
  | _ :: _, [], h, _ => by simp at h
  | v :: vs, d :: ds, h, hp => by
    have h1 := hp 0 v d rfl rfl
    have h2 := sum_bulk vs ds (by simpa using h) (fun j v d hv hd => hp (j + 1) v d (by simpa using hv) (by simpa using hd))
    unfold sumI at h2 ⊢
    simp only [List.map_cons, List.sum_cons, Rows.uptoBulkAll]
    omega
/-- A file handed in, opened. -/
theorem open_file1 {H : Type} {enc : TypeId × Value → H} {W : World} {fuel : Nat} {cs : List Value} {x : DataW H × List MemPlace}
    (h : DataW.trod enc Try.prog W 0 (fun _ => true) true fuel 73 cs = some x) : ∃ v : Fi, (Rw byU 1 W v.a v.bs.length v.cap v.bs ∧ v.nm.length ≤ 9223372036854775807 ∧ v.bs.length ≤ Rows.uptoBulk x.1) ∧ cs = fiV v := by
  obtain ⟨xs, m, _, hx, hl, hlen, hel⟩ := DataW.trod_struct Try.underlying73 h
  rw [cellsFile] at hl
  match cs, hl, xs, hlen, hx, hel with
  | [c0, c1, c2], _, [y0, y1, y2], _, hx, hel =>
    have q0 : DataW.trod enc Try.prog W 0 (fun _ => true) true m 9 [c0] = some y0 := by simpa [Value.cells, cellsI64, cellsBytes, cellsStr] using hel 0 _ rfl
    have q1 : DataW.trod enc Try.prog W 0 (fun _ => true) true m 36 [c1] = some y1 := by simpa [Value.cells, cellsI64, cellsBytes, cellsStr] using hel 1 _ rfl
    have q2 : DataW.trod enc Try.prog W 0 (fun _ => true) true m 3 [c2] = some y2 := by simpa [Value.cells, cellsI64, cellsBytes, cellsStr] using hel 2 _ rfl
    have hd : x.1 = .agg [y0.1, y1.1, y2.1] := by
      have := congrArg Prod.fst hx
      simpa using this
    obtain ⟨s, e0, _, hs⟩ := DataW.trod_string Try.underlying9 q0
    obtain ⟨ba, bc, B, e1, hB, bB⟩ := open_bytes1 q1
    obtain ⟨M, e2, _, _⟩ := DataW.trod_int Try.underlying3 q2
    simp only [List.cons.injEq, and_true] at e0 e2
    subst e0 e1 e2
    simp only [maxLen] at hs
    have hsl : s.data.toList.length ≤ 9223372036854775807 := by rw [Array.length_toList]; exact hs
    refine ⟨⟨s.data.toList, ba, bc, B, M⟩, ⟨hB, hsl, ?_⟩, ?_⟩
    · rw [hd]
      simp only [Rows.uptoBulk, Rows.uptoBulkAll]
      omega
    · rfl
theorem open_files {H : Type} {enc : TypeId × Value → H} {W : World} {fuel : Nat} {c : Value} {y : DataW H × List MemPlace}
    (h : DataW.trod enc Try.prog W 0 (fun _ => true) true fuel 22 [c] = some y) : ∃ a n cap vs, c = .slice a n cap ∧ Rw fiV 3 W a n cap vs ∧ (∀ v ∈ vs, Rw byU 1 W v.a v.bs.length v.cap v.bs ∧ v.nm.length ≤ 9223372036854775807) ∧ n ≤ Rows.uptoBulk y.1 ∧ sumI vs ≤ Rows.uptoBulk y.1 := by
  rcases DataW.trod_slice Try.underlying22 h with ⟨hc, _⟩ | ⟨a, len, cap, elems, rest, m, _, hc, hx, _, hl, hm, hlen, hel, _, _⟩
  · simp only [List.cons.injEq, and_true] at hc
    exact ⟨none, 0, 0, [], hc, rw_nil W, by simp, Nat.zero_le _, by simp [sumI]⟩
  · simp only [List.cons.injEq, and_true] at hc
    obtain ⟨l, hr, hp⟩ := rw_of_cellsJ layFi hl hm (a := a) (W := W) (P := fun j v => (Rw byU 1 W v.a v.bs.length v.cap v.bs ∧ v.nm.length ≤ 9223372036854775807) ∧ ∀ d, (elems.map (·.1))[j]? = some d → v.bs.length ≤ Rows.uptoBulk d) (fun j hj => by
      have he := hel j hj
      have hje : j < elems.length := by omega
      rw [List.getElem?_eq_getElem hje, cellsFile] at he
      obtain ⟨cs, hcs, htr⟩ := Option.bind_eq_some_iff.1 he
      obtain ⟨v, hv, hcs2⟩ := open_file1 htr
      refine ⟨v, ⟨⟨hv.1, hv.2.1⟩, fun d hd => ?_⟩, cs, hcs, hcs2⟩
      rw [List.getElem?_map, List.getElem?_eq_getElem hje] at hd
      simp only [Option.map_some, Option.some.injEq] at hd
      rw [← hd]
      exact hv.2.2)
    have hll := hr.len
    have h1 := bulk_length (elems.map (·.1))
    rw [List.length_map] at h1
    have h2 := sum_bulk l (elems.map (·.1)) (by rw [List.length_map]; omega) (fun j v d hv hd => (hp j v hv).2 d hd)
    refine ⟨some a, len, cap, l, hc, hr, fun v hv => ?_, ?_, ?_⟩
    · obtain ⟨j, hj⟩ := List.getElem?_of_mem hv
      exact (hp j v hj).1
    · rw [hx]
      simp only [Rows.uptoBulk]
      omega
    · rw [hx]
      simp only [Rows.uptoBulk]
      omega
theorem ops_bulk {H : Type} {enc : TypeId × Value → H} {W : World} {fuel : Nat} {a : Option Addr} {n cap : Nat} {y : DataW H × List MemPlace}
    (h : DataW.trod enc Try.prog W 0 (fun _ => true) true fuel 23 [.slice a n cap] = some y) : n ≤ Rows.uptoBulk y.1 := by
  rcases DataW.trod_slice Try.underlying23 h with ⟨hc, _⟩ | ⟨a', len, cap', elems, rest, m, _, hc, hx, _, hl, hm, hlen, hel, _, _⟩
  · simp only [List.cons.injEq, Value.slice.injEq, and_true] at hc
    omega
  · simp only [List.cons.injEq, Value.slice.injEq, and_true] at hc
    have h1 := bulk_length (elems.map (·.1))
    rw [List.length_map] at h1
    rw [hx]
    simp only [Rows.uptoBulk]
    omega
/-- A Script, opened. -/
theorem open_scriptU {H : Type} {enc : TypeId × Value → H} {W : World} {base : Nat} {v : Value} {d : DataW H} {p : List MemPlace}
    (hv : Value.okWide Try.prog W .any base 25 v) (h : DataW.Trod enc Try.prog W 0 (fun _ => true) true 25 v d p) (hz : (d.weights Try.prog 25).all (· ≤ reachBytes) = true) (hb : Rows.uptoBulk d ≤ 1048576) :
    ∃ (L : Int) (fa : Option Addr) (fl fc : Nat) (oa : Option Addr) (on oc : Nat) (vs : List Fi) (ops : List OpR), v = .agg #[.int .i64 L, .slice fa fl fc, .slice oa on oc] ∧ Rw fiV 3 W fa fl fc vs ∧ fl ≤ 1048576 ∧ (∀ v ∈ vs, Rw byU 1 W v.a v.bs.length v.cap v.bs) ∧ (∀ v ∈ vs, v.nm.length ≤ 9223372036854775807) ∧ sumI vs ≤ 1048576 ∧ Rw opV 5 W oa on oc ops ∧ (∀ o ∈ ops, OpIn W o) ∧ on ≤ 1048576 := by
  obtain ⟨cs, rfl, hsz⟩ := okWide_struct Try.underlying25 hv
  obtain ⟨c0, c1, c2, rfl⟩ := array3 (hsz.trans cellsScr)
  obtain ⟨fuel, hf⟩ := h
  obtain ⟨xs, m, _, hx, _, hlen, hel⟩ := DataW.trod_struct Try.underlying25 hf
  match xs, hlen, hx, hel with
  | [y0, y1, y2], _, hx, hel =>
    have q0 : DataW.trod enc Try.prog W 0 (fun _ => true) true m 3 [c0] = some y0 := by simpa [Value.cells, cellsI64, cellsFls, cellsOps] using hel 0 _ rfl
    have q1 : DataW.trod enc Try.prog W 0 (fun _ => true) true m 22 [c1] = some y1 := by simpa [Value.cells, cellsI64, cellsFls, cellsOps] using hel 1 _ rfl
    have q2 : DataW.trod enc Try.prog W 0 (fun _ => true) true m 23 [c2] = some y2 := by simpa [Value.cells, cellsI64, cellsFls, cellsOps] using hel 2 _ rfl
    have hd : d = .agg [y0.1, y1.1, y2.1] := by
      have := congrArg Prod.fst hx
      simpa using this
    rw [hd] at hz hb
    have hz2 : (y2.1.weights Try.prog 23).all (· ≤ reachBytes) = true := by
      simp only [DataW.weights, Try.underlying25, List.map_cons, List.map_nil, DataW.weightsEach, List.all_append, Bool.and_eq_true] at hz
      exact hz.2.2.1
    simp only [Rows.uptoBulk, Rows.uptoBulkAll] at hb
    obtain ⟨L, e0, _, _⟩ := DataW.trod_int Try.underlying3 q0
    obtain ⟨fa, fl, fc, vs, e1, hr1, hv1, hb1, hs1⟩ := open_files q1
    obtain ⟨oa, on, oc, ops, e2, hr, hin, _⟩ := open_ops q2 hz2
    simp only [List.cons.injEq, and_true] at e0
    subst e0 e1 e2
    have hon := ops_bulk q2
    exact ⟨L, fa, fl, fc, oa, on, oc, vs, ops, rfl, hr1, by omega, fun v hv => (hv1 v hv).1, fun v hv => (hv1 v hv).2, by omega, hr, hin, by omega⟩
end Go.Proofs.Ytfehgaioioejoaa
