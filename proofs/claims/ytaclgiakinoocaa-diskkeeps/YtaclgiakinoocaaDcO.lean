import Derived.Test.YtaclgiakinoocaaDbO
import Derived.Test.YtaclgiakinoocaaDcF
/-! The opener of a Script. -/
namespace Go.Proofs.Ytaclgiakinoocaa
open Go.ChangeShapes Go.WideShapes Go.ChangeAt Go.RowKit Go.WideMaps Go.WideElems Go.Lib
set_option maxRecDepth 100000

theorem cellsStr : Try.prog.cellsOf 9 = 1 := by kernel_rfl
theorem cellsOps : Try.prog.cellsOf 43 = 1 := by kernel_rfl
theorem cellsFls : Try.prog.cellsOf 36 = 1 := by kernel_rfl
theorem cellsOp : Try.prog.cellsOf 51 = 5 := by kernel_rfl
theorem cellsScr : Try.prog.cellsOf 45 = 3 := by kernel_rfl
theorem bytesOp : Try.prog.bytesOf 51 = 64 := by kernel_rfl
theorem bytesU8 : Try.prog.bytesOf 5 = 1 := by kernel_rfl
theorem reach_is : reachBytes = 140737488351232 := rfl
theorem array3 {α : Type} {cs : Array α} (h : cs.size = 3) : ∃ c0 c1 c2, cs = #[c0, c1, c2] := by
  obtain ⟨l⟩ := cs
  match l, h with
  | [c0, c1, c2], _ => exact ⟨c0, c1, c2, rfl⟩
theorem weightsAll_mem {H : Type} {P : Program} {e : TypeId} {q : Nat → Bool} : ∀ {ds : List (DataW H)} {d : DataW H}, d ∈ ds → (DataW.weightsAll P e ds).all q = true → (d.weights P e).all q = true
  | [], _, h, _ => by cases h
  | x :: r, d, h, ha => by
    simp only [DataW.weightsAll, List.all_append, Bool.and_eq_true] at ha
    rcases List.mem_cons.1 h with rfl | h
    · exact ha.1
    · exact weightsAll_mem h ha.2
theorem open_bytesW {H : Type} {enc : TypeId × Value → H} {W : World} {fuel : Nat} {c : Value} {y : DataW H × List MemPlace}
    (h : DataW.trod enc Try.prog W 0 (fun _ => true) true fuel 22 [c] = some y) (hz : (y.1.weights Try.prog 22).all (· ≤ reachBytes) = true) : ∃ a cap l, c = .slice a l.length cap ∧ Rw byU 1 W a l.length cap l ∧ l.length ≤ 140737488351232 := by
  rcases DataW.trod_slice Try.underlying22 h with ⟨hc, _⟩ | ⟨a, len, cap, elems, rest, m, _, hc, hx, _, hl, hm, hlen, hel, _, _⟩
  · simp only [List.cons.injEq, and_true] at hc
    exact ⟨none, 0, [], hc, rw_nil W, Nat.zero_le _⟩
  · simp only [List.cons.injEq, and_true] at hc
    obtain ⟨l, hr, _⟩ := rw_of_cells layU hl hm (a := a) (W := W) (P := fun _ => True) (fun j hj => by
      have he := hel j hj
      rw [List.getElem?_eq_getElem (by omega : j < elems.length), cellsU8x] at he
      obtain ⟨cs, hcs, htr⟩ := Option.bind_eq_some_iff.1 he
      obtain ⟨p, hp, _, hwf⟩ := DataW.trod_int Try.underlying5 htr
      have hwf2 : 0 ≤ p ∧ p ≤ 255 := by
        simp only [Lit.wf, Bool.and_eq_true, decide_eq_true_eq] at hwf
        exact hwf
      refine ⟨UInt8.ofNat p.toNat, trivial, cs, hcs, ?_⟩
      rw [hp]
      unfold byU
      rw [UInt8.toNat_ofNat']
      congr 2
      omega)
    have hll := hr.len
    refine ⟨some a, cap, l, by rw [hll]; exact hc, by rw [hll]; exact hr, ?_⟩
    have hz' : (DataW.weightsEach Try.prog [22] [y.1]).all (· ≤ reachBytes) = true := by simpa [DataW.weightsEach] using hz
    rw [hx] at hz'
    have h1 := sized_slice hz' (j := 0) rfl rfl Try.underlying22
    rw [bytesU8, reach_is] at h1
    simp only [List.length_map] at h1
    omega
theorem open_op1 {H : Type} {enc : TypeId × Value → H} {W : World} {fuel : Nat} {cs : List Value} {x : DataW H × List MemPlace}
    (h : DataW.trod enc Try.prog W 0 (fun _ => true) true fuel 51 cs = some x) (hz : (x.1.weights Try.prog 51).all (· ≤ reachBytes) = true) : ∃ o : OpR, OpIn W o ∧ cs = opV o := by
  obtain ⟨xs, m, _, hx, hl, hlen, hel⟩ := DataW.trod_struct Try.underlying51 h
  rw [cellsOp] at hl
  match cs, hl, xs, hlen, hx, hel with
  | [c0, c1, c2, c3, c4], _, [y0, y1, y2, y3, y4], _, hx, hel =>
    have q0 : DataW.trod enc Try.prog W 0 (fun _ => true) true m 3 [c0] = some y0 := by simpa [Value.cells, cellsI64, cellsBytes, cellsStr] using hel 0 _ rfl
    have q1 : DataW.trod enc Try.prog W 0 (fun _ => true) true m 9 [c1] = some y1 := by simpa [Value.cells, cellsI64, cellsBytes, cellsStr] using hel 1 _ rfl
    have q2 : DataW.trod enc Try.prog W 0 (fun _ => true) true m 22 [c2] = some y2 := by simpa [Value.cells, cellsI64, cellsBytes, cellsStr] using hel 2 _ rfl
    have q3 : DataW.trod enc Try.prog W 0 (fun _ => true) true m 3 [c3] = some y3 := by simpa [Value.cells, cellsI64, cellsBytes, cellsStr] using hel 3 _ rfl
    have q4 : DataW.trod enc Try.prog W 0 (fun _ => true) true m 3 [c4] = some y4 := by simpa [Value.cells, cellsI64, cellsBytes, cellsStr] using hel 4 _ rfl
    have hd : x.1 = .agg [y0.1, y1.1, y2.1, y3.1, y4.1] := by
      have := congrArg Prod.fst hx
      simpa using this
    rw [hd] at hz
    have hz2 : (y2.1.weights Try.prog 22).all (· ≤ reachBytes) = true := by
      simp only [DataW.weights, Try.underlying51, List.map_cons, List.map_nil, DataW.weightsEach, List.all_append, Bool.and_eq_true] at hz
      exact hz.2.2.1
    obtain ⟨k, e0, _, wk⟩ := DataW.trod_int Try.underlying3 q0
    obtain ⟨s, e1, _, hs⟩ := DataW.trod_string Try.underlying9 q1
    obtain ⟨ba, bc, B, e2, hB, bB⟩ := open_bytesW q2 hz2
    obtain ⟨N, e3, _, wN⟩ := DataW.trod_int Try.underlying3 q3
    obtain ⟨M, e4, _, wM⟩ := DataW.trod_int Try.underlying3 q4
    simp only [List.cons.injEq, and_true] at e0 e1 e3 e4
    subst e0 e1 e2 e3 e4
    have bN := bounds_i64 wN
    have bM := bounds_i64 wM
    simp only [maxLen] at hs
    have hsl : s.data.toList.length ≤ 9223372036854775807 := by rw [Array.length_toList]; exact hs
    refine ⟨⟨k, s.data.toList, ba, bc, B, N, M⟩, ⟨hB, hsl, by simp only; omega, by simp only; omega, bB⟩, ?_⟩
    rfl
theorem open_ops {H : Type} {enc : TypeId × Value → H} {W : World} {fuel : Nat} {c : Value} {y : DataW H × List MemPlace}
    (h : DataW.trod enc Try.prog W 0 (fun _ => true) true fuel 43 [c] = some y) (hz : (y.1.weights Try.prog 43).all (· ≤ reachBytes) = true) : ∃ a n cap ops, c = .slice a n cap ∧ Rw opV 5 W a n cap ops ∧ (∀ o ∈ ops, OpIn W o) ∧ n ≤ 2199023255551 := by
  rcases DataW.trod_slice Try.underlying43 h with ⟨hc, _⟩ | ⟨a, len, cap, elems, rest, m, _, hc, hx, _, hl, hm, hlen, hel, _, _⟩
  · simp only [List.cons.injEq, and_true] at hc
    exact ⟨none, 0, 0, [], hc, rw_nil W, by simp, by omega⟩
  · simp only [List.cons.injEq, and_true] at hc
    have hz' : (DataW.weightsEach Try.prog [43] [y.1]).all (· ≤ reachBytes) = true := by simpa [DataW.weightsEach] using hz
    rw [hx] at hz hz'
    have h1 := sized_slice hz' (j := 0) rfl rfl Try.underlying43
    rw [bytesOp, reach_is] at h1
    simp only [List.length_map] at h1
    simp only [DataW.weights, Try.underlying43, List.all_cons, Bool.and_eq_true, List.all_append] at hz
    obtain ⟨l, hr, hp⟩ := rw_of_cells layOp hl hm (a := a) (W := W) (P := OpIn W) (fun j hj => by
      have he := hel j hj
      rw [List.getElem?_eq_getElem (by omega : j < elems.length), cellsOp] at he
      obtain ⟨cs, hcs, htr⟩ := Option.bind_eq_some_iff.1 he
      obtain ⟨o, ho, hcs2⟩ := open_op1 htr (weightsAll_mem (List.mem_map.2 ⟨_, List.getElem_mem (by omega), rfl⟩) hz.2.1)
      exact ⟨o, ho, cs, hcs, hcs2⟩)
    exact ⟨some a, len, cap, l, hc, hr, hp, by omega⟩
/-- A Script, opened. -/
theorem open_script {H : Type} {enc : TypeId × Value → H} {W : World} {base : Nat} {v : Value} {d : DataW H} {p : List MemPlace}
    (hv : Value.okWide Try.prog W .any base 45 v) (h : DataW.Trod enc Try.prog W 0 (fun _ => true) true 45 v d p) (hz : (d.weights Try.prog 45).all (· ≤ reachBytes) = true) :
    ∃ (L : Int) (fa : Option Addr) (fl fc : Nat) (oa : Option Addr) (on oc : Nat) (ops : List OpR), v = .agg #[.int .i64 L, .slice fa fl fc, .slice oa on oc] ∧ Rw opV 5 W oa on oc ops ∧ (∀ o ∈ ops, OpIn W o) ∧ on ≤ 2199023255551 := by
  obtain ⟨cs, rfl, hsz⟩ := okWide_struct Try.underlying45 hv
  obtain ⟨c0, c1, c2, rfl⟩ := array3 (hsz.trans cellsScr)
  obtain ⟨fuel, hf⟩ := h
  obtain ⟨xs, m, _, hx, _, hlen, hel⟩ := DataW.trod_struct Try.underlying45 hf
  match xs, hlen, hx, hel with
  | [y0, y1, y2], _, hx, hel =>
    have q0 : DataW.trod enc Try.prog W 0 (fun _ => true) true m 3 [c0] = some y0 := by simpa [Value.cells, cellsI64, cellsFls, cellsOps] using hel 0 _ rfl
    have q1 : DataW.trod enc Try.prog W 0 (fun _ => true) true m 36 [c1] = some y1 := by simpa [Value.cells, cellsI64, cellsFls, cellsOps] using hel 1 _ rfl
    have q2 : DataW.trod enc Try.prog W 0 (fun _ => true) true m 43 [c2] = some y2 := by simpa [Value.cells, cellsI64, cellsFls, cellsOps] using hel 2 _ rfl
    have hd : d = .agg [y0.1, y1.1, y2.1] := by
      have := congrArg Prod.fst hx
      simpa using this
    rw [hd] at hz
    have hz2 : (y2.1.weights Try.prog 43).all (· ≤ reachBytes) = true := by
      simp only [DataW.weights, Try.underlying45, List.map_cons, List.map_nil, DataW.weightsEach, List.all_append, Bool.and_eq_true] at hz
      exact hz.2.2.1
    obtain ⟨L, e0, _, _⟩ := DataW.trod_int Try.underlying3 q0
    obtain ⟨fa, fl, fc, e1⟩ : ∃ a n c, c1 = .slice a n c := by
      rcases DataW.trod_slice Try.underlying36 q1 with ⟨hc, _⟩ | ⟨a, len, cap, elems, rest, m, _, hc, _⟩
      · simp only [List.cons.injEq, and_true] at hc
        exact ⟨none, 0, 0, hc⟩
      · simp only [List.cons.injEq, and_true] at hc
        exact ⟨some a, len, cap, hc⟩
    obtain ⟨oa, on, oc, ops, e2, hr, hin, hon⟩ := open_ops q2 hz2
    simp only [List.cons.injEq, and_true] at e0
    subst e0 e1 e2
    exact ⟨L, fa, fl, fc, oa, on, oc, ops, rfl, hr, hin, hon⟩
end Go.Proofs.Ytaclgiakinoocaa
