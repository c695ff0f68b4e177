import Derived.Test.YtfakfmmngflbfacGreatDoorKinds
import Derived.Test.YtfakfmmngflbfacGreatDoorFrame
import Derived.Test.YtfakfmmngflbfacGreatDoorRows
namespace Go.Proofs.YtfakfmmngflbfacGreatDoor
open Go.ChangeShapes Go.WideShapes Go.ChangeAt Go.RowKit Go.WideMaps Go.WideElems
set_option maxRecDepth 100000

theorem bulk_one {H : Type} (d : DataW H) : 1 ≤ Rows.uptoBulk d := by
  cases d with
  | lit l => cases l <;> simp [Rows.uptoBulk]
  | nil => simp [Rows.uptoBulk]
  | ptr d => simp [Rows.uptoBulk]
  | slice elems spare => simp [Rows.uptoBulk]
  | agg parts => simp [Rows.uptoBulk]
  | iface t d => simp [Rows.uptoBulk]
  | map entries => simp [Rows.uptoBulk]
  | held h => simp [Rows.uptoBulk]
theorem bulk_part {H : Type} {d : DataW H} {l : List (DataW H)} (h : d ∈ l) : Rows.uptoBulk d ≤ Rows.uptoBulkAll l := by
  induction l with
  | nil => cases h
  | cons x r ih =>
    simp only [Rows.uptoBulkAll]
    cases List.mem_cons.1 h with
    | inl e => subst e; omega
    | inr e => have := ih e; omega
theorem bulk_length {H : Type} (l : List (DataW H)) : l.length ≤ Rows.uptoBulkAll l := by
  induction l with
  | nil => simp
  | cons x r ih => have := bulk_one x; simp only [Rows.uptoBulkAll, List.length_cons]; omega

theorem cellsOp : Tryz.prog.cellsOf 27 = 5 := by kernel_rfl
theorem cellsI64 : Tryz.prog.cellsOf 3 = 1 := by kernel_rfl
theorem cellsStr0 : Tryz.prog.cellsOf 9 = 1 := by kernel_rfl

/-- One call of the script, read off five cells. -/
theorem open_op {H : Type} {enc : TypeId × Value → H} {W : World} {fuel : Nat} {cs : List Value} {x : DataW H × List MemPlace}
    (h : DataW.trod enc Tryz.prog W 0 (fun _ => true) true fuel 27 cs = some x) (hb : Rows.uptoBulk x.1 ≤ 1048576) :
    ∃ o : OpR, cs = [.int .i64 o.kind, .string o.s, .string o.t, .int .i64 o.a, .int .i64 o.b] ∧ smallOp o := by
  obtain ⟨xs, m, _, hx, hcl, hlen, hel⟩ := DataW.trod_struct Tryz.underlying27 h
  rw [cellsOp] at hcl
  match cs, hcl, xs, hlen, hx, hel with
  | [c0, c1, c2, c3, c4], _, [y0, y1, y2, y3, y4], _, hx, hel =>
    have q0 : DataW.trod enc Tryz.prog W 0 (fun _ => true) true m 3 [c0] = some y0 := by simpa [Value.cells, cellsI64] using hel 0 _ rfl
    have q1 : DataW.trod enc Tryz.prog W 0 (fun _ => true) true m 9 [c1] = some y1 := by simpa [Value.cells, cellsStr0] using hel 1 _ rfl
    have q2 : DataW.trod enc Tryz.prog W 0 (fun _ => true) true m 9 [c2] = some y2 := by simpa [Value.cells, cellsStr0] using hel 2 _ rfl
    have q3 : DataW.trod enc Tryz.prog W 0 (fun _ => true) true m 3 [c3] = some y3 := by simpa [Value.cells, cellsI64] using hel 3 _ rfl
    have q4 : DataW.trod enc Tryz.prog W 0 (fun _ => true) true m 3 [c4] = some y4 := by simpa [Value.cells, cellsI64] using hel 4 _ rfl
    obtain ⟨kind, e0, _, wk⟩ := DataW.trod_int Tryz.underlying3 q0
    obtain ⟨S, e1, f1, _⟩ := DataW.trod_string Tryz.underlying9 q1
    obtain ⟨T, e2, f2, _⟩ := DataW.trod_string Tryz.underlying9 q2
    obtain ⟨a, e3, _, wa⟩ := DataW.trod_int Tryz.underlying3 q3
    obtain ⟨b, e4, _, wb⟩ := DataW.trod_int Tryz.underlying3 q4
    simp only [List.cons.injEq, and_true] at e0 e1 e2 e3 e4
    subst e0 e1 e2 e3 e4
    have ba := bounds_i64 wa
    have bb := bounds_i64 wb
    rw [hx] at hb
    have hb' : Rows.uptoBulkAll [y0.1, y1.1, y2.1, y3.1, y4.1] + 1 ≤ 1048576 := by
      simpa only [Rows.uptoBulk, List.map_cons, List.map_nil] using hb
    have k1 : Rows.uptoBulk y1.1 = S.size + 1 := by rw [f1]; simp only [Rows.uptoBulk, Array.length_toList]; rfl
    have k2 : Rows.uptoBulk y2.1 = T.size + 1 := by rw [f2]; simp only [Rows.uptoBulk, Array.length_toList]; rfl
    simp only [Rows.uptoBulkAll, k1, k2] at hb'
    exact ⟨⟨kind, S, T, a, b⟩, rfl, by simp only; omega, by simp only; omega, by simp only; omega, by simp only; omega⟩

/-- THE SCRIPT, OPENED. -/
theorem open_script {H : Type} {enc : TypeId × Value → H} {W : World} {base : Nat} {v : Value} {d : DataW H} {p : List MemPlace}
    (hv : Value.okWide Tryz.prog W .any base 22 v) (h : DataW.Trod enc Tryz.prog W 0 (fun _ => true) true 22 v d p) (hb : Rows.uptoBulk d ≤ 1048576) :
    ∃ (a : Option Addr) (n cap : Nat), v = .slice a n cap ∧ n ≤ 2097152 ∧ (n ≤ cap ∧ cap ≤ maxLen) ∧ Script W a n smallOp := by
  obtain ⟨a0, n0, cap0, rfl⟩ := okWide_slice Tryz.underlying22 hv
  obtain ⟨fuel, hf⟩ := h
  rcases DataW.trod_slice Tryz.underlying22 hf with ⟨hc, _⟩ | ⟨a, len, cap, elems, rest, m, _, hc, hx, _, hl, hm, hlen, hel, _, _⟩
  · simp only [Value.cells, List.cons.injEq, Value.slice.injEq, and_true] at hc
    obtain ⟨rfl, rfl, rfl⟩ := hc
    exact ⟨none, 0, 0, rfl, by omega, ⟨Nat.le_refl _, Nat.zero_le _⟩, fun j hj => absurd hj (Nat.not_lt_zero _)⟩
  · simp only [Value.cells, List.cons.injEq, Value.slice.injEq, and_true] at hc
    obtain ⟨rfl, rfl, rfl⟩ := hc
    simp only [Prod.mk.injEq] at hx
    rw [hx.1] at hb
    have hb' : Rows.uptoBulkAll (elems.map (·.1)) ≤ 1048576 := by
      simp only [Rows.uptoBulk] at hb
      omega
    have hlen' := bulk_length (elems.map (·.1))
    rw [List.length_map] at hlen'
    refine ⟨some a, n0, cap0, rfl, by omega, ⟨hl, hm⟩, fun j hj => ?_⟩
    have hj' : j < elems.length := by omega
    have he := hel j hj
    rw [List.getElem?_eq_getElem hj', cellsOp] at he
    obtain ⟨cs, hcs, htr⟩ := Option.bind_eq_some_iff.1 he
    obtain ⟨o, ho, hok⟩ := open_op htr (Nat.le_trans (bulk_part (List.mem_map.2 ⟨_, List.getElem_mem hj', rfl⟩)) hb')
    subst ho
    have hbl := World.cells?_block hcs (by decide)
    obtain ⟨_, _, hcell⟩ := World.cells?_some hcs
    have h0 := hcell 0 (by decide)
    obtain ⟨g, off, spot⟩ := a
    have hspot : spot = none := by
      have he0 := hel 0 (by omega)
      rw [List.getElem?_eq_getElem (show 0 < elems.length by omega), cellsOp] at he0
      obtain ⟨cs0, hcs0, htr0⟩ := Option.bind_eq_some_iff.1 he0
      obtain ⟨o0, ho0, _⟩ := open_op htr0 (Nat.le_trans (bulk_part (List.mem_map.2 ⟨_, List.getElem_mem (show 0 < elems.length by omega), rfl⟩)) hb')
      subst ho0
      simpa [Addr.add] using World.cell?_spot ((World.cells?_some hcs0).2.2 0 (by decide))
    subst hspot
    have e1 := hcell 1 (by decide)
    have e2 := hcell 2 (by decide)
    have e3 := hcell 3 (by decide)
    have e4 := hcell 4 (by decide)
    simp only [add_plain] at h0 e1 e2 e3 e4 hbl
    exact ⟨g, off, o, rfl, hbl, hok, h0, e1, e2, e3, e4⟩
end Go.Proofs.YtfakfmmngflbfacGreatDoor
