import Derived.Test.YtfakfmmngflbfabDoorTwo
import Derived.Test.YtfakfmmngflbfabDoorRows
namespace Go.Proofs.YtfakfmmngflbfabDoor
open Go.ChangeShapes Go.WideShapes Go.ChangeAt Go.RowKit Go.WideMaps Go.WideElems
set_option maxRecDepth 100000

theorem bulk_posV {H : Type} (d : DataW H) : 1 ≤ Rows.uptoBulk d := by
  cases d with
  | lit l => cases l <;> simp [Rows.uptoBulk]
  | nil => simp [Rows.uptoBulk]
  | ptr d => simp [Rows.uptoBulk]
  | slice elems spare => simp [Rows.uptoBulk]
  | agg parts => simp [Rows.uptoBulk]
  | iface t d => simp [Rows.uptoBulk]
  | map entries => simp [Rows.uptoBulk]
  | held h => simp [Rows.uptoBulk]
theorem bulk_mostV {H : Type} (l : List (DataW H)) : l.length ≤ Rows.uptoBulkAll l := by
  induction l with
  | nil => simp
  | cons x r ih => have := bulk_posV x; simp only [Rows.uptoBulkAll, List.length_cons]; omega
/-- One slice of the struct. -/
theorem open_slV {H : Type} {enc : TypeId × Value → H} {W : World} {fuel : Nat} {c : Value} {y : DataW H × List MemPlace}
    (h : DataW.trod enc Tryd.prog W 0 (fun _ => true) true fuel 22 [c] = some y) (hw : ∀ elems spare, y.1 = .slice elems spare → (elems.length + spare.length) * Tryd.prog.bytesOf 21 ≤ reachBytes) : ∃ zs, Ints W c zs ∧ zs.length * 4 ≤ 140737488351232 ∧ zs.length ≤ Rows.uptoBulk y.1 := by
  rcases open_ints Tryd.underlying22 Tryd.underlying21 cells32 h with ⟨hc, hx⟩ | ⟨a, len, cap, zs, hc, _, hl, hm, hz, hx, hcell, hwz⟩
  · simp at hc
    exact ⟨[], .inl ⟨_, _, hc, rfl⟩, by simp, by simp⟩
  · simp at hc hz
    subst hc
    have hlen : (zs.take len).length = len := by simp; omega
    refine ⟨zs.take len, ?_, ?_, ?_⟩
    · by_cases h0 : len = 0
      · subst h0
        exact .inl ⟨_, _, rfl, by simp⟩
      · obtain ⟨b, off, rfl, hcc⟩ := ints_at hcell (by omega)
        have hb : b < W.heap.size := by
          have h1 := hcc 0 (by omega)
          rcases Nat.lt_or_ge b W.heap.size with h2 | h2
          · exact h2
          · simp [World.cell?, Array.getElem?_eq_none h2] at h1
        refine .inr ⟨b, off, len, cap, rfl, hlen, hb, fun j hj => ?_⟩
        rw [hcc j (by omega)]
        simp [List.getD, hj]
    · have h1 := hw _ _ (by rw [hx])
      rw [bytes32] at h1
      simp only [lits, List.length_map] at h1
      have : reachBytes = 140737488351232 := rfl
      omega
    · rw [hx]
      simp only [Rows.uptoBulk]
      have h1 := bulk_mostV (lits (H := H) .i32 (zs.take len))
      simp only [lits, List.length_map] at h1 ⊢
      omega
/-- THE STRUCT OF TWO LISTS, OPENED. -/
theorem open_twoV {H : Type} {enc : TypeId × Value → H} {W : World} {base : Nat} {v : Value} {d : DataW H} {p : List MemPlace}
    (hv : Value.okWide Tryd.prog W .any base 24 v) (h : DataW.Trod enc Tryd.prog W 0 (fun _ => true) true 24 v d p)
    (hz : (d.weights Tryd.prog 24).all (· ≤ reachBytes) = true) (hbk : Rows.uptoBulk d ≤ 1048576) :
    ∃ (o n : Value) (zo zn : List Int) (k : Int) (raw : ByteArray) (b : Int), v = .agg #[o, n, .int .i64 k, .string raw, .int .u8 b] ∧ Ints W o zo ∧ Ints W n zn ∧
      raw.size ≤ 1048576 ∧ 0 ≤ b ∧ b ≤ 255 := by
  obtain ⟨cs, rfl, hsz⟩ := okWide_struct Tryd.underlying24 hv
  obtain ⟨c0, c1, c2, c3, c4, rfl⟩ := array5 (hsz.trans cellsTwo)
  obtain ⟨fuel, hf⟩ := h
  obtain ⟨xs, m, _, hx, _, hlen, hel⟩ := DataW.trod_struct Tryd.underlying24 hf
  match xs, hlen, hx, hel with
  | [y0, y1, y2, y3, y4], _, hx, hel =>
    have q0 : DataW.trod enc Tryd.prog W 0 (fun _ => true) true m 22 [c0] = some y0 := by simpa [Value.cells, cellsSl] using hel 0 _ rfl
    have q1 : DataW.trod enc Tryd.prog W 0 (fun _ => true) true m 22 [c1] = some y1 := by simpa [Value.cells, cellsSl] using hel 1 _ rfl
    have q2 : DataW.trod enc Tryd.prog W 0 (fun _ => true) true m 3 [c2] = some y2 := by simpa [Value.cells, cellsInt] using hel 2 _ rfl
    have q3 : DataW.trod enc Tryd.prog W 0 (fun _ => true) true m 9 [c3] = some y3 := by simpa [Value.cells, cellsStr1] using hel 3 _ rfl
    have q4 : DataW.trod enc Tryd.prog W 0 (fun _ => true) true m 5 [c4] = some y4 := by simpa [Value.cells, cellsU8] using hel 4 _ rfl
    simp only [Prod.mk.injEq] at hx
    rw [hx.1] at hz hbk
    have hbk2 : Rows.uptoBulkAll [y0.1, y1.1, y2.1, y3.1, y4.1] + 1 ≤ 1048576 := by
      simpa only [Rows.uptoBulk, List.map_cons, List.map_nil] using hbk
    simp only [Rows.uptoBulkAll] at hbk2
    have hz' : (DataW.weightsEach Tryd.prog [22, 22, 3, 9, 5] [y0.1, y1.1, y2.1, y3.1, y4.1]).all (· ≤ reachBytes) = true := by
      simpa only [DataW.weights, Tryd.underlying24, List.map_cons, List.map_nil] using hz
    obtain ⟨zo, ho, bo, so⟩ := open_slV q0 (fun elems spare e => sized_slice hz' (j := 0) rfl (by rw [← e]; rfl) Tryd.underlying22)
    obtain ⟨zn, hn, bn, sn⟩ := open_slV q1 (fun elems spare e => sized_slice hz' (j := 1) rfl (by rw [← e]; rfl) Tryd.underlying22)
    obtain ⟨k, e2, _, wk⟩ := DataW.trod_int Tryd.underlying3 q2
    obtain ⟨raw, e3, f3, _⟩ := DataW.trod_string Tryd.underlying9 q3
    obtain ⟨b, e4, _, wb⟩ := DataW.trod_int Tryd.underlying5 q4
    simp only [List.cons.injEq, and_true] at e2 e3 e4
    subst e2 e3 e4
    have k3 : Rows.uptoBulk y3.1 = raw.size + 1 := by rw [f3]; simp only [Rows.uptoBulk, Array.length_toList]; rfl
    have bb := bounds_u8 wb
    exact ⟨c0, c1, zo, zn, k, raw, b, rfl, ho, hn, by omega, by omega, by omega⟩
end Go.Proofs.YtfakfmmngflbfabDoor
