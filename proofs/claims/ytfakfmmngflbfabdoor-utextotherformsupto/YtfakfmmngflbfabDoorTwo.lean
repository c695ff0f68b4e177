import Derived.Test.YtfakfmmngflbfabDoorLet
import Derived.Test.YtfakfmmngflbfabDoorFrame
import Derived.SizedLaws
namespace Go.Proofs.YtfakfmmngflbfabDoor
open Go.ChangeShapes Go.WideShapes Go.ChangeAt Go.RowKit Go.WideMaps Go.WideElems

/-- A slice of int32 that reads as zs. -/
def Ints (W : World) (o : Value) (zs : List Int) : Prop :=
  (∃ a cap, o = .slice a 0 cap ∧ zs = []) ∨
  ∃ b off len cap, o = .slice (some ⟨b, off, none⟩) len cap ∧ zs.length = len ∧ b < W.heap.size ∧ ∀ j, j < len → W.cell? ⟨b, off + j, none⟩ = some (.int .i32 (zs.getD j 0))

set_option maxHeartbeats 400000 in
theorem let_zero (a : Option Addr) (cap : Nat) (w : World) :
    Calls Tryd.prog 8 #[.slice a 0 cap] w fun e w' => e = .returned (.slice none 0 0) ∧ w' = w := by
  go_enter Tryd.func8, Tryd.ntmps8
  go_wp2_with fail
  refine wp_loop_rounds 1 ?_
  rw [rounds_succ]
  go_wp2_with fail
  go_ret
  exact ⟨rfl, rfl⟩

theorem Ints.mono {W W' : World} {o : Value} {zs : List Int} (h : Ints W o zs) (hb : Below W.heap.size W W') : Ints W' o zs := by
  rcases h with h | ⟨b, off, len, cap, rfl, hl, hbl, hc⟩
  · exact .inl h
  · exact .inr ⟨b, off, len, cap, rfl, hl, by have := hb.size; omega, fun j hj => (hb.cell (p := ⟨b, off + j, none⟩) hbl).trans (hc j hj)⟩

theorem let_ints (o : Value) (zs : List Int) (w : World) (ho : Ints w o zs) (hreach : zs.length * 4 ≤ 140737488351232) :
    Calls Tryd.prog 8 #[o] w fun e w' => ∃ a cap, e = .returned (.slice a zs.length cap) ∧ w'.ownsRow w.heap.size 21 1 (.slice a zs.length cap) zs.length (letV zs) ∧ Below w.heap.size w w' := by
  rcases ho with ⟨a, cap, rfl, rfl⟩ | ⟨b, off, len, cap, rfl, hl, hbl, hc⟩
  · refine (let_zero a cap w).mono ?_
    rintro e w' ⟨rfl, rfl⟩
    exact ⟨_, _, rfl, World.ownsRow_nil _ _ _ _, Below.refl _ _⟩
  · subst hl
    refine (let_any b off zs.length cap zs w hreach (Nat.le_refl _) hbl hc).mono ?_
    rintro e w' ⟨v, rfl, ho, hb⟩
    rw [List.take_length] at ho
    obtain ⟨a, cap', rfl⟩ : ∃ a cap', v = .slice a zs.length cap' := by
      rcases ho.2 with ⟨rfl, h0⟩ | ⟨g, cap', cur, rfl, _⟩
      · exact ⟨none, 0, by rw [h0]⟩
      · exact ⟨_, _, rfl⟩
    exact ⟨a, cap', rfl, ho, hb⟩

/-- 'string(l)' of what 'let' has made. -/
def txt (zs : List Int) : ByteArray := runesBytes (zs.map letR)
theorem conv_let {W : World} {B n : Nat} {v : Value} {zs : List Int} (h : W.ownsRow B 21 1 v n (letV zs)) : (convert 22 9 v).run Tryd.prog W = .ok (.string (txt zs)) W := by
  obtain ⟨hl, hr⟩ := h
  have hlen : zs.length = n := by simpa [letV] using hl
  rcases hr with ⟨rfl, rfl⟩ | ⟨g, cap, cur, rfl, _, hh, hn, _, hsz, htk⟩
  · obtain rfl := List.length_eq_zero_iff.1 hlen
    exact run_convert_runes_nil W _ _ _ 0 0 Tryd.underlying22 Tryd.underlying21 Tryd.underlying9
  · have := run_convert_runes (P := Tryd.prog) W 22 9 21 ⟨g, 0, none⟩ n cap (zs.map letR) (by simp; omega) Tryd.underlying22 Tryd.underlying21 Tryd.underlying9 (fun j hj => by
      rw [List.length_map] at hj
      rw [show (⟨g, 0, none⟩ : Addr).add j = ⟨g, j, none⟩ by cases j <;> simp [Addr.add]]
      have e1 : cur.toList[j]? = (letV zs)[j]? := by
        rw [← htk, List.getElem?_take, if_pos (by omega)]
      simp only [World.cell?, hh]
      simp only [Array.getElem?_toList] at e1
      rw [e1]
      simp [letV, List.getElem?_eq_getElem hj])
    rw [this, List.take_of_length_le (by simp; omega)]
    rfl

theorem cellsTwo : Tryd.prog.cellsOf 24 = 5 := by kernel_rfl
theorem cellsSl : Tryd.prog.cellsOf 22 = 1 := by kernel_rfl
theorem cellsInt : Tryd.prog.cellsOf 3 = 1 := by kernel_rfl
theorem cellsStr1 : Tryd.prog.cellsOf 9 = 1 := by kernel_rfl
theorem cellsU8 : Tryd.prog.cellsOf 5 = 1 := by kernel_rfl
theorem bytes32 : Tryd.prog.bytesOf 21 = 4 := by kernel_rfl
/-- One slice of the struct. -/
theorem open_sl {H : Type} {enc : TypeId × Value → H} {W : World} {fuel : Nat} {c : Value} {y : DataW H × List MemPlace}
    (h : DataW.trod enc Tryd.prog W 0 (fun _ => true) true fuel 22 [c] = some y) (hw : ∀ elems spare, y.1 = .slice elems spare → (elems.length + spare.length) * Tryd.prog.bytesOf 21 ≤ reachBytes) : ∃ zs, Ints W c zs ∧ zs.length * 4 ≤ 140737488351232 := by
  rcases open_ints Tryd.underlying22 Tryd.underlying21 cells32 h with ⟨hc, hx⟩ | ⟨a, len, cap, zs, hc, _, hl, hm, hz, hx, hcell, hwz⟩
  · simp at hc
    exact ⟨[], .inl ⟨_, _, hc, rfl⟩, by simp⟩
  · simp at hc hz
    subst hc
    have hlen : (zs.take len).length = len := by simp; omega
    refine ⟨zs.take len, ?_, ?_⟩
    · by_cases h0 : len = 0
      · subst h0
        exact .inl ⟨_, _, rfl, by simp⟩
      · obtain ⟨b, off, rfl, hcc⟩ := ints_at hcell (by omega)
        have hb : b < W.heap.size := by
          have h1 := hcc 0 (by omega)
          rcases Nat.lt_or_ge b W.heap.size with h2 | h2
          · exact h2
          · simp [World.cell?, Array.getElem?_eq_none h2] at h1
        refine .inr ⟨b, off, len, cap, rfl, hlen, hb, fun j hj => ?_⟩
        rw [hcc j (by omega)]
        simp [List.getD, hj]
    · have h1 := hw _ _ (by rw [hx])
      rw [bytes32] at h1
      simp only [lits, List.length_map] at h1
      have : reachBytes = 140737488351232 := rfl
      omega

theorem array5 {α : Type} {cs : Array α} (h : cs.size = 5) : ∃ c0 c1 c2 c3 c4, cs = #[c0, c1, c2, c3, c4] := by
  obtain ⟨l⟩ := cs
  match l, h with
  | [c0, c1, c2, c3, c4], _ => exact ⟨c0, c1, c2, c3, c4, rfl⟩

/-- THE STRUCT OF TWO LISTS, OPENED. -/
theorem open_two {H : Type} {enc : TypeId × Value → H} {W : World} {base : Nat} {v : Value} {d : DataW H} {p : List MemPlace}
    (hv : Value.okWide Tryd.prog W .any base 24 v) (h : DataW.Trod enc Tryd.prog W 0 (fun _ => true) true 24 v d p)
    (hz : (d.weights Tryd.prog 24).all (· ≤ reachBytes) = true) :
    ∃ (o n : Value) (zo zn : List Int) (k : Int) (raw : ByteArray) (b : Int), v = .agg #[o, n, .int .i64 k, .string raw, .int .u8 b] ∧ Ints W o zo ∧ Ints W n zn ∧
      zo.length * 4 ≤ 140737488351232 ∧ zn.length * 4 ≤ 140737488351232 ∧ raw.size ≤ 140737488351232 ∧ (-9223372036854775808 ≤ k ∧ k ≤ 9223372036854775807) ∧ 0 ≤ b ∧ b ≤ 255 := by
  obtain ⟨cs, rfl, hsz⟩ := okWide_struct Tryd.underlying24 hv
  obtain ⟨c0, c1, c2, c3, c4, rfl⟩ := array5 (hsz.trans cellsTwo)
  obtain ⟨fuel, hf⟩ := h
  obtain ⟨xs, m, _, hx, _, hlen, hel⟩ := DataW.trod_struct Tryd.underlying24 hf
  match xs, hlen, hx, hel with
  | [y0, y1, y2, y3, y4], _, hx, hel =>
    have q0 : DataW.trod enc Tryd.prog W 0 (fun _ => true) true m 22 [c0] = some y0 := by simpa [Value.cells, cellsSl] using hel 0 _ rfl
    have q1 : DataW.trod enc Tryd.prog W 0 (fun _ => true) true m 22 [c1] = some y1 := by simpa [Value.cells, cellsSl] using hel 1 _ rfl
    have q2 : DataW.trod enc Tryd.prog W 0 (fun _ => true) true m 3 [c2] = some y2 := by simpa [Value.cells, cellsInt] using hel 2 _ rfl
    have q3 : DataW.trod enc Tryd.prog W 0 (fun _ => true) true m 9 [c3] = some y3 := by simpa [Value.cells, cellsStr1] using hel 3 _ rfl
    have q4 : DataW.trod enc Tryd.prog W 0 (fun _ => true) true m 5 [c4] = some y4 := by simpa [Value.cells, cellsU8] using hel 4 _ rfl
    simp only [Prod.mk.injEq] at hx
    rw [hx.1] at hz
    have hz' : (DataW.weightsEach Tryd.prog [22, 22, 3, 9, 5] [y0.1, y1.1, y2.1, y3.1, y4.1]).all (· ≤ reachBytes) = true := by
      simpa only [DataW.weights, Tryd.underlying24, List.map_cons, List.map_nil] using hz
    obtain ⟨zo, ho, bo⟩ := open_sl q0 (fun elems spare e => sized_slice hz' (j := 0) rfl (by rw [← e]; rfl) Tryd.underlying22)
    obtain ⟨zn, hn, bn⟩ := open_sl q1 (fun elems spare e => sized_slice hz' (j := 1) rfl (by rw [← e]; rfl) Tryd.underlying22)
    obtain ⟨k, e2, _, wk⟩ := DataW.trod_int Tryd.underlying3 q2
    obtain ⟨raw, e3, f3, _⟩ := DataW.trod_string Tryd.underlying9 q3
    obtain ⟨b, e4, _, wb⟩ := DataW.trod_int Tryd.underlying5 q4
    simp only [List.cons.injEq, and_true] at e2 e3 e4
    subst e2 e3 e4
    have hr := sized_string hz' (j := 3) (bytes := raw.data.toList) rfl (by rw [f3]; rfl)
    have bk := bounds_i64 wk
    have bb := bounds_u8 wb
    refine ⟨c0, c1, zo, zn, k, raw, b, rfl, ho, hn, bo, bn, ?_, by omega, by omega, by omega⟩
    have : reachBytes = 140737488351232 := rfl
    rw [Array.length_toList] at hr
    have e5 : raw.size = raw.data.size := rfl
    omega
end Go.Proofs.YtfakfmmngflbfabDoor
