import Derived.Test.YtjnglghhcbdpmaaSpQ
import Derived.Test.YtjnglghhcbdpmaaSpMk
namespace Go.Proofs.Ytjnglghhcbdpmaa
open Go.ChangeShapes Go.WideShapes Go.ChangeAt Go.RowKit Go.WideMaps Go.WideElems Go.Lib
set_option maxRecDepth 100000

/-- A slice of int that reads as zs. -/
def RowI (W : World) (o : Value) (zs : List Int) : Prop :=
  (∃ a cap, o = .slice a 0 cap ∧ cap ≤ maxLen ∧ zs = []) ∨
  ∃ b off len cap, o = .slice (some ⟨b, off, none⟩) len cap ∧ (len ≤ cap ∧ cap ≤ maxLen) ∧ zs.length = len ∧ b < W.heap.size ∧ ∀ j, j < len → W.cell? ⟨b, off + j, none⟩ = some (.int .i64 (zs.getD j 0))
theorem RowI.below {W W' : World} {o : Value} {zs : List Int} (h : RowI W o zs) (hb : Below W.heap.size W W') : RowI W' o zs := by
  rcases h with h | ⟨b, off, len, cap, rfl, hc, hl, hbl, hcl⟩
  · exact .inl h
  · exact .inr ⟨b, off, len, cap, rfl, hc, hl, by have := hb.size; omega, fun j hj => (hb.cell (p := ⟨b, off + j, none⟩) hbl).trans (hcl j hj)⟩
theorem cellsIn : Try.prog.cellsOf 25 = 5 := by kernel_rfl
theorem cellsInts : Try.prog.cellsOf 23 = 1 := by kernel_rfl
theorem bytesInt : Try.prog.bytesOf 3 = 8 := by kernel_rfl
theorem open_sl {H : Type} {enc : TypeId × Value → H} {W : World} {fuel : Nat} {c : Value} {y : DataW H × List MemPlace}
    (h : DataW.trod enc Try.prog W 0 (fun _ => true) true fuel 23 [c] = some y) (hw : ∀ elems spare, y.1 = .slice elems spare → (elems.length + spare.length) * Try.prog.bytesOf 3 ≤ reachBytes) : ∃ zs, RowI W c zs ∧ zs.length * 8 ≤ 140737488351232 ∧ ∃ a n cap, c = .slice a n cap := by
  rcases open_ints Try.underlying23 Try.underlying3 cellsI64 h with ⟨hc, hx⟩ | ⟨a, len, cap, zs, hc, _, hl, hm, hz, hx, hcell, hwz⟩
  · simp at hc
    exact ⟨[], .inl ⟨_, _, hc, Nat.zero_le _, rfl⟩, by simp, _, _, _, hc⟩
  · simp at hc hz
    subst hc
    have hlen : (zs.take len).length = len := by simp; omega
    refine ⟨zs.take len, ?_, ?_, _, _, _, rfl⟩
    · by_cases h0 : len = 0
      · subst h0
        exact .inl ⟨_, _, rfl, hm, by simp⟩
      · obtain ⟨b, off, rfl, hcc⟩ := ints_at hcell (by omega)
        have hb : b < W.heap.size := by
          have h1 := hcc 0 (by omega)
          rcases Nat.lt_or_ge b W.heap.size with h2 | h2
          · exact h2
          · simp [World.cell?, Array.getElem?_eq_none h2] at h1
        refine .inr ⟨b, off, len, cap, rfl, ⟨hl, hm⟩, hlen, hb, fun j hj => ?_⟩
        rw [hcc j (by omega)]
        simp [List.getD, hj]
    · have h1 := hw _ _ (by rw [hx])
      rw [bytesInt] at h1
      simp only [lits, List.length_map] at h1
      have : reachBytes = 140737488351232 := rfl
      omega
theorem array5 {α : Type} {cs : Array α} (h : cs.size = 5) : ∃ c0 c1 c2 c3 c4, cs = #[c0, c1, c2, c3, c4] := by
  obtain ⟨l⟩ := cs
  match l, h with
  | [c0, c1, c2, c3, c4], _ => exact ⟨c0, c1, c2, c3, c4, rfl⟩
/-- What the statement is handed. -/
structure InR (W : World) (v : Value) (a : Option Addr) (na ca : Nat) (la : List (Int × Int)) (b : Option Addr) (nb cb : Nat) (lb : List (Int × Int)) (pa : Option Addr) (np cp : Nat) (zs : List Int) (at_ n : Int) : Prop where
  val : v = .agg #[.slice a na ca, .slice b nb cb, .slice pa np cp, .int .i64 at_, .int .i64 n]
  ra : Rng W a na ca la
  rb : Rng W b nb cb lb
  rp : RowI W (.slice pa np cp) zs
  sa : na * 16 ≤ 140737488351232
  sb : nb * 16 ≤ 140737488351232
  sp : zs.length * 8 ≤ 140737488351232
  ba : -9223372036854775808 ≤ at_ ∧ at_ ≤ 9223372036854775807
  bn : -9223372036854775808 ≤ n ∧ n ≤ 9223372036854775807
theorem open_in {H : Type} {enc : TypeId × Value → H} {W : World} {base : Nat} {v : Value} {d : DataW H} {p : List MemPlace}
    (hv : Value.okWide Try.prog W .any base 25 v) (h : DataW.Trod enc Try.prog W 0 (fun _ => true) true 25 v d p)
    (hz : (d.weights Try.prog 25).all (· ≤ reachBytes) = true) : ∃ a na ca la b nb cb lb pa np cp zs at_ n, InR W v a na ca la b nb cb lb pa np cp zs at_ n := by
  obtain ⟨cs, rfl, hsz⟩ := okWide_struct Try.underlying25 hv
  obtain ⟨c0, c1, c2, c3, c4, rfl⟩ := array5 (hsz.trans cellsIn)
  obtain ⟨fuel, hf⟩ := h
  obtain ⟨xs, m, _, hx, _, hlen, hel⟩ := DataW.trod_struct Try.underlying25 hf
  match xs, hlen, hx, hel with
  | [y0, y1, y2, y3, y4], _, hx, hel =>
    have q0 : DataW.trod enc Try.prog W 0 (fun _ => true) true m 22 [c0] = some y0 := by simpa [Value.cells, cellsRanges] using hel 0 _ rfl
    have q1 : DataW.trod enc Try.prog W 0 (fun _ => true) true m 22 [c1] = some y1 := by simpa [Value.cells, cellsRanges] using hel 1 _ rfl
    have q2 : DataW.trod enc Try.prog W 0 (fun _ => true) true m 23 [c2] = some y2 := by simpa [Value.cells, cellsInts] using hel 2 _ rfl
    have q3 : DataW.trod enc Try.prog W 0 (fun _ => true) true m 3 [c3] = some y3 := by simpa [Value.cells, cellsI64] using hel 3 _ rfl
    have q4 : DataW.trod enc Try.prog W 0 (fun _ => true) true m 3 [c4] = some y4 := by simpa [Value.cells, cellsI64] using hel 4 _ rfl
    simp only [Prod.mk.injEq] at hx
    rw [hx.1] at hz
    have hz' : (DataW.weightsEach Try.prog [22, 22, 23, 3, 3] [y0.1, y1.1, y2.1, y3.1, y4.1]).all (· ≤ reachBytes) = true := by
      simpa only [DataW.weights, Try.underlying25, List.map_cons, List.map_nil] using hz
    obtain ⟨a, na, ca, la, e0, ra, sa⟩ := open_rng q0 (fun elems spare e => sized_slice hz' (j := 0) rfl (by rw [← e]; rfl) Try.underlying22)
    obtain ⟨b, nb, cb, lb, e1, rb, sb⟩ := open_rng q1 (fun elems spare e => sized_slice hz' (j := 1) rfl (by rw [← e]; rfl) Try.underlying22)
    obtain ⟨zs, rp, sp, pa, np, cp, e2⟩ := open_sl q2 (fun elems spare e => sized_slice hz' (j := 2) rfl (by rw [← e]; rfl) Try.underlying23)
    obtain ⟨at_, e3, _, wa⟩ := DataW.trod_int Try.underlying3 q3
    obtain ⟨n, e4, _, wn⟩ := DataW.trod_int Try.underlying3 q4
    simp only [List.cons.injEq, and_true] at e3 e4
    subst e0 e1 e2 e3 e4
    have ba := bounds_i64 wa
    have bn := bounds_i64 wn
    exact ⟨a, na, ca, la, b, nb, cb, lb, pa, np, cp, zs, at_, n, rfl, ra, rb, rp, sa, sb, sp, by omega, by omega⟩

/-- The parts that 'right' leaves. -/
def RightP (w : World) (e : Ending) (w' : World) : Prop := ∃ o no co p, e = .returned (.slice o no co) ∧ Own w' w.heap.size (.slice o no co) p ∧ Below w.heap.size w w' ∧ Hid (Parts p) ∧ (no : Int) ≤ 32768
set_option maxHeartbeats 2000000 in
theorem right_any {w : World} {a : Option Addr} {n cap : Nat} {l : List (Int × Int)} (h : Rng w a n cap l) :
    Calls Try.prog 6 #[.slice a n cap] w fun e w' => RightP w e w' := by
  have hlen := h.len
  have hnb : n ≤ 9223372036854775807 := by have := h.room; simp only [maxLen] at this; omega
  go_enter Try.func6, Try.ntmps6
  go_wp2_with fail
  go_loopw [3, 4] (fun vo i w' => ∃ (j : Nat) (o : Option Addr) (no co : Nat) (p : List (Int × Int)), j ≤ n ∧ i = .int .i64 j ∧ vo = .slice o no co ∧ (no : Int) ≤ 32768 ∧ Hid (Parts p) ∧ Own w' w.heap.size (.slice o no co) p ∧ Below w.heap.size w w') (fun _ i _ => n - (RowKit.intOf i).toNat)
  case atStart => exact ⟨0, none, 0, 0, [], Nat.zero_le _, rfl, rfl, by omega, (fun r hr => by cases hr), own_nil _ _, Below.refl _ _⟩
  case round =>
    obtain ⟨j, o, no, co, p, hjn, rfl, rfl, hno, HP, ho, hb⟩ := hrel
    have hsz := hb.size
    by_cases hj : j < n
    · by_cases hf : (no : Int) < 32768
      · obtain ⟨g, off, rfl, hg, hc, hd⟩ := h.cells j hj
        have c0 := (hb.cell (p := ⟨g, off + j * 2, none⟩) hg).trans hc
        have c1 := (hb.cell (p := ⟨g, off + j * 2 + 1, none⟩) hg).trans hd
        clear hc hd
        generalize (l.getD j (0, 0)).1 = x at *
        generalize (l.getD j (0, 0)).2 = y at *
        by_cases hp : 0 ≤ x ∧ x ≤ y ∧ y ≤ 1048576
        · have hB0 : Below w.heap.size w (wr.alloc (.cells #[.int .i64 x, .int .i64 y] 39)) := hb.alloc (by omega) _
          obtain ⟨a', cap', w', hr, ho', hb', _⟩ := append_one (ho.below ((Below.refl _ _).alloc (Nat.le_refl _) (.cells #[.int .i64 x, .int .i64 y] 39))) hB0.size x y (by omega) 22
          rw [World.size_alloc] at hr
          have HP2 : Hid (Parts (p ++ [(x, y)])) := fun r hr => by
            rcases List.mem_append.1 hr with h' | h'
            · exact HP.out r h'
            · simp only [List.mem_singleton] at h'; subst h'; exact hp
          have hB2 := hB0.trans hb'
          obtain ⟨p1, p2, p3⟩ := hp
          clear HP hb'
          go_wp2_with (at_builtin; refine wpList_append_hr rfl _ _ 22 rfl _ _ rfl rfl hr ?_)
          go_roundw
          case rel => exact ⟨j + 1, a', no + 1, cap', _, by omega, by go_num, rfl, by omega, HP2, ho', hB2⟩
          case measure => simp [RowKit.intOf]; omega
        · have hcs : x < 0 ∨ (0 ≤ x ∧ y < x) ∨ (0 ≤ x ∧ x ≤ y ∧ 1048576 < y) := by omega
          clear hp
          rcases hcs with k1 | ⟨k1, k2⟩ | ⟨k1, k2, k3⟩
          · have d1 : decide (0 ≤ x) = false := decide_eq_false (by omega)
            clear k1
            go_wp2_with fail
            go_roundw
            case rel => exact ⟨j + 1, o, no, co, p, by omega, by go_num, rfl, hno, HP, ho.below ((Below.refl _ _).alloc (Nat.le_refl _) _), hb.alloc (by omega) _⟩
            case measure => simp [RowKit.intOf]; omega
          · have d1 : decide (0 ≤ x) = true := decide_eq_true k1
            have d2 : decide (x ≤ y) = false := decide_eq_false (by omega)
            clear k1 k2
            go_wp2_with fail
            go_roundw
            case rel => exact ⟨j + 1, o, no, co, p, by omega, by go_num, rfl, hno, HP, ho.below ((Below.refl _ _).alloc (Nat.le_refl _) _), hb.alloc (by omega) _⟩
            case measure => simp [RowKit.intOf]; omega
          · have d1 : decide (0 ≤ x) = true := decide_eq_true k1
            have d2 : decide (x ≤ y) = true := decide_eq_true k2
            have d3 : decide (y ≤ 1048576) = false := decide_eq_false (by omega)
            clear k1 k2 k3
            go_wp2_with fail
            go_roundw
            case rel => exact ⟨j + 1, o, no, co, p, by omega, by go_num, rfl, hno, HP, ho.below ((Below.refl _ _).alloc (Nat.le_refl _) _), hb.alloc (by omega) _⟩
            case measure => simp [RowKit.intOf]; omega
      · go_wp2_with fail
        go_ret
        exact ⟨o, no, co, p, rfl, ho, hb, HP, hno⟩
    · go_wp2_with fail
      go_ret
      exact ⟨o, no, co, p, rfl, ho, hb, HP, hno⟩
end Go.Proofs.Ytjnglghhcbdpmaa
