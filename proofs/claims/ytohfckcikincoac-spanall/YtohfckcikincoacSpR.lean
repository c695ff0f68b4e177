import Derived.Test.YtohfckcikincoacSpQ
import Derived.Test.YtohfckcikincoacSpO
namespace Go.Proofs.Ytohfckcikincoac
open Go.ChangeShapes Go.WideShapes Go.ChangeAt Go.RowKit Go.WideMaps Go.WideElems Go.Lib
set_option maxRecDepth 100000

/-- One call of a script. -/
structure OpR where
  kind : Int
  a : Option Addr
  na : Nat
  ca : Nat
  la : List (Int × Int)
  b : Option Addr
  nb : Nat
  cb : Nat
  lb : List (Int × Int)
  n : Int
  m : Int
def OpR.val (o : OpR) : Value := .agg #[.int .i64 o.kind, .slice o.a o.na o.ca, .slice o.b o.nb o.cb, .int .i64 o.n, .int .i64 o.m]
structure OpOk (w : World) (o : OpR) : Prop where
  ra : Rng w o.a o.na o.ca o.la
  rb : Rng w o.b o.nb o.cb o.lb
  sa : o.na * 16 ≤ 140737488351232
  sb : o.nb * 16 ≤ 140737488351232
  bn : -9223372036854775808 ≤ o.n ∧ o.n ≤ 9223372036854775807
  bm : -9223372036854775808 ≤ o.m ∧ o.m ≤ 9223372036854775807
theorem OpOk.below {w w' : World} {o : OpR} (h : OpOk w o) (hb : Below w.heap.size w w') : OpOk w' o := ⟨h.ra.below hb, h.rb.below hb, h.sa, h.sb, h.bn, h.bm⟩
/-- The script in memory. -/
def Script (w : World) (a : Option Addr) (n : Nat) : Prop :=
  ∀ j, j < n → ∃ g off o, a = some ⟨g, off, none⟩ ∧ g < w.heap.size ∧ OpOk w o ∧ w.cell? ⟨g, off + j * 5, none⟩ = some (.int .i64 o.kind) ∧ w.cell? ⟨g, off + j * 5 + 1, none⟩ = some (.slice o.a o.na o.ca) ∧
    w.cell? ⟨g, off + j * 5 + 2, none⟩ = some (.slice o.b o.nb o.cb) ∧ w.cell? ⟨g, off + j * 5 + 3, none⟩ = some (.int .i64 o.n) ∧ w.cell? ⟨g, off + j * 5 + 4, none⟩ = some (.int .i64 o.m)

theorem Script.below {w w' : World} {a : Option Addr} {n : Nat} (h : Script w a n) (hb : Below w.heap.size w w') : Script w' a n := fun j hj => by
  obtain ⟨g, off, o, ha, hg, hok, h0, h1, h2, h3, h4⟩ := h j hj
  exact ⟨g, off, o, ha, by have := hb.size; omega, hok.below hb, (hb.cell (p := ⟨g, off + j * 5, none⟩) hg).trans h0, (hb.cell (p := ⟨g, off + j * 5 + 1, none⟩) hg).trans h1, (hb.cell (p := ⟨g, off + j * 5 + 2, none⟩) hg).trans h2, (hb.cell (p := ⟨g, off + j * 5 + 3, none⟩) hg).trans h3, (hb.cell (p := ⟨g, off + j * 5 + 4, none⟩) hg).trans h4⟩
theorem cellsOp : Try.prog.cellsOf 38 = 5 := by kernel_rfl
theorem open_op {H : Type} {enc : TypeId × Value → H} {W : World} {fuel : Nat} {cs : List Value} {x : DataW H × List MemPlace}
    (h : DataW.trod enc Try.prog W 0 (fun _ => true) true fuel 38 cs = some x) (hz : (x.1.weights Try.prog 38).all (· ≤ reachBytes) = true) :
    ∃ o : OpR, cs = [.int .i64 o.kind, .slice o.a o.na o.ca, .slice o.b o.nb o.cb, .int .i64 o.n, .int .i64 o.m] ∧ OpOk W o := by
  obtain ⟨xs, m, _, hx, hcl, hlen, hel⟩ := DataW.trod_struct Try.underlying38 h
  rw [cellsOp] at hcl
  match cs, hcl, xs, hlen, hx, hel with
  | [c0, c1, c2, c3, c4], _, [y0, y1, y2, y3, y4], _, hx, hel =>
    have q0 : DataW.trod enc Try.prog W 0 (fun _ => true) true m 3 [c0] = some y0 := by simpa [Value.cells, cellsI64] using hel 0 _ rfl
    have q1 : DataW.trod enc Try.prog W 0 (fun _ => true) true m 31 [c1] = some y1 := by simpa [Value.cells, cellsRanges] using hel 1 _ rfl
    have q2 : DataW.trod enc Try.prog W 0 (fun _ => true) true m 31 [c2] = some y2 := by simpa [Value.cells, cellsRanges] using hel 2 _ rfl
    have q3 : DataW.trod enc Try.prog W 0 (fun _ => true) true m 3 [c3] = some y3 := by simpa [Value.cells, cellsI64] using hel 3 _ rfl
    have q4 : DataW.trod enc Try.prog W 0 (fun _ => true) true m 3 [c4] = some y4 := by simpa [Value.cells, cellsI64] using hel 4 _ rfl
    rw [hx] at hz
    have hz' : (DataW.weightsEach Try.prog [3, 31, 31, 3, 3] [y0.1, y1.1, y2.1, y3.1, y4.1]).all (· ≤ reachBytes) = true := by
      simpa only [DataW.weights, Try.underlying38, List.map_cons, List.map_nil] using hz
    obtain ⟨kind, e0, _, wk⟩ := DataW.trod_int Try.underlying3 q0
    obtain ⟨a, na, ca, la, e1, ra, sa⟩ := open_rng q1 (fun elems spare e => sized_slice hz' (j := 1) rfl (by rw [← e]; rfl) Try.underlying31)
    obtain ⟨b, nb, cb, lb, e2, rb, sb⟩ := open_rng q2 (fun elems spare e => sized_slice hz' (j := 2) rfl (by rw [← e]; rfl) Try.underlying31)
    obtain ⟨n, e3, _, wn⟩ := DataW.trod_int Try.underlying3 q3
    obtain ⟨k, e4, _, wm⟩ := DataW.trod_int Try.underlying3 q4
    simp only [List.cons.injEq, and_true] at e0 e3 e4
    subst e0 e1 e2 e3 e4
    have bn := bounds_i64 wn
    have bm := bounds_i64 wm
    exact ⟨⟨kind, a, na, ca, la, b, nb, cb, lb, n, k⟩, rfl, ra, rb, sa, sb, by simp only; omega, by simp only; omega⟩

theorem weights_part {H : Type} {P : Program} {e : TypeId} {d : DataW H} {l : List (DataW H)} (h : d ∈ l) (hz : (DataW.weightsAll P e l).all (· ≤ reachBytes) = true) : (d.weights P e).all (· ≤ reachBytes) = true := by
  induction l with
  | nil => cases h
  | cons x r ih =>
    simp only [DataW.weightsAll, List.all_append, Bool.and_eq_true] at hz
    rcases List.mem_cons.1 h with rfl | h
    · exact hz.1
    · exact ih h hz.2
/-- THE SCRIPT, OPENED. -/
theorem open_script {H : Type} {enc : TypeId × Value → H} {W : World} {base : Nat} {v : Value} {d : DataW H} {p : List MemPlace}
    (hv : Value.okWide Try.prog W .any base 22 v) (h : DataW.Trod enc Try.prog W 0 (fun _ => true) true 22 v d p) (hz : (d.weights Try.prog 22).all (· ≤ reachBytes) = true) :
    ∃ (a : Option Addr) (n cap : Nat), v = .slice a n cap ∧ (n ≤ cap ∧ cap ≤ maxLen) ∧ Script W a n := by
  obtain ⟨a0, n0, cap0, rfl⟩ := okWide_slice Try.underlying22 hv
  obtain ⟨fuel, hf⟩ := h
  rcases DataW.trod_slice Try.underlying22 hf with ⟨hc, _⟩ | ⟨a, len, cap, elems, rest, m, _, hc, hx, _, hl, hm, hlen, hel, _, _⟩
  · simp only [Value.cells, List.cons.injEq, Value.slice.injEq, and_true] at hc
    obtain ⟨rfl, rfl, rfl⟩ := hc
    exact ⟨none, 0, 0, rfl, ⟨Nat.le_refl _, Nat.zero_le _⟩, fun j hj => absurd hj (Nat.not_lt_zero _)⟩
  · simp only [Value.cells, List.cons.injEq, Value.slice.injEq, and_true] at hc
    obtain ⟨rfl, rfl, rfl⟩ := hc
    simp only [Prod.mk.injEq] at hx
    rw [hx.1] at hz
    have hz1 : (DataW.weightsAll Try.prog 38 (elems.map (·.1))).all (· ≤ reachBytes) = true := by
      simp only [DataW.weights, Try.underlying22, List.all_cons, List.all_append, Bool.and_eq_true] at hz
      exact hz.2.1
    refine ⟨some a, n0, cap0, rfl, ⟨hl, hm⟩, fun j hj => ?_⟩
    have hj' : j < elems.length := by omega
    have he := hel j hj
    rw [List.getElem?_eq_getElem hj', cellsOp] at he
    obtain ⟨cs, hcs, htr⟩ := Option.bind_eq_some_iff.1 he
    obtain ⟨o, ho, hok⟩ := open_op htr (weights_part (List.mem_map.2 ⟨_, List.getElem_mem hj', rfl⟩) hz1)
    subst ho
    have hbl := World.cells?_block hcs (by decide)
    obtain ⟨_, _, hcell⟩ := World.cells?_some hcs
    have h0 := hcell 0 (by decide)
    obtain ⟨g, off, spot⟩ := a
    have hspot : spot = none := by
      have he0 := hel 0 (by omega)
      rw [List.getElem?_eq_getElem (show 0 < elems.length by omega), cellsOp] at he0
      obtain ⟨cs0, hcs0, htr0⟩ := Option.bind_eq_some_iff.1 he0
      obtain ⟨o0, ho0, _⟩ := open_op htr0 (weights_part (List.mem_map.2 ⟨_, List.getElem_mem (show 0 < elems.length by omega), rfl⟩) hz1)
      subst ho0
      simpa [Addr.add] using World.cell?_spot ((World.cells?_some hcs0).2.2 0 (by decide))
    subst hspot
    have e1 := hcell 1 (by decide)
    have e2 := hcell 2 (by decide)
    have e3 := hcell 3 (by decide)
    have e4 := hcell 4 (by decide)
    simp only [addr_add] at h0 e1 e2 e3 e4 hbl
    exact ⟨g, off, o, rfl, hbl, hok, h0, e1, e2, e3, e4⟩

set_option maxHeartbeats 2000000 in
theorem upTo_any (lo hi : Int) (a : Option Addr) (n cap : Nat) (hcap : n ≤ cap ∧ cap ≤ maxLen) (w : World) (hsc : Script w a n)
    (HPL : ∀ o W, OpOk W o → lo ≤ o.kind → o.kind ≤ hi → Calls Try.prog 11 #[o.val] W fun e W' => e = .returned (.bool true) ∧ Below W.heap.size W W') :
    Calls Try.prog 5 #[.slice a n cap, .int .i64 lo, .int .i64 hi] w fun e w' => e = .returned (.bool true) ∧ Below w.heap.size w w' := by
  have hnb : n ≤ 9223372036854775807 := by have := hcap; simp only [maxLen] at this; omega
  have HP : Hid (∀ o W, OpOk W o → lo ≤ o.kind → o.kind ≤ hi → Calls Try.prog 11 #[o.val] W fun e W' => e = .returned (.bool true) ∧ Below W.heap.size W W') := HPL
  clear HPL
  go_enter Try.func5, Try.ntmps5
  go_wp2_with fail
  go_loopw [7] (fun i w' => ∃ j : Nat, j ≤ n ∧ i = .int .i64 j ∧ Below w.heap.size w w') (fun i _ => n - (RowKit.intOf i).toNat)
  case atStart => exact ⟨0, Nat.zero_le _, rfl, Below.refl _ _⟩
  case round =>
    obtain ⟨j, hjn, rfl, hb⟩ := hrel
    have hsz := hb.size
    by_cases hj : j < n
    · obtain ⟨g, off, o, rfl, hg, hok, hc0, hc1, hc2, hc3, hc4⟩ := hsc j hj
      have d0 := (hb.cell (p := ⟨g, off + j * 5, none⟩) hg).trans hc0
      have d1 := (hb.cell (p := ⟨g, off + j * 5 + 1, none⟩) hg).trans hc1
      have d2 := (hb.cell (p := ⟨g, off + j * 5 + 2, none⟩) hg).trans hc2
      have d3 := (hb.cell (p := ⟨g, off + j * 5 + 3, none⟩) hg).trans hc3
      have d4 := (hb.cell (p := ⟨g, off + j * 5 + 4, none⟩) hg).trans hc4
      clear hc0 hc1 hc2 hc3 hc4
      have hok' := hok.below hb
      by_cases hlo : lo ≤ o.kind
      · by_cases hhi : o.kind ≤ hi
        · have HPL : Hid (∀ W, OpOk W o → Calls Try.prog 11 #[o.val] W fun e W' => e = .returned (.bool true) ∧ Below W.heap.size W W') := fun W h => HP.out o W h hlo hhi
          have HOK : Hid (OpOk wr o) := hok'
          unfold OpR.val at HPL
          clear hok hok'
          obtain ⟨kind, oa, ona, oca, ola, ob, onb, ocb, olb, on, om⟩ := o
          simp only at *
          go_wp2_with fail
          refine (HPL.out _ (HOK.out.below ((Below.refl _ _).alloc (Nat.le_refl _) _))).mono ?_
          rintro e w2 ⟨rfl, hb2⟩
          have hB2 : Below w.heap.size w w2 := (hb.alloc (by omega) _).trans (hb2.mono (by simp; omega))
          clear hb2 d0 d1 d2 d3 d4
          go_wp2_with fail
          go_roundw
          case rel => exact ⟨j + 1, by omega, by go_num, hB2⟩
          case measure => simp [RowKit.intOf]; omega
        · clear hok hok'
          obtain ⟨kind, oa, ona, oca, ola, ob, onb, ocb, olb, on, om⟩ := o
          simp only at *
          go_wp2_with fail
          go_roundw
          case rel => exact ⟨j + 1, by omega, by go_num, hb.alloc (by omega) _⟩
          case measure => simp [RowKit.intOf]; omega
      · clear hok hok'
        obtain ⟨kind, oa, ona, oca, ola, ob, onb, ocb, olb, on, om⟩ := o
        simp only at *
        go_wp2_with fail
        go_roundw
        case rel => exact ⟨j + 1, by omega, by go_num, hb.alloc (by omega) _⟩
        case measure => simp [RowKit.intOf]; omega
    · go_wp2_with fail
      go_ret
      exact ⟨rfl, hb⟩
end Go.Proofs.Ytohfckcikincoac
