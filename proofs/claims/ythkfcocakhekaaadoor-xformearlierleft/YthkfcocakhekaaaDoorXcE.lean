import Derived.Test.YthkfcocakhekaaaDoorXcD
import Derived.BigQuiet
namespace Go.Proofs.YthkfcocakhekaaaDoor
open Go.RowKit Go.Lib
set_option maxRecDepth 100000
/-- The row with by on the counters of its cells lo to q - 1. -/
def upTo (R : List CellW) (lo q : Nat) (by_ : Int) : List CellW := R.mapIdx fun j c => if lo ≤ j ∧ j < q then (c.1, c.2.1, c.2.2 + by_) else c
theorem upTo_len (R : List CellW) (lo q : Nat) (by_ : Int) : (upTo R lo q by_).length = R.length := by simp [upTo]
theorem upTo_get (R : List CellW) (lo q : Nat) (by_ : Int) (j : Nat) : (upTo R lo q by_)[j]? = R[j]?.map fun c => if lo ≤ j ∧ j < q then (c.1, c.2.1, c.2.2 + by_) else c := by simp [upTo]
theorem upTo_self (R : List CellW) (lo : Nat) (by_ : Int) : upTo R lo lo by_ = R := by
  apply List.ext_getElem?
  intro j
  rw [upTo_get]
  cases R[j]? with
  | none => rfl
  | some c => simp only [Option.map_some]; rw [if_neg (by omega)]
theorem upTo_succ (R : List CellW) (lo q : Nat) (by_ : Int) (h : lo ≤ q) (c : CellW) (hc : R[q]? = some c) : (upTo R lo q by_).set q (c.1, c.2.1, c.2.2 + by_) = upTo R lo (q + 1) by_ := by
  have hq := (List.getElem?_eq_some_iff.1 hc).1
  apply List.ext_getElem?
  intro j
  rw [upTo_get, List.getElem?_set, upTo_get, upTo_len]
  by_cases e : q = j
  · subst e
    rw [if_pos rfl, if_pos hq, hc]
    simp only [Option.map_some]
    rw [if_pos (by omega)]
  · rw [if_neg e]
    cases R[j]? with
    | none => rfl
    | some d =>
      simp only [Option.map_some]
      by_cases k : lo ≤ j ∧ j < q
      · rw [if_pos k, if_pos (by omega)]
      · rw [if_neg k, if_neg (by omega)]
/-- The row with by on the counters of a list's cells. -/
def upAll (R : List CellW) (l : List (Int × Int)) (by_ : Int) : List CellW := l.foldl (fun R r => upTo R r.1.toNat r.2.toNat by_) R
theorem upAll_len (l : List (Int × Int)) (by_ : Int) : ∀ R : List CellW, (upAll R l by_).length = R.length := by
  induction l with
  | nil => intro R; rfl
  | cons r l ih => intro R; show (upAll (upTo R r.1.toNat r.2.toNat by_) l by_).length = _; rw [ih, upTo_len]
theorem upAll_snoc (R : List CellW) (l : List (Int × Int)) (r : Int × Int) (by_ : Int) : upAll R (l ++ [r]) by_ = upTo (upAll R l by_) r.1.toNat r.2.toNat by_ := by simp [upAll]

theorem flatW_set : ∀ (l : List CellW) (i : Nat) (x : Int × Int) (k y z : Int), l[i]? = some (x, k, y) → (flatF cellW l).set (i * 4 + 3) (.int .i64 z) = flatF cellW (l.set i (x, k, z))
  | [], i, x, k, y, z, h => by simp at h
  | c :: l, 0, x, k, y, z, h => by
    simp at h
    subst h
    rfl
  | c :: l, i + 1, x, k, y, z, h => by
    have ih := flatW_set l i x k y z (by simpa using h)
    have e : (i + 1) * 4 + 3 = (i * 4 + 3) + 1 + 1 + 1 + 1 := by omega
    rw [e]
    show Value.int .i64 c.1.1 :: Value.int .i64 c.1.2 :: Value.int .i64 c.2.1 :: Value.int .i64 c.2.2 :: (flatF cellW l).set (i * 4 + 3) (.int .i64 z) = _
    rw [ih]
    rfl
theorem OwnF.setHidW {w : World} {B g cap : Nat} {l : List CellW} (h : OwnF cellW 4 48 w B (.slice (some ⟨g, 0, none⟩) l.length cap) l) (i : Nat) (x : Int × Int) (k y z : Int) (hx : l[i]? = some (x, k, y)) :
    OwnF cellW 4 48 (w.setCell ⟨g, i * 4 + 3, none⟩ (.int .i64 z)) B (.slice (some ⟨g, 0, none⟩) l.length cap) (l.set i (x, k, z)) := by
  have := (World.ownsRow.stored h (i * 4 + 3) (.int .i64 z)).1
  rw [flatW_set l i x k y z hx] at this
  unfold OwnF
  rw [List.length_set]
  exact this
theorem OwnF.ptr {α : Type} {f : α → List Value} {k : Nat} {T : TypeId} {w : World} {B : Nat} {v : Value} {l : List α} (h : OwnF f k T w B v l) (hn : 0 < l.length) : ∃ g cap, v = .slice (some ⟨g, 0, none⟩) l.length cap ∧ B ≤ g ∧ g < w.heap.size ∧ l.length ≤ cap ∧ cap ≤ maxLen ∧ ∀ j, w.frozen? ⟨g, j, none⟩ = false := by
  rcases h.2 with ⟨e, h0⟩ | ⟨g, cap, cur, e, hb, hh, h1, h2, _⟩
  · omega
  · exact ⟨g, cap, e, hb, (Array.getElem?_eq_some_iff.1 hh).1, h1, h2, fun j => frozen_of_row w g j cur _ hh⟩
/-- Counters are small. -/
def Small (M : Int) (R : List CellW) : Prop := ∀ c ∈ R, -M ≤ c.2.2 ∧ c.2.2 ≤ M
theorem Small.up {M : Int} {R : List CellW} (h : Small M R) (lo q : Nat) {by_ : Int} (h1 : -1 ≤ by_) (h2 : by_ ≤ 1) : Small (M + 1) (upTo R lo q by_) := fun c hc => by
  obtain ⟨j, hj⟩ := List.getElem?_of_mem hc
  rw [upTo_get] at hj
  obtain ⟨d, hd, rfl⟩ := Option.map_eq_some_iff.1 hj
  have := h d (List.mem_of_getElem? hd)
  by_cases k : lo ≤ j ∧ j < q
  · rw [if_pos k]; simp only; omega
  · rw [if_neg k]; omega
theorem norm_next {b : Int} {l : List (Int × Int)} (h : Sp.Norm b l) : ∀ i, i + 1 < l.length → (l.getD i (0, 0)).2 < (l.getD (i + 1) (0, 0)).1 := by
  induction l generalizing b with
  | nil => intro i hi; simp at hi
  | cons x t ih =>
    intro i hi
    cases i with
    | zero =>
      cases t with
      | nil => simp at hi
      | cons y u => exact h.2.2.1
    | succ i => exact ih h.2.2 i (by simpa using hi)
theorem take_snoc_getD (l : List (Int × Int)) (i : Nat) (h : i < l.length) : l.take (i + 1) = l.take i ++ [l.getD i (0, 0)] := by
  rw [List.take_succ_eq_append_getElem h, List.getD_eq_getElem?_getD, List.getElem?_eq_getElem h]
  rfl
def byP (k : Int) : Int := if k = 3 then -1 else 1

set_option maxHeartbeats 8000000 in
theorem does_rng {c n k p : Int} {s : ByteArray} {l : List (Int × Int)} {tc tn : Int} {on : Bool} {w : World} {a : Option Addr} {m cap : Nat} {R : List CellW} (h : Rw cellW 4 w a m cap R) (hm : m ≤ 1000) {a2 : Option Addr} {m2 cap2 : Nat} (hl : Sp.Rng w a2 m2 cap2 l) (hfw : m2 ≤ 1000000)
    (hk : k = 2 ∨ k = 3) (hne : l ≠ []) (hN : Sp.Norm (-1) l) (hin : ∀ r ∈ l, 0 ≤ r.1 ∧ r.1 < r.2 ∧ r.2 ≤ (m : Int)) (hS : Small 4194304 R) :
    Calls Tryd.prog 40 #[.slice a m cap, opVal ⟨c, n, k, p, s, l, tc, tn, on⟩ (.slice a2 m2 cap2)] w fun e w' => ∃ v, e = .returned (.tuple #[v, .bool true]) ∧ OwnF cellW 4 48 w' w.heap.size v (upAll R l (byP k)) ∧ Below w.heap.size w w' := by
  have hRl := h.len
  have hll := hl.len
  have hlr := hl.room
  have hm2 : m2 ≤ 9223372036854775807 := by simp only [maxLen] at hlr; omega
  obtain ⟨d, hd⟩ : ∃ d, byP k = d := ⟨_, rfl⟩
  have h1 : -1 ≤ d := by rw [← hd]; unfold byP; split <;> omega
  have h2 : d ≤ 1 := by rw [← hd]; unfold byP; split <;> omega
  have hd2 : (k = 2 ∧ d = 1) ∨ (k = 3 ∧ d = -1) := by rw [← hd]; unfold byP; rcases hk with rfl | rfl <;> simp
  rw [hd]
  simp only [opVal] at *
  obtain ⟨W0, hW0⟩ : ∃ W0, w.alloc (Obj.cells #[.int .i64 c, .int .i64 n, .int .i64 k, .int .i64 p, .string s, .slice a2 m2 cap2, .int .i64 tc, .int .i64 tn, .bool on] 41) = W0 := ⟨_, rfl⟩
  have hX : W0.heap[w.heap.size]? = some (Obj.cells #[.int .i64 c, .int .i64 n, .int .i64 k, .int .i64 p, .string s, .slice a2 m2 cap2, .int .i64 tc, .int .i64 tn, .bool on] 41) := by rw [← hW0]; exact alloc_last _ _ _ rfl
  have hB0 : Below w.heap.size w W0 := by rw [← hW0]; exact (Below.refl w.heap.size w).alloc (Nat.le_refl _) _
  have alt : w.heap.size < W0.heap.size := (Array.getElem?_eq_some_iff.1 hX).1
  obtain ⟨va, vc, w1, hr1, ho1, hb1, _⟩ := appendF_all kindW layW (ownF_nil (f := cellW) (k := 4) (T := 48) W0 W0.heap.size) (Nat.le_refl _) (h.below hB0) (by simp; omega) (by simp; omega) 27
  simp only [List.length_nil, List.nil_append, Nat.zero_add] at hr1 ho1
  have HL : Hid (Sp.Rng w a2 m2 cap2 l) := hl
  have HIN : Hid (∀ r ∈ l, 0 ≤ r.1 ∧ r.1 < r.2 ∧ r.2 ≤ (m : Int)) := hin
  have HN : Hid (∀ i, i + 1 < l.length → (l.getD i (0, 0)).2 < (l.getD (i + 1) (0, 0)).1) := norm_next hN
  have HS : Hid (Small 4194304 R) := hS
  have hpos : 0 < m2 := by rw [← hll]; exact List.length_pos_iff.2 hne
  clear h hl hin hS hN hne
  obtain ⟨ak0, ak1, ak2, ak3, ak4, ak5, ak6, ak7, ak8⟩ := box9 hX
  have hX1 := (hb1.block _ alt).trans hX
  obtain ⟨bk0, bk1, bk2, bk3, bk4, bk5, bk6, bk7, bk8⟩ := box9 hX1
  clear hd hk
  rcases hd2 with ⟨rfl, rfl⟩ | ⟨rfl, rfl⟩
  all_goals
    go_enter Tryd.func40, Tryd.ntmps40
    go_wp2_with (at_builtin; refine wpList_append_hr rfl _ _ 27 rfl _ _ rfl rfl hr1 ?_)
    clear ak0 ak1 ak2 ak3 ak4 ak5 ak6 ak7 ak8 bk0 bk1 bk2 bk3 bk4 bk5 bk6 bk7 bk8 hr1 hW0
  · go_loopw [9, 10, 11] (fun vi vg vq W => ∃ i : Nat, i ≤ m2 ∧ vi = .int .i64 (i : Int) ∧ OwnF cellW 4 48 W W0.heap.size (.slice va m vc) (upAll R (l.take i) 1) ∧ Small (4194304 + (i : Int)) (upAll R (l.take i) 1) ∧ Below W0.heap.size W0 W) (fun vi _ _ _ => m2 - (RowKit.intOf vi).toNat)
    case atStart => exact ⟨0, Nat.zero_le _, rfl, ho1, by simpa [upAll] using HS.out, hb1⟩
    case round =>
      obtain ⟨i, hi, rfl, ho, hsm, hb⟩ := hrel
      have hsz := hb.size
      clear ho1 hb1 hX1 HS
      have hX1 := (hb.block _ alt).trans hX
      have hbw : Below w.heap.size w wr := hB0.trans (hb.mono hB0.size)
      obtain ⟨bk0, bk1, bk2, bk3, bk4, bk5, bk6, bk7, bk8⟩ := box9 hX1
      by_cases hlt : i < m2
      · obtain ⟨g, off, rfl, hg, hc0, hc1⟩ := HL.out.cells i hlt
        have HP : Hid (∀ i' : Nat, i = i' + 1 → ∀ W, Below w.heap.size w W → W.cell? ⟨g, off + i' * 2 + 1, none⟩ = some (.int .i64 (l.getD i' (0, 0)).2)) := fun i' e W hW => by
          obtain ⟨g2, off2, e2, hg2, _, hd1⟩ := HL.out.cells i' (by omega)
          cases e2
          exact (hW.cell (p := ⟨g, off + i' * 2 + 1, none⟩) hg2).trans hd1
        have hil : i < l.length := by omega
        have hmem : l.getD i (0, 0) ∈ l := by rw [List.getD_eq_getElem?_getD, List.getElem?_eq_getElem hil]; exact List.getElem_mem hil
        obtain ⟨hr1, hr2, hr3⟩ := HIN.out _ hmem
        have hsn : upAll R (l.take (i + 1)) 1 = upTo (upAll R (l.take i) 1) (l.getD i (0, 0)).1.toNat (l.getD i (0, 0)).2.toNat 1 := by rw [take_snoc_getD l i hil, upAll_snoc]
        have hpv : ∀ i' : Nat, i = i' + 1 → (l.getD i' (0, 0)).2 < (l.getD i (0, 0)).1 := fun i' e => by have := HN.out i' (by omega); rw [← e] at this; exact this
        have hul := upAll_len (l.take i) 1 R
        generalize upAll R (l.take i) 1 = Q at *
        obtain ⟨lo, hlo⟩ : ∃ lo : Nat, (l.getD i (0, 0)).1 = (lo : Int) := ⟨(l.getD i (0, 0)).1.toNat, by omega⟩
        obtain ⟨hi', hhi⟩ : ∃ hi' : Nat, (l.getD i (0, 0)).2 = (hi' : Int) := ⟨(l.getD i (0, 0)).2.toNat, by omega⟩
        rw [hlo, hhi] at hsn hr2
        rw [hlo] at hc0 hr1 hpv
        rw [hhi] at hc1 hr3
        rw [Int.toNat_natCast, Int.toNat_natCast] at hsn
        have HSN : Hid (upAll R (l.take (i + 1)) 1 = upTo Q lo hi' 1) := hsn
        have HPV : Hid (∀ i' : Nat, i = i' + 1 → (l.getD i' (0, 0)).2 < (lo : Int)) := hpv
        have HSM : Hid (Small (4194304 + (i : Int)) Q) := hsm
        have c0 := (hbw.cell (p := ⟨g, off + i * 2, none⟩) hg).trans hc0
        have c1 := (hbw.cell (p := ⟨g, off + i * 2 + 1, none⟩) hg).trans hc1
        have HO : Hid (OwnF cellW 4 48 wr W0.heap.size (.slice va m vc) Q) := ho
        obtain ⟨W1, hW1⟩ : ∃ W1, wr.alloc (Obj.cells #[.int .i64 lo, .int .i64 hi'] 87) = W1 := ⟨_, rfl⟩
        have h11 : Below wr.heap.size wr W1 := by rw [← hW1]; exact (Below.refl _ _).alloc (Nat.le_refl _) _
        have hG : W1.heap[wr.heap.size]? = some (Obj.cells #[.int .i64 lo, .int .i64 hi'] 87) := by rw [← hW1]; exact alloc_last _ _ _ rfl
        have g0 : W1.cell? ⟨wr.heap.size, 0, none⟩ = some (.int .i64 lo) := by rw [Lib.cell_of_heap hG]; rfl
        have g1 : W1.cell? ⟨wr.heap.size, 1, none⟩ = some (.int .i64 hi') := by rw [Lib.cell_of_heap hG]; rfl
        have b5 : W1.cell? ⟨w.heap.size, 5, none⟩ = some (.slice (some ⟨g, off, none⟩) m2 cap2) := (h11.cell (p := ⟨w.heap.size, 5, none⟩) (by simp only; omega)).trans bk5
        have hbW : Below w.heap.size w W1 := hbw.trans (h11.mono hbw.size)
        have hbX : Below W0.heap.size W0 W1 := hb.trans (h11.mono hb.size)
        have HO1 : Hid (OwnF cellW 4 48 W1 W0.heap.size (.slice va m vc) Q) := HO.out.below h11
        have t1 : decide ((lo : Int) < 0) = false := decide_eq_false (by omega)
        have t2 : decide ((hi' : Int) ≤ (lo : Int)) = false := decide_eq_false (by omega)
        have t3 : decide ((m : Int) < (hi' : Int)) = false := decide_eq_false (by omega)
        have t2' : decide (hi' ≤ lo) = false := decide_eq_false (by omega)
        have t3' : decide (m < hi') = false := decide_eq_false (by omega)
        have i0 : (0 : Int) ≤ (i : Int) := by omega
        have i1 : (i : Int) < (m2 : Int) := by omega
        clear hc0 hc1 hsn hpv hsm ho HO hmem hil
        cases i with
        | zero =>
          simp only [Nat.zero_mul, Nat.add_zero] at c0 c1
          go_wp2_with fail
          go_quiet (fail)
          go_wp2_with fail
          generalize hbg : wr.heap.size = bg at *
          have hbg1 : W0.heap.size ≤ bg := by omega
          clear hbg
          go_loopw [11] (fun vq w2 => ∃ q : Nat, lo ≤ q ∧ q ≤ hi' ∧ vq = .int .i64 (q : Int) ∧ OwnF cellW 4 48 w2 W0.heap.size (.slice va m vc) (upTo Q lo q 1) ∧ w2.heap[bg]? = some (Obj.cells #[.int .i64 lo, .int .i64 hi'] 87) ∧ Below W0.heap.size W0 w2) (fun vq _ => hi' - (RowKit.intOf vq).toNat)
          case atStart => exact ⟨lo, Nat.le_refl _, by omega, rfl, by rw [upTo_self]; exact HO1.out, hG, below_drewN hbX _⟩
          case round =>
            obtain ⟨q, hq1, hq2, rfl, ho2, hG2, hb2⟩ := hrel
            have d0 : wr.cell? ⟨bg, 0, none⟩ = some (.int .i64 lo) := by rw [Lib.cell_of_heap hG2]; rfl
            have d1 : wr.cell? ⟨bg, 1, none⟩ = some (.int .i64 hi') := by rw [Lib.cell_of_heap hG2]; rfl
            by_cases hq : q < hi'
            · have hQ : Q[q]? = some Q[q] := List.getElem?_eq_getElem (by omega)
              obtain ⟨y, hy⟩ : ∃ y, Q[q]? = some y := ⟨_, hQ⟩
              have hU : (upTo Q lo q 1)[q]? = some (y.1, y.2.1, y.2.2) := by rw [upTo_get, hy]; simp only [Option.map_some]; rw [if_neg (by omega)]
              have hys := HSM.out y (List.mem_of_getElem? hy)
              have hulen := upTo_len Q lo q 1
              obtain ⟨gg, cc, e, hBg, hgg, hroom1, hroom2, hfz⟩ := ho2.ptr (by omega)
              have hsl : m = (upTo Q lo q 1).length := by omega
              simp only [Value.slice.injEq] at e
              obtain ⟨rfl, _, rfl⟩ := e
              obtain ⟨g', off', x', ha', _, hx', hc'⟩ := (ho2.rw_ layW).at q (by omega)
              cases ha'
              have e1 : wr.cell? ⟨gg, q * 4 + 3, none⟩ = some (.int .i64 y.2.2) := by
                rw [hU] at hx'; cases hx'
                have := hc' 3 _ rfl
                rwa [Nat.zero_add] at this
              have f1 := hfz (q * 4 + 3)
              have hset : OwnF cellW 4 48 (wr.setCell ⟨gg, q * 4 + 3, none⟩ (.int .i64 (y.2.2 + 1))) W0.heap.size (.slice (some ⟨gg, 0, none⟩) m vc) (upTo Q lo (q + 1) 1) := by
                have hO : OwnF cellW 4 48 wr W0.heap.size (.slice (some ⟨gg, 0, none⟩) (upTo Q lo q 1).length vc) (upTo Q lo q 1) := by rw [← hsl]; exact ho2
                have := hO.setHidW q y.1 y.2.1 y.2.2 (y.2.2 + 1) hU
                rw [upTo_succ Q lo q 1 hq1 y hy, ← hsl] at this
                exact this
              have hne : bg ≠ gg := fun e => by
                subst e
                rcases ho2.2 with ⟨e, h0⟩ | ⟨gx, cx, cur, e, _, hh, _⟩
                · cases e
                · cases e
                  rw [hG2] at hh
                  simp at hh
              have hG3 : (wr.setCell ⟨gg, q * 4 + 3, none⟩ (.int .i64 (y.2.2 + 1))).heap[bg]? = some (Obj.cells #[.int .i64 lo, .int .i64 hi'] 87) := (Below.heap_setCell _ _ _ _ (by simp only; exact hne)).trans hG2
              have hb3 : Below W0.heap.size W0 (wr.setCell ⟨gg, q * 4 + 3, none⟩ (.int .i64 (y.2.2 + 1))) := hb2.setCell (p := ⟨gg, q * 4 + 3, none⟩) hBg _
              have HSET : Hid (OwnF cellW 4 48 (wr.setCell ⟨gg, q * 4 + 3, none⟩ (.int .i64 (y.2.2 + 1))) W0.heap.size (.slice (some ⟨gg, 0, none⟩) m vc) (upTo Q lo (q + 1) 1)) := hset
              have hkn : q < m := by omega
              have hqi : (q : Int) < (hi' : Int) := by omega
              have hqm : (q : Int) < (m : Int) := by omega
              have ew : IntKind.i64.wrap (y.2.2 + 1) = y.2.2 + 1 := IntWalk.i64_in _ (by omega)
              clear hset hc' hx' hfz hQ hy hU ho2 hsl hulen hne
              go_wp2_with fail
              go_roundw
              case rel => exact ⟨q + 1, by omega, by omega, by go_num, HSET.out, hG3, hb3⟩
              case measure => simp [RowKit.intOf]; omega
            · obtain rfl : q = hi' := by omega
              have hq2 : ¬ (q : Int) < (q : Int) := by omega
              go_wp2_with fail
              go_roundw
              case rel => exact ⟨0 + 1, by omega, by go_num, by rw [HSN.out]; exact ho2, by rw [HSN.out]; have := HSM.out.up lo q (by omega) (by omega) (by_ := 1); rw [show (4194304 : Int) + ((0 + 1 : Nat) : Int) = 4194304 + ((0 : Nat) : Int) + 1 by omega]; exact this, hb2⟩
              case measure => simp [RowKit.intOf]; omega
        | succ i' =>
          have p1 := HP.out i' rfl _ hbW
          have pv := HPV.out i' rfl
          generalize (l.getD i' (0, 0)).2 = ph at *
          have t5 : decide ((lo : Int) ≤ ph) = false := decide_eq_false (by omega)
          have e5 : IntKind.i64.wrap (((i' + 1 : Nat) : Int) - 1) = (i' : Int) := by rw [show (((i' + 1 : Nat) : Int) - 1) = (i' : Int) by omega]; exact IntWalk.i64_in _ (by omega)
          have i2 : (0 : Int) < ((i' + 1 : Nat) : Int) := by omega
          have i3 : (i' : Int) < (m2 : Int) := by omega
          have i4 : (0 : Int) ≤ (i' : Int) := by omega
          go_wp2_with fail
          go_quiet (fail)
          go_wp2_with fail
          generalize hbg : wr.heap.size = bg at *
          have hbg1 : W0.heap.size ≤ bg := by omega
          clear hbg
          go_loopw [11] (fun vq w2 => ∃ q : Nat, lo ≤ q ∧ q ≤ hi' ∧ vq = .int .i64 (q : Int) ∧ OwnF cellW 4 48 w2 W0.heap.size (.slice va m vc) (upTo Q lo q 1) ∧ w2.heap[bg]? = some (Obj.cells #[.int .i64 lo, .int .i64 hi'] 87) ∧ Below W0.heap.size W0 w2) (fun vq _ => hi' - (RowKit.intOf vq).toNat)
          case atStart => exact ⟨lo, Nat.le_refl _, by omega, rfl, by rw [upTo_self]; exact HO1.out, hG, below_drewN hbX _⟩
          case round =>
            obtain ⟨q, hq1, hq2, rfl, ho2, hG2, hb2⟩ := hrel
            have d0 : wr.cell? ⟨bg, 0, none⟩ = some (.int .i64 lo) := by rw [Lib.cell_of_heap hG2]; rfl
            have d1 : wr.cell? ⟨bg, 1, none⟩ = some (.int .i64 hi') := by rw [Lib.cell_of_heap hG2]; rfl
            by_cases hq : q < hi'
            · have hQ : Q[q]? = some Q[q] := List.getElem?_eq_getElem (by omega)
              obtain ⟨y, hy⟩ : ∃ y, Q[q]? = some y := ⟨_, hQ⟩
              have hU : (upTo Q lo q 1)[q]? = some (y.1, y.2.1, y.2.2) := by rw [upTo_get, hy]; simp only [Option.map_some]; rw [if_neg (by omega)]
              have hys := HSM.out y (List.mem_of_getElem? hy)
              have hulen := upTo_len Q lo q 1
              obtain ⟨gg, cc, e, hBg, hgg, hroom1, hroom2, hfz⟩ := ho2.ptr (by omega)
              have hsl : m = (upTo Q lo q 1).length := by omega
              simp only [Value.slice.injEq] at e
              obtain ⟨rfl, _, rfl⟩ := e
              obtain ⟨g', off', x', ha', _, hx', hc'⟩ := (ho2.rw_ layW).at q (by omega)
              cases ha'
              have e1 : wr.cell? ⟨gg, q * 4 + 3, none⟩ = some (.int .i64 y.2.2) := by
                rw [hU] at hx'; cases hx'
                have := hc' 3 _ rfl
                rwa [Nat.zero_add] at this
              have f1 := hfz (q * 4 + 3)
              have hset : OwnF cellW 4 48 (wr.setCell ⟨gg, q * 4 + 3, none⟩ (.int .i64 (y.2.2 + 1))) W0.heap.size (.slice (some ⟨gg, 0, none⟩) m vc) (upTo Q lo (q + 1) 1) := by
                have hO : OwnF cellW 4 48 wr W0.heap.size (.slice (some ⟨gg, 0, none⟩) (upTo Q lo q 1).length vc) (upTo Q lo q 1) := by rw [← hsl]; exact ho2
                have := hO.setHidW q y.1 y.2.1 y.2.2 (y.2.2 + 1) hU
                rw [upTo_succ Q lo q 1 hq1 y hy, ← hsl] at this
                exact this
              have hne : bg ≠ gg := fun e => by
                subst e
                rcases ho2.2 with ⟨e, h0⟩ | ⟨gx, cx, cur, e, _, hh, _⟩
                · cases e
                · cases e
                  rw [hG2] at hh
                  simp at hh
              have hG3 : (wr.setCell ⟨gg, q * 4 + 3, none⟩ (.int .i64 (y.2.2 + 1))).heap[bg]? = some (Obj.cells #[.int .i64 lo, .int .i64 hi'] 87) := (Below.heap_setCell _ _ _ _ (by simp only; exact hne)).trans hG2
              have hb3 : Below W0.heap.size W0 (wr.setCell ⟨gg, q * 4 + 3, none⟩ (.int .i64 (y.2.2 + 1))) := hb2.setCell (p := ⟨gg, q * 4 + 3, none⟩) hBg _
              have HSET : Hid (OwnF cellW 4 48 (wr.setCell ⟨gg, q * 4 + 3, none⟩ (.int .i64 (y.2.2 + 1))) W0.heap.size (.slice (some ⟨gg, 0, none⟩) m vc) (upTo Q lo (q + 1) 1)) := hset
              have hkn : q < m := by omega
              have hqi : (q : Int) < (hi' : Int) := by omega
              have hqm : (q : Int) < (m : Int) := by omega
              have ew : IntKind.i64.wrap (y.2.2 + 1) = y.2.2 + 1 := IntWalk.i64_in _ (by omega)
              clear hset hc' hx' hfz hQ hy hU ho2 hsl hulen hne
              go_wp2_with fail
              go_roundw
              case rel => exact ⟨q + 1, by omega, by omega, by go_num, HSET.out, hG3, hb3⟩
              case measure => simp [RowKit.intOf]; omega
            · obtain rfl : q = hi' := by omega
              have hq2 : ¬ (q : Int) < (q : Int) := by omega
              go_wp2_with fail
              go_roundw
              case rel => exact ⟨(i' + 1) + 1, by omega, by go_num, by rw [HSN.out]; exact ho2, by rw [HSN.out]; have := HSM.out.up lo q (by omega) (by omega) (by_ := 1); rw [show (4194304 : Int) + (((i' + 1) + 1 : Nat) : Int) = 4194304 + (((i' + 1) : Nat) : Int) + 1 by omega]; exact this, hb2⟩
              case measure => simp [RowKit.intOf]; omega
      · obtain rfl : i = m2 := by omega
        rw [show l.take i = l from List.take_of_length_le (by omega)] at ho
        have i2 : (0 : Int) < (i : Int) := by omega
        have i3 : decide ((i : Int) < (i : Int)) = false := decide_eq_false (by omega)
        have HO : Hid (OwnF cellW 4 48 wr w.heap.size (.slice va m vc) (upAll R l 1)) := ho.mono hB0.size
        clear ho hsm
        go_wp2_with fail
        go_quiet (fail)
        go_wp2_with fail
        go_ret2
        exact ⟨_, rfl, HO.out, below_drewN hbw _⟩
  · go_loopw [9, 10, 11] (fun vi vg vq W => ∃ i : Nat, i ≤ m2 ∧ vi = .int .i64 (i : Int) ∧ OwnF cellW 4 48 W W0.heap.size (.slice va m vc) (upAll R (l.take i) (-1)) ∧ Small (4194304 + (i : Int)) (upAll R (l.take i) (-1)) ∧ Below W0.heap.size W0 W) (fun vi _ _ _ => m2 - (RowKit.intOf vi).toNat)
    case atStart => exact ⟨0, Nat.zero_le _, rfl, ho1, by simpa [upAll] using HS.out, hb1⟩
    case round =>
      obtain ⟨i, hi, rfl, ho, hsm, hb⟩ := hrel
      have hsz := hb.size
      clear ho1 hb1 hX1 HS
      have hX1 := (hb.block _ alt).trans hX
      have hbw : Below w.heap.size w wr := hB0.trans (hb.mono hB0.size)
      obtain ⟨bk0, bk1, bk2, bk3, bk4, bk5, bk6, bk7, bk8⟩ := box9 hX1
      by_cases hlt : i < m2
      · obtain ⟨g, off, rfl, hg, hc0, hc1⟩ := HL.out.cells i hlt
        have HP : Hid (∀ i' : Nat, i = i' + 1 → ∀ W, Below w.heap.size w W → W.cell? ⟨g, off + i' * 2 + 1, none⟩ = some (.int .i64 (l.getD i' (0, 0)).2)) := fun i' e W hW => by
          obtain ⟨g2, off2, e2, hg2, _, hd1⟩ := HL.out.cells i' (by omega)
          cases e2
          exact (hW.cell (p := ⟨g, off + i' * 2 + 1, none⟩) hg2).trans hd1
        have hil : i < l.length := by omega
        have hmem : l.getD i (0, 0) ∈ l := by rw [List.getD_eq_getElem?_getD, List.getElem?_eq_getElem hil]; exact List.getElem_mem hil
        obtain ⟨hr1, hr2, hr3⟩ := HIN.out _ hmem
        have hsn : upAll R (l.take (i + 1)) (-1) = upTo (upAll R (l.take i) (-1)) (l.getD i (0, 0)).1.toNat (l.getD i (0, 0)).2.toNat (-1) := by rw [take_snoc_getD l i hil, upAll_snoc]
        have hpv : ∀ i' : Nat, i = i' + 1 → (l.getD i' (0, 0)).2 < (l.getD i (0, 0)).1 := fun i' e => by have := HN.out i' (by omega); rw [← e] at this; exact this
        have hul := upAll_len (l.take i) (-1) R
        generalize upAll R (l.take i) (-1) = Q at *
        obtain ⟨lo, hlo⟩ : ∃ lo : Nat, (l.getD i (0, 0)).1 = (lo : Int) := ⟨(l.getD i (0, 0)).1.toNat, by omega⟩
        obtain ⟨hi', hhi⟩ : ∃ hi' : Nat, (l.getD i (0, 0)).2 = (hi' : Int) := ⟨(l.getD i (0, 0)).2.toNat, by omega⟩
        rw [hlo, hhi] at hsn hr2
        rw [hlo] at hc0 hr1 hpv
        rw [hhi] at hc1 hr3
        rw [Int.toNat_natCast, Int.toNat_natCast] at hsn
        have HSN : Hid (upAll R (l.take (i + 1)) (-1) = upTo Q lo hi' (-1)) := hsn
        have HPV : Hid (∀ i' : Nat, i = i' + 1 → (l.getD i' (0, 0)).2 < (lo : Int)) := hpv
        have HSM : Hid (Small (4194304 + (i : Int)) Q) := hsm
        have c0 := (hbw.cell (p := ⟨g, off + i * 2, none⟩) hg).trans hc0
        have c1 := (hbw.cell (p := ⟨g, off + i * 2 + 1, none⟩) hg).trans hc1
        have HO : Hid (OwnF cellW 4 48 wr W0.heap.size (.slice va m vc) Q) := ho
        obtain ⟨W1, hW1⟩ : ∃ W1, wr.alloc (Obj.cells #[.int .i64 lo, .int .i64 hi'] 87) = W1 := ⟨_, rfl⟩
        have h11 : Below wr.heap.size wr W1 := by rw [← hW1]; exact (Below.refl _ _).alloc (Nat.le_refl _) _
        have hG : W1.heap[wr.heap.size]? = some (Obj.cells #[.int .i64 lo, .int .i64 hi'] 87) := by rw [← hW1]; exact alloc_last _ _ _ rfl
        have g0 : W1.cell? ⟨wr.heap.size, 0, none⟩ = some (.int .i64 lo) := by rw [Lib.cell_of_heap hG]; rfl
        have g1 : W1.cell? ⟨wr.heap.size, 1, none⟩ = some (.int .i64 hi') := by rw [Lib.cell_of_heap hG]; rfl
        have b5 : W1.cell? ⟨w.heap.size, 5, none⟩ = some (.slice (some ⟨g, off, none⟩) m2 cap2) := (h11.cell (p := ⟨w.heap.size, 5, none⟩) (by simp only; omega)).trans bk5
        have hbW : Below w.heap.size w W1 := hbw.trans (h11.mono hbw.size)
        have hbX : Below W0.heap.size W0 W1 := hb.trans (h11.mono hb.size)
        have HO1 : Hid (OwnF cellW 4 48 W1 W0.heap.size (.slice va m vc) Q) := HO.out.below h11
        have t1 : decide ((lo : Int) < 0) = false := decide_eq_false (by omega)
        have t2 : decide ((hi' : Int) ≤ (lo : Int)) = false := decide_eq_false (by omega)
        have t3 : decide ((m : Int) < (hi' : Int)) = false := decide_eq_false (by omega)
        have t2' : decide (hi' ≤ lo) = false := decide_eq_false (by omega)
        have t3' : decide (m < hi') = false := decide_eq_false (by omega)
        have i0 : (0 : Int) ≤ (i : Int) := by omega
        have i1 : (i : Int) < (m2 : Int) := by omega
        clear hc0 hc1 hsn hpv hsm ho HO hmem hil
        cases i with
        | zero =>
          simp only [Nat.zero_mul, Nat.add_zero] at c0 c1
          go_wp2_with fail
          go_quiet (fail)
          go_wp2_with fail
          generalize hbg : wr.heap.size = bg at *
          have hbg1 : W0.heap.size ≤ bg := by omega
          clear hbg
          go_loopw [11] (fun vq w2 => ∃ q : Nat, lo ≤ q ∧ q ≤ hi' ∧ vq = .int .i64 (q : Int) ∧ OwnF cellW 4 48 w2 W0.heap.size (.slice va m vc) (upTo Q lo q (-1)) ∧ w2.heap[bg]? = some (Obj.cells #[.int .i64 lo, .int .i64 hi'] 87) ∧ Below W0.heap.size W0 w2) (fun vq _ => hi' - (RowKit.intOf vq).toNat)
          case atStart => exact ⟨lo, Nat.le_refl _, by omega, rfl, by rw [upTo_self]; exact HO1.out, hG, below_drewN hbX _⟩
          case round =>
            obtain ⟨q, hq1, hq2, rfl, ho2, hG2, hb2⟩ := hrel
            have d0 : wr.cell? ⟨bg, 0, none⟩ = some (.int .i64 lo) := by rw [Lib.cell_of_heap hG2]; rfl
            have d1 : wr.cell? ⟨bg, 1, none⟩ = some (.int .i64 hi') := by rw [Lib.cell_of_heap hG2]; rfl
            by_cases hq : q < hi'
            · have hQ : Q[q]? = some Q[q] := List.getElem?_eq_getElem (by omega)
              obtain ⟨y, hy⟩ : ∃ y, Q[q]? = some y := ⟨_, hQ⟩
              have hU : (upTo Q lo q (-1))[q]? = some (y.1, y.2.1, y.2.2) := by rw [upTo_get, hy]; simp only [Option.map_some]; rw [if_neg (by omega)]
              have hys := HSM.out y (List.mem_of_getElem? hy)
              have hulen := upTo_len Q lo q (-1)
              obtain ⟨gg, cc, e, hBg, hgg, hroom1, hroom2, hfz⟩ := ho2.ptr (by omega)
              have hsl : m = (upTo Q lo q (-1)).length := by omega
              simp only [Value.slice.injEq] at e
              obtain ⟨rfl, _, rfl⟩ := e
              obtain ⟨g', off', x', ha', _, hx', hc'⟩ := (ho2.rw_ layW).at q (by omega)
              cases ha'
              have e1 : wr.cell? ⟨gg, q * 4 + 3, none⟩ = some (.int .i64 y.2.2) := by
                rw [hU] at hx'; cases hx'
                have := hc' 3 _ rfl
                rwa [Nat.zero_add] at this
              have f1 := hfz (q * 4 + 3)
              have hset : OwnF cellW 4 48 (wr.setCell ⟨gg, q * 4 + 3, none⟩ (.int .i64 (y.2.2 + (-1)))) W0.heap.size (.slice (some ⟨gg, 0, none⟩) m vc) (upTo Q lo (q + 1) (-1)) := by
                have hO : OwnF cellW 4 48 wr W0.heap.size (.slice (some ⟨gg, 0, none⟩) (upTo Q lo q (-1)).length vc) (upTo Q lo q (-1)) := by rw [← hsl]; exact ho2
                have := hO.setHidW q y.1 y.2.1 y.2.2 (y.2.2 + (-1)) hU
                rw [upTo_succ Q lo q (-1) hq1 y hy, ← hsl] at this
                exact this
              have hne : bg ≠ gg := fun e => by
                subst e
                rcases ho2.2 with ⟨e, h0⟩ | ⟨gx, cx, cur, e, _, hh, _⟩
                · cases e
                · cases e
                  rw [hG2] at hh
                  simp at hh
              have hG3 : (wr.setCell ⟨gg, q * 4 + 3, none⟩ (.int .i64 (y.2.2 + (-1)))).heap[bg]? = some (Obj.cells #[.int .i64 lo, .int .i64 hi'] 87) := (Below.heap_setCell _ _ _ _ (by simp only; exact hne)).trans hG2
              have hb3 : Below W0.heap.size W0 (wr.setCell ⟨gg, q * 4 + 3, none⟩ (.int .i64 (y.2.2 + (-1)))) := hb2.setCell (p := ⟨gg, q * 4 + 3, none⟩) hBg _
              have HSET : Hid (OwnF cellW 4 48 (wr.setCell ⟨gg, q * 4 + 3, none⟩ (.int .i64 (y.2.2 + (-1)))) W0.heap.size (.slice (some ⟨gg, 0, none⟩) m vc) (upTo Q lo (q + 1) (-1))) := hset
              have hkn : q < m := by omega
              have hqi : (q : Int) < (hi' : Int) := by omega
              have hqm : (q : Int) < (m : Int) := by omega
              have ew : IntKind.i64.wrap (y.2.2 + (-1)) = y.2.2 + (-1) := IntWalk.i64_in _ (by omega)
              clear hset hc' hx' hfz hQ hy hU ho2 hsl hulen hne
              go_wp2_with fail
              go_roundw
              case rel => exact ⟨q + 1, by omega, by omega, by go_num, HSET.out, hG3, hb3⟩
              case measure => simp [RowKit.intOf]; omega
            · obtain rfl : q = hi' := by omega
              have hq2 : ¬ (q : Int) < (q : Int) := by omega
              go_wp2_with fail
              go_roundw
              case rel => exact ⟨0 + 1, by omega, by go_num, by rw [HSN.out]; exact ho2, by rw [HSN.out]; have := HSM.out.up lo q (by omega) (by omega) (by_ := (-1)); rw [show (4194304 : Int) + ((0 + 1 : Nat) : Int) = 4194304 + ((0 : Nat) : Int) + 1 by omega]; exact this, hb2⟩
              case measure => simp [RowKit.intOf]; omega
        | succ i' =>
          have p1 := HP.out i' rfl _ hbW
          have pv := HPV.out i' rfl
          generalize (l.getD i' (0, 0)).2 = ph at *
          have t5 : decide ((lo : Int) ≤ ph) = false := decide_eq_false (by omega)
          have e5 : IntKind.i64.wrap (((i' + 1 : Nat) : Int) - 1) = (i' : Int) := by rw [show (((i' + 1 : Nat) : Int) - 1) = (i' : Int) by omega]; exact IntWalk.i64_in _ (by omega)
          have i2 : (0 : Int) < ((i' + 1 : Nat) : Int) := by omega
          have i3 : (i' : Int) < (m2 : Int) := by omega
          have i4 : (0 : Int) ≤ (i' : Int) := by omega
          go_wp2_with fail
          go_quiet (fail)
          go_wp2_with fail
          generalize hbg : wr.heap.size = bg at *
          have hbg1 : W0.heap.size ≤ bg := by omega
          clear hbg
          go_loopw [11] (fun vq w2 => ∃ q : Nat, lo ≤ q ∧ q ≤ hi' ∧ vq = .int .i64 (q : Int) ∧ OwnF cellW 4 48 w2 W0.heap.size (.slice va m vc) (upTo Q lo q (-1)) ∧ w2.heap[bg]? = some (Obj.cells #[.int .i64 lo, .int .i64 hi'] 87) ∧ Below W0.heap.size W0 w2) (fun vq _ => hi' - (RowKit.intOf vq).toNat)
          case atStart => exact ⟨lo, Nat.le_refl _, by omega, rfl, by rw [upTo_self]; exact HO1.out, hG, below_drewN hbX _⟩
          case round =>
            obtain ⟨q, hq1, hq2, rfl, ho2, hG2, hb2⟩ := hrel
            have d0 : wr.cell? ⟨bg, 0, none⟩ = some (.int .i64 lo) := by rw [Lib.cell_of_heap hG2]; rfl
            have d1 : wr.cell? ⟨bg, 1, none⟩ = some (.int .i64 hi') := by rw [Lib.cell_of_heap hG2]; rfl
            by_cases hq : q < hi'
            · have hQ : Q[q]? = some Q[q] := List.getElem?_eq_getElem (by omega)
              obtain ⟨y, hy⟩ : ∃ y, Q[q]? = some y := ⟨_, hQ⟩
              have hU : (upTo Q lo q (-1))[q]? = some (y.1, y.2.1, y.2.2) := by rw [upTo_get, hy]; simp only [Option.map_some]; rw [if_neg (by omega)]
              have hys := HSM.out y (List.mem_of_getElem? hy)
              have hulen := upTo_len Q lo q (-1)
              obtain ⟨gg, cc, e, hBg, hgg, hroom1, hroom2, hfz⟩ := ho2.ptr (by omega)
              have hsl : m = (upTo Q lo q (-1)).length := by omega
              simp only [Value.slice.injEq] at e
              obtain ⟨rfl, _, rfl⟩ := e
              obtain ⟨g', off', x', ha', _, hx', hc'⟩ := (ho2.rw_ layW).at q (by omega)
              cases ha'
              have e1 : wr.cell? ⟨gg, q * 4 + 3, none⟩ = some (.int .i64 y.2.2) := by
                rw [hU] at hx'; cases hx'
                have := hc' 3 _ rfl
                rwa [Nat.zero_add] at this
              have f1 := hfz (q * 4 + 3)
              have hset : OwnF cellW 4 48 (wr.setCell ⟨gg, q * 4 + 3, none⟩ (.int .i64 (y.2.2 + (-1)))) W0.heap.size (.slice (some ⟨gg, 0, none⟩) m vc) (upTo Q lo (q + 1) (-1)) := by
                have hO : OwnF cellW 4 48 wr W0.heap.size (.slice (some ⟨gg, 0, none⟩) (upTo Q lo q (-1)).length vc) (upTo Q lo q (-1)) := by rw [← hsl]; exact ho2
                have := hO.setHidW q y.1 y.2.1 y.2.2 (y.2.2 + (-1)) hU
                rw [upTo_succ Q lo q (-1) hq1 y hy, ← hsl] at this
                exact this
              have hne : bg ≠ gg := fun e => by
                subst e
                rcases ho2.2 with ⟨e, h0⟩ | ⟨gx, cx, cur, e, _, hh, _⟩
                · cases e
                · cases e
                  rw [hG2] at hh
                  simp at hh
              have hG3 : (wr.setCell ⟨gg, q * 4 + 3, none⟩ (.int .i64 (y.2.2 + (-1)))).heap[bg]? = some (Obj.cells #[.int .i64 lo, .int .i64 hi'] 87) := (Below.heap_setCell _ _ _ _ (by simp only; exact hne)).trans hG2
              have hb3 : Below W0.heap.size W0 (wr.setCell ⟨gg, q * 4 + 3, none⟩ (.int .i64 (y.2.2 + (-1)))) := hb2.setCell (p := ⟨gg, q * 4 + 3, none⟩) hBg _
              have HSET : Hid (OwnF cellW 4 48 (wr.setCell ⟨gg, q * 4 + 3, none⟩ (.int .i64 (y.2.2 + (-1)))) W0.heap.size (.slice (some ⟨gg, 0, none⟩) m vc) (upTo Q lo (q + 1) (-1))) := hset
              have hkn : q < m := by omega
              have hqi : (q : Int) < (hi' : Int) := by omega
              have hqm : (q : Int) < (m : Int) := by omega
              have ew : IntKind.i64.wrap (y.2.2 + (-1)) = y.2.2 + (-1) := IntWalk.i64_in _ (by omega)
              clear hset hc' hx' hfz hQ hy hU ho2 hsl hulen hne
              go_wp2_with fail
              go_roundw
              case rel => exact ⟨q + 1, by omega, by omega, by go_num, HSET.out, hG3, hb3⟩
              case measure => simp [RowKit.intOf]; omega
            · obtain rfl : q = hi' := by omega
              have hq2 : ¬ (q : Int) < (q : Int) := by omega
              go_wp2_with fail
              go_roundw
              case rel => exact ⟨(i' + 1) + 1, by omega, by go_num, by rw [HSN.out]; exact ho2, by rw [HSN.out]; have := HSM.out.up lo q (by omega) (by omega) (by_ := (-1)); rw [show (4194304 : Int) + (((i' + 1) + 1 : Nat) : Int) = 4194304 + (((i' + 1) : Nat) : Int) + 1 by omega]; exact this, hb2⟩
              case measure => simp [RowKit.intOf]; omega
      · obtain rfl : i = m2 := by omega
        rw [show l.take i = l from List.take_of_length_le (by omega)] at ho
        have i2 : (0 : Int) < (i : Int) := by omega
        have i3 : decide ((i : Int) < (i : Int)) = false := decide_eq_false (by omega)
        have HO : Hid (OwnF cellW 4 48 wr w.heap.size (.slice va m vc) (upAll R l (-1))) := ho.mono hB0.size
        clear ho hsm
        go_wp2_with fail
        go_quiet (fail)
        go_wp2_with fail
        go_ret2
        exact ⟨_, rfl, HO.out, below_drewN hbw _⟩
end Go.Proofs.YthkfcocakhekaaaDoor
