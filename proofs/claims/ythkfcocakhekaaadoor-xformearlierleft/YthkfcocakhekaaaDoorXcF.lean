import Derived.Test.YthkfcocakhekaaaDoorXcE
namespace Go.Proofs.YthkfcocakhekaaaDoor
open Go.RowKit Go.Lib
set_option maxRecDepth 100000

set_option maxHeartbeats 4000000 in
theorem does_st {c n p : Int} {s : ByteArray} {l : List (Int × Int)} {tc tn : Int} {on : Bool} {w : World} {a : Option Addr} {m cap : Nat} {R : List CellW} (h : Rw cellW 4 w a m cap R) (hm : m ≤ 1000) {a2 : Option Addr} {m2 cap2 : Nat} :
    Calls Tryd.prog 40 #[.slice a m cap, opVal ⟨c, n, 4, p, s, l, tc, tn, on⟩ (.slice a2 m2 cap2)] w fun e w' => ∃ v, e = .returned (.tuple #[v, .bool true]) ∧ OwnF cellW 4 48 w' w.heap.size v R ∧ Below w.heap.size w w' := by
  simp only [opVal] at *
  obtain ⟨W0, hW0⟩ : ∃ W0, w.alloc (Obj.cells #[.int .i64 c, .int .i64 n, .int .i64 4, .int .i64 p, .string s, .slice a2 m2 cap2, .int .i64 tc, .int .i64 tn, .bool on] 41) = W0 := ⟨_, rfl⟩
  have hX : W0.heap[w.heap.size]? = some (Obj.cells #[.int .i64 c, .int .i64 n, .int .i64 4, .int .i64 p, .string s, .slice a2 m2 cap2, .int .i64 tc, .int .i64 tn, .bool on] 41) := by rw [← hW0]; exact alloc_last _ _ _ rfl
  have hB0 : Below w.heap.size w W0 := by rw [← hW0]; exact (Below.refl w.heap.size w).alloc (Nat.le_refl _) _
  have alt : w.heap.size < W0.heap.size := (Array.getElem?_eq_some_iff.1 hX).1
  obtain ⟨va, vc, w1, hr1, ho1, hb1, _⟩ := appendF_all kindW layW (ownF_nil (f := cellW) (k := 4) (T := 48) W0 W0.heap.size) (Nat.le_refl _) (h.below hB0) (by simp; omega) (by simp; omega) 27
  simp only [List.length_nil, List.nil_append, Nat.zero_add] at hr1 ho1
  have HO : Hid (OwnF cellW 4 48 w1 w.heap.size (.slice va m vc) R) := ho1.mono hB0.size
  have hB1 := hB0.trans (hb1.mono hB0.size)
  have hX1 := (hb1.block _ alt).trans hX
  clear h ho1 hb1 hX
  obtain ⟨bk0, bk1, bk2, bk3, bk4, bk5, bk6, bk7, bk8⟩ := box9 hX1
  go_enter Tryd.func40, Tryd.ntmps40
  go_wp2_with (at_builtin; refine wpList_append_hr rfl _ _ 27 rfl _ _ rfl rfl hr1 ?_)
  go_quiet (fail)
  go_wp2_with fail
  go_ret2
  exact ⟨_, rfl, HO.out, below_drewN hB1 _⟩

/-- What an operation makes of a row. -/
def doesV (R : List CellW) (o : OpV) : List CellW := if o.k = 1 then insL R o.p.toNat (newL o.c o.n (wdL o)) else if o.k = 4 then R else upAll R o.l (byP o.k)
/-- It stands there. -/
structure DoesOk (R : List CellW) (o : OpV) : Prop where
  size : o.s.size ≤ 1000
  kind : (o.k = 1 ∧ 0 ≤ o.p ∧ o.p ≤ R.length) ∨ o.k = 4 ∨ ((o.k = 2 ∨ o.k = 3) ∧ o.l ≠ [] ∧ Sp.Norm (-1) o.l ∧ (∀ r ∈ o.l, 0 ≤ r.1 ∧ r.1 < r.2 ∧ r.2 ≤ (R.length : Int)) ∧ o.l.length ≤ 1000000 ∧ Small 4194304 R)
theorem does_any {o : OpV} {w : World} {a : Option Addr} {m cap : Nat} {R : List CellW} (h : Rw cellW 4 w a m cap R) (hm : m ≤ 1000) {a2 : Option Addr} {m2 cap2 : Nat} (hl : Sp.Rng w a2 m2 cap2 o.l) (ok : DoesOk R o) :
    Calls Tryd.prog 40 #[.slice a m cap, opVal o (.slice a2 m2 cap2)] w fun e w' => ∃ v, e = .returned (.tuple #[v, .bool true]) ∧ OwnF cellW 4 48 w' w.heap.size v (doesV R o) ∧ Below w.heap.size w w' := by
  have hln := h.len
  have hll := hl.len
  obtain ⟨hsz, h1 | h4 | ⟨hk, hne, hN, hin, hfew, hS⟩⟩ := ok
  · obtain ⟨e, p0, p1⟩ := h1
    obtain ⟨pn, hpn⟩ : ∃ pn : Nat, o.p = (pn : Int) := ⟨o.p.toNat, by omega⟩
    have e1 : doesV R o = insL R pn (newL o.c o.n (lawW o.s o.s.size)) := by unfold doesV wdL; rw [if_pos e, if_pos e, hpn, Int.toNat_natCast]
    rw [e1]
    obtain ⟨c, n, k, p, s, l, tc, tn, on⟩ := o
    simp only at e hpn hsz
    subst e hpn
    exact does_ins h hm (by simp only at p1; omega) hsz
  · have e1 : doesV R o = R := by unfold doesV; rw [if_neg (by omega), if_pos h4]
    rw [e1]
    obtain ⟨c, n, k, p, s, l, tc, tn, on⟩ := o
    simp only at h4
    subst h4
    exact does_st h hm
  · have e1 : doesV R o = upAll R o.l (byP o.k) := by unfold doesV; rw [if_neg (by omega), if_neg (by omega)]
    rw [e1]
    obtain ⟨c, n, k, p, s, l, tc, tn, on⟩ := o
    rw [hln] at hin
    exact does_rng h hm hl (by omega) hk hne hN hin hS
def foldV (R : List CellW) (L : List OpV) : List CellW := L.foldl doesV R
/-- All stand where they come. -/
def FoldOk (R : List CellW) (L : List OpV) : Prop := ∀ i x, L[i]? = some x → DoesOk (foldV R (L.take i)) x ∧ (foldV R (L.take i)).length ≤ 1000
theorem foldV_next (R : List CellW) (L : List OpV) (i : Nat) (x : OpV) (h : L[i]? = some x) : foldV R (L.take (i + 1)) = doesV (foldV R (L.take i)) x := by
  obtain ⟨hi, rfl⟩ := List.getElem?_eq_some_iff.1 h
  unfold foldV
  rw [List.take_succ_eq_append_getElem hi, List.foldl_append]
  rfl
set_option maxHeartbeats 4000000 in
theorem fold_any {w : World} {a : Option Addr} {m cap : Nat} {R : List CellW} (h : Rw cellW 4 w a m cap R) {b : Option Addr} {n capb : Nat} {L : List OpM} (hL : Rw opF 9 w b n capb L) (hO : OkOps w L) (ok : FoldOk R (L.map (·.1))) :
    Calls Tryd.prog 15 #[.slice a m cap, .slice b n capb] w fun e w' => ∃ a' m' cap', e = .returned (.tuple #[.slice a' m' cap', .bool true]) ∧ Rw cellW 4 w' a' m' cap' (foldV R (L.map (·.1))) ∧ Below w.heap.size w w' := by
  have hln := hL.len
  have hnb : n ≤ 9223372036854775807 := by have := hL.room; simp only [maxLen] at this; omega
  have HL : Hid (Rw opF 9 w b n capb L) := hL
  have HO : Hid (OkOps w L) := hO
  have HK : Hid (FoldOk R (L.map (·.1))) := ok
  have HR : Hid (Rw cellW 4 w a m cap R) := h
  clear hL hO ok h
  go_enter Tryd.func15, Tryd.ntmps15
  go_wp2_with fail
  go_loopw [0, 6, 7, 8] (fun v0 vi v7 v8 W => ∃ (j : Nat) (a' : Option Addr) (m' cap' : Nat), j ≤ n ∧ vi = .int .i64 j ∧ v0 = .slice a' m' cap' ∧ Hid (Rw cellW 4 W a' m' cap' (foldV R ((L.map (·.1)).take j))) ∧ Below w.heap.size w W) (fun _ vi _ _ _ => n - (RowKit.intOf vi).toNat)
  case atStart => exact ⟨0, a, m, cap, Nat.zero_le _, rfl, rfl, HR, Below.refl _ _⟩
  case round =>
    obtain ⟨j, a', m', cap', hj, rfl, rfl, hr, hb⟩ := hrel
    by_cases hlt : j < n
    · obtain ⟨g, off, x, rfl, hg, hx, c0, c1, c2, c3, c4, c5, c6, c7, c8⟩ := HL.out.at9 hb j hlt
      have hxm : (L.map (·.1))[j]? = some x.1 := by rw [List.getElem?_map, hx]; rfl
      have hnx := foldV_next R (L.map (·.1)) j x.1 hxm
      obtain ⟨hok, hlen⟩ := HK.out j x.1 hxm
      have hrl := hr.out.len
      have HC := does_any hr.out (by omega) (((HO.out x (List.mem_of_getElem? hx)).1).below hb) hok
      rw [← hnx] at HC
      have HC2 : Hid (Calls Tryd.prog 40 #[.slice a' m' cap', opVal x.1 (.slice x.2.1 x.2.2.1 x.2.2.2)] wr fun e w' => ∃ v, e = .returned (.tuple #[v, .bool true]) ∧ OwnF cellW 4 48 w' wr.heap.size v (foldV R ((L.map (·.1)).take (j + 1))) ∧ Below wr.heap.size wr w') := HC
      clear HC hnx hok hlen hx hxm hr hrl
      obtain ⟨⟨xc, xn, k, p, s, l, tc, tn, on⟩, xa, xm, xcap⟩ := x
      simp only [opVal] at *
      have b1 : (j : Int) < (n : Int) := by omega
      have b0 : (0 : Int) ≤ (j : Int) := by omega
      go_wp2_with fail
      refine HC2.out.mono ?_
      rintro e w2 ⟨v, rfl, ho, hb2⟩
      obtain ⟨va, vc, rfl⟩ := ho.shape
      have hb3 := hb.trans (hb2.mono hb.size)
      have HQ : Hid (Rw cellW 4 w2 va (foldV R ((L.map (·.1)).take (j + 1))).length vc (foldV R ((L.map (·.1)).take (j + 1)))) := ho.rw_ layW
      clear HC2 ho hb2 hb c0 c1 c2 c3 c4 c5 c6 c7 c8
      go_wp2_with fail
      go_roundw
      case rel => exact ⟨j + 1, va, _, vc, by omega, by go_num, rfl, HQ, hb3⟩
      case measure => simp [RowKit.intOf]; omega
    · obtain rfl : j = n := by omega
      have e1 : (L.map (·.1)).take j = L.map (·.1) := List.take_of_length_le (by rw [List.length_map]; omega)
      rw [e1] at hr
      go_wp2_with fail
      go_ret2
      exact ⟨_, _, _, rfl, hr.out, hb⟩
end Go.Proofs.YthkfcocakhekaaaDoor
