import Derived.Test.YtlebbffpbbjakaaDoorXfI
import Derived.Test.YtlebbffpbbjakaaDoorXfL
import Derived.BigQuiet
namespace Go.Proofs.YtlebbffpbbjakaaDoor
open Go.RowKit Go.Lib
set_option maxRecDepth 100000

theorem over_row : ∀ (F : List OpV) (l : OpV), (crossRow F l).2 = overL l true F
  | [], _ => rfl
  | f :: F, l => over_row F (inclP l f true).1
theorem over_later (F : List OpV) (l : OpV) : (crossAll F [l]).2 = [overL l true F] := by
  show [(crossRow F l).2] = _
  rw [over_row]
theorem over_first : ∀ (L : List OpV) (o : OpV), (crossAll [o] L).1 = [overL o false L]
  | [], _ => rfl
  | l :: L, o => over_first L (inclP o l false).1

set_option maxHeartbeats 4000000 in
theorem same_true {w : World} {a : Option Addr} {m cap : Nat} {b : Option Addr} {capb : Nat} {l : List (Int × Int)} (h : Sp.Rng w a m cap l) (k : Sp.Rng w b m capb l) :
    Calls Tryd.prog 61 #[.slice a m cap, .slice b m capb] w fun e w' => e = .returned (.bool true) ∧ Below w.heap.size w w' := by
  have hr := h.room
  simp only [maxLen] at hr
  have HH : Hid (Sp.Rng w a m cap l) := h
  have HK : Hid (Sp.Rng w b m capb l) := k
  clear h k
  go_enter Tryd.func61, Tryd.ntmps61
  go_wp2_with fail
  go_loopw [5] (fun vi W => ∃ q : Nat, vi = .int .i64 (q : Int) ∧ q ≤ m ∧ Below w.heap.size w W) (fun vi _ => m - (RowKit.intOf vi).toNat)
  case atStart => exact ⟨0, rfl, Nat.zero_le _, Below.refl _ _⟩
  case round =>
    obtain ⟨q, rfl, hq, hb⟩ := hrel
    by_cases hlt : q < m
    · obtain ⟨g, off, rfl, hg, c0, c1⟩ := (HH.out.below hb).cells q hlt
      obtain ⟨g2, off2, rfl, hg2, d0, d1⟩ := (HK.out.below hb).cells q hlt
      have b1 : (q : Int) < (m : Int) := by omega
      have b0 : (0 : Int) ≤ (q : Int) := by omega
      generalize (l.getD q (0, 0)).1 = u at *
      generalize (l.getD q (0, 0)).2 = v at *
      clear hg hg2
      go_wp2_with fail
      go_quiet (fail)
      go_wp2_with fail
      go_roundw
      case rel => exact ⟨q + 1, by go_num, by omega, below_drewN hb _⟩
      case measure => simp [RowKit.intOf]; omega
    · have hqm : m = q := by omega
      subst hqm
      have b1 : decide ((m : Int) < (m : Int)) = false := decide_eq_false (by omega)
      go_wp2_with fail
      go_ret
      exact ⟨rfl, hb⟩
set_option maxHeartbeats 4000000 in
theorem refEqual_true {o : OpV} {w : World} {a : Option Addr} {m cap : Nat} {b : Option Addr} {capb : Nat} (h : Sp.Rng w a m cap o.l) (k : Sp.Rng w b m capb o.l) :
    Calls Tryd.prog 44 #[opVal o (.slice a m cap), opVal o (.slice b m capb)] w fun e w' => e = .returned (.bool true) ∧ Below w.heap.size w w' := by
  have HS : Hid (∀ W, Below w.heap.size w W → Calls Tryd.prog 61 #[.slice a m cap, .slice b m capb] W fun e w' => e = .returned (.bool true) ∧ Below W.heap.size W w') := fun W hb => same_true (h.below hb) (k.below hb)
  clear h k
  obtain ⟨c, n, k, p, s, l, tc, tn, on⟩ := o
  simp only [opVal] at *
  obtain ⟨W0, hW0⟩ : ∃ W0, (w.alloc (Obj.cells #[.int .i64 c, .int .i64 n, .int .i64 k, .int .i64 p, .string s, .slice a m cap, .int .i64 tc, .int .i64 tn, .bool on] 42)).alloc (Obj.cells #[.int .i64 c, .int .i64 n, .int .i64 k, .int .i64 p, .string s, .slice b m capb, .int .i64 tc, .int .i64 tn, .bool on] 42) = W0 := ⟨_, rfl⟩
  have hX : W0.heap[w.heap.size]? = some (Obj.cells #[.int .i64 c, .int .i64 n, .int .i64 k, .int .i64 p, .string s, .slice a m cap, .int .i64 tc, .int .i64 tn, .bool on] 42) := by rw [← hW0]; exact (Below.heap_alloc _ _ _ (by simp)).trans (alloc_last _ _ _ rfl)
  have hY : W0.heap[w.heap.size + 1]? = some (Obj.cells #[.int .i64 c, .int .i64 n, .int .i64 k, .int .i64 p, .string s, .slice b m capb, .int .i64 tc, .int .i64 tn, .bool on] 42) := by rw [← hW0]; exact alloc_last _ _ _ (by simp)
  have hB0 : Below w.heap.size w W0 := by rw [← hW0]; exact ((Below.refl w.heap.size w).alloc (Nat.le_refl _) _).alloc (by simp) _
  obtain ⟨ak0, ak1, ak2, ak3, ak4, ak5, ak6, ak7, ak8⟩ := box9 hX
  obtain ⟨bk0, bk1, bk2, bk3, bk4, bk5, bk6, bk7, bk8⟩ := box9 hY
  go_enter Tryd.func44, Tryd.ntmps44
  go_wp2_with fail
  refine (HS.out _ hB0).mono ?_
  rintro e w1 ⟨rfl, hb1⟩
  have hX1 := (hb1.block _ (Array.getElem?_eq_some_iff.1 hX).1).trans hX
  have hY1 := (hb1.block _ (Array.getElem?_eq_some_iff.1 hY).1).trans hY
  have hB1 := hB0.trans (hb1.mono hB0.size)
  clear ak0 ak1 ak2 ak3 ak4 ak5 ak6 ak7 ak8 bk0 bk1 bk2 bk3 bk4 bk5 bk6 bk7 bk8 hX hY hW0 hB0 hb1
  obtain ⟨ak0, ak1, ak2, ak3, ak4, ak5, ak6, ak7, ak8⟩ := box9 hX1
  obtain ⟨bk0, bk1, bk2, bk3, bk4, bk5, bk6, bk7, bk8⟩ := box9 hY1
  go_wp2_with fail
  go_ret
  exact ⟨rfl, hB1⟩
theorem sameOp_true {o : OpV} {w : World} {a : Option Addr} {m cap : Nat} {b : Option Addr} {m2 capb : Nat} (h : Sp.Rng w a m cap o.l) (k : Sp.Rng w b m2 capb o.l) :
    Calls Tryd.prog 19 #[opVal o (.slice a m cap), opVal o (.slice b m2 capb)] w fun e w' => e = .returned (.bool true) ∧ Below w.heap.size w w' := by
  obtain rfl : m = m2 := h.len.symm.trans k.len
  have HE : Hid (∀ W, Below w.heap.size w W → Calls Tryd.prog 44 #[opVal o (.slice a m cap), opVal o (.slice b m capb)] W fun e w' => e = .returned (.bool true) ∧ Below W.heap.size W w') := fun W hb => refEqual_true (h.below hb) (k.below hb)
  clear h k
  obtain ⟨c, n, k, p, s, l, tc, tn, on⟩ := o
  simp only [opVal] at *
  have hB0 : Below w.heap.size w ((w.alloc (Obj.cells #[.int .i64 c, .int .i64 n, .int .i64 k, .int .i64 p, .string s, .slice a m cap, .int .i64 tc, .int .i64 tn, .bool on] 42)).alloc (Obj.cells #[.int .i64 c, .int .i64 n, .int .i64 k, .int .i64 p, .string s, .slice b m capb, .int .i64 tc, .int .i64 tn, .bool on] 42)) := ((Below.refl w.heap.size w).alloc (Nat.le_refl _) _).alloc (by simp) _
  go_enter Tryd.func19, Tryd.ntmps19
  go_wp2_with fail
  refine (HE.out _ hB0).mono ?_
  rintro e w1 ⟨rfl, hb1⟩
  go_wp2_with fail
  go_ret
  exact ⟨rfl, hB0.trans (hb1.mono hB0.size)⟩

set_option maxHeartbeats 2000000 in
theorem first_any {w : World} {a : Option Addr} {m cap : Nat} {S : List SpecM} (h : Rw specF 5 w a m cap S) (hS : OkSpecs w S) :
    Calls Tryd.prog 16 #[.slice a m cap] w fun e w' => ∃ (kd at_ nn : Int) (pa : Option Addr) (pm pc : Nat) (on : Bool) (zs : List Int), e = .returned (.agg #[.int .i64 kd, .int .i64 at_, .int .i64 nn, .slice pa pm pc, .bool on]) ∧ Rw int1 1 w pa pm pc zs ∧ Below w.heap.size w w' := by
  by_cases hm : m = 0
  · subst hm
    clear h hS
    have hb := (Below.refl w.heap.size w).alloc (Nat.le_refl _) (Obj.cells #[.int .i64 0, .int .i64 0, .int .i64 0, .slice none 0 0, .bool false] 49)
    go_enter Tryd.func16, Tryd.ntmps16
    go_wp2_with fail
    refine bodyPost_ret (v := .agg #[.int .i64 0, .int .i64 0, .int .i64 0, .slice none 0 0, .bool false]) (by simp [results, Tryd.results16, go_sem]) rfl ⟨0, 0, 0, none, 0, 0, false, [], rfl, rw_nil w, hb⟩
  · obtain ⟨g, off, x, rfl, hg, hx, hc⟩ := h.at 0 (by omega)
    obtain ⟨zs, hz⟩ := hS x (List.mem_of_getElem? hx)
    have c0 := hc 0 _ rfl
    have c1 := hc 1 _ rfl
    have c2 := hc 2 _ rfl
    have c3 := hc 3 _ rfl
    have c4 := hc 4 _ rfl
    simp only [Nat.zero_mul, Nat.add_zero] at c0 c1 c2 c3 c4
    have t0 : ((m : Int) == 0) = false := beq_eq_false_iff_ne.2 (by omega)
    have t1 : (m == 0) = false := beq_eq_false_iff_ne.2 hm
    have b1 : (0 : Int) < (m : Int) := by omega
    clear hc hx h hS
    obtain ⟨kd, at_, nn, pa, pm, pc, on⟩ := x
    simp only at c0 c1 c2 c3 c4 hz
    have hb := (Below.refl w.heap.size w).alloc (Nat.le_refl _) (Obj.cells #[.int .i64 kd, .int .i64 at_, .int .i64 nn, .slice pa pm pc, .bool on] 49)
    go_enter Tryd.func16, Tryd.ntmps16
    go_wp2_with fail
    refine bodyPost_ret (v := .agg #[.int .i64 kd, .int .i64 at_, .int .i64 nn, .slice pa pm pc, .bool on]) (by simp [results, Tryd.results16, go_sem]) rfl ⟨kd, at_, nn, pa, pm, pc, on, zs, rfl, hz, hb⟩
end Go.Proofs.YtlebbffpbbjakaaDoor
