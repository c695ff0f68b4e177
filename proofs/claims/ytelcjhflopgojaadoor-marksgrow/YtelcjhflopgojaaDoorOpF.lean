import Derived.Test.YtelcjhflopgojaaDoorOpE
namespace Go.Proofs.YtelcjhflopgojaaDoor
open Go.RowKit Go.Lib Sp
set_option maxRecDepth 100000

set_option maxHeartbeats 2000000 in
theorem checkRanges_any {o : OpV} {total : Int} {w : World} {a : Option Addr} {m cap : Nat} (h : Rng w a m cap o.l) :
    Calls Tryd.prog 23 #[opVal o (.slice a m cap), .int .i64 total] w fun e w' => e = .returned (.int .i64 (rngP o total)) ∧ Below w.heap.size w w' := by
  obtain ⟨c, n, k, p, s, l, tc, tn, on⟩ := o
  simp only at h
  have hlen := h.len
  have hroom := h.room
  have hmb : m ≤ 9223372036854775807 := by simp only [maxLen] at hroom; omega
  have hw2 := (Below.refl w.heap.size w).alloc (Nat.le_refl _) (Obj.cells #[.int .i64 c, .int .i64 n, .int .i64 k, .int .i64 p, .string s, .slice a m cap, .int .i64 tc, .int .i64 tn, .bool on] 37)
  obtain ⟨x, z, hc⟩ : ∃ x z, checkL l = (x, z) := ⟨_, _, rfl⟩
  have HC := Sp.check_any (h.below hw2)
  rw [hc] at HC
  have HC2 : Hid (Calls Tryd.prog 26 #[.slice a m cap] (w.alloc (Obj.cells #[.int .i64 c, .int .i64 n, .int .i64 k, .int .i64 p, .string s, .slice a m cap, .int .i64 tc, .int .i64 tn, .bool on] 37)) fun e w' => e = .returned (.tuple #[.int .i64 x, .int .i64 z]) ∧ Below (w.alloc (Obj.cells #[.int .i64 c, .int .i64 n, .int .i64 k, .int .i64 p, .string s, .slice a m cap, .int .i64 tc, .int .i64 tn, .bool on] 37)).heap.size (w.alloc (Obj.cells #[.int .i64 c, .int .i64 n, .int .i64 k, .int .i64 p, .string s, .slice a m cap, .int .i64 tc, .int .i64 tn, .bool on] 37)) w') := HC
  clear HC
  obtain ⟨r, hr⟩ : ∃ r, rngP ⟨c, n, k, p, s, l, tc, tn, on⟩ total = r := ⟨_, rfl⟩
  rw [hr]
  simp only [rngP, hc] at hr
  clear hc
  simp only [opVal]
  by_cases hm : m = 0
  · subst hm
    rw [if_pos (List.eq_nil_of_length_eq_zero hlen)] at hr; subst hr
    clear h hlen HC2
    go_enter Tryd.func23, Tryd.ntmps23
    go_wp2_with fail
    go_ret
    exact ⟨rfl, hw2⟩
  · rw [if_neg (fun e => hm (by rw [← hlen, e]; rfl))] at hr
    obtain ⟨i, rfl⟩ : ∃ i, m = i + 1 := ⟨m - 1, by omega⟩
    obtain ⟨g, off, rfl, hg, hc0, hc1⟩ := h.cells i (by omega)
    have hlast : lastHi l = (l.getD i (0, 0)).2 := by unfold lastHi; rw [hlen]; rfl
    rw [hlast] at hr
    obtain ⟨hi, hhi⟩ : ∃ hi, (l.getD i (0, 0)).2 = hi := ⟨_, rfl⟩
    rw [hhi] at hr hc1
    clear hhi hlast hc0 hm
    go_enter Tryd.func23, Tryd.ntmps23
    have t0 : (((i + 1 : Nat) : Int) == 0) = false := beq_eq_false_iff_ne.2 (by omega)
    go_wp2_with fail
    refine HC2.out.mono ?_
    rintro e w1 ⟨rfl, hb1⟩
    have hB := hw2.trans (hb1.mono hw2.size)
    have d5 : w1.cell? ⟨w.heap.size, 5, none⟩ = some (.slice (some ⟨g, off, none⟩) (i + 1) cap) := (hb1.cell (p := ⟨w.heap.size, 5, none⟩) (by simp)).trans (World.cell?_alloc_mark ..)
    have dh : w1.cell? ⟨g, off + i * 2 + 1, none⟩ = some (.int .i64 hi) := (hB.cell (p := ⟨g, off + i * 2 + 1, none⟩) hg).trans hc1
    clear hw2 hb1 HC2 h hc1 hlen
    by_cases hz : z = 0
    · subst hz
      rw [if_neg (by simp)] at hr
      by_cases ht : total < hi
      · rw [if_pos ht] at hr; subst hr
        go_wp2_with fail
        go_ret
        exact ⟨rfl, hB⟩
      · rw [if_neg ht] at hr; subst hr
        go_wp2_with fail
        go_ret
        exact ⟨rfl, hB⟩
    · rw [if_pos hz] at hr; subst hr
      have t1 : (z == 0) = false := beq_eq_false_iff_ne.2 hz
      clear hz
      go_wp2_with fail
      go_ret
      exact ⟨rfl, hB⟩
end Go.Proofs.YtelcjhflopgojaaDoor
