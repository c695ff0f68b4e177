import Derived.Test.YtmeciikfnbbllaaGreatDoorOpD
namespace Go.Proofs.YtmeciikfnbbllaaGreatDoor
open Go.RowKit Go.Lib Sp
set_option maxRecDepth 100000
set_option maxHeartbeats 2000000 in
theorem checkTarget_any {o : OpV} {v : Value} (w : World) :
    Calls Tryz.prog 45 #[opVal o v] w fun e w' => e = .returned (.int .i64 (tgtP o)) ∧ Below w.heap.size w w' := by
  have HI := run_eqID
  have HG : Tryz.prog.eqGuardType Tryz.prog.depth 27 = false := by kernel_rfl
  obtain ⟨c, n, k, p, s, l, tc, tn, on⟩ := o
  obtain ⟨b, hb⟩ : ∃ b, isIdP tc tn = b := ⟨_, rfl⟩
  have HD : Hid (∀ w' : World, Calls Tryz.prog 42 #[.agg #[.int .i64 tc, .int .i64 tn]] w' fun e w'' => e = .returned (.bool b) ∧ Below w'.heap.size w' w'') := fun w' => hb ▸ isID_any tc tn w'
  obtain ⟨r, hr⟩ : ∃ r, tgtP ⟨c, n, k, p, s, l, tc, tn, on⟩ = r := ⟨_, rfl⟩
  rw [hr]
  simp only [tgtP, hb] at hr
  clear hb
  simp only [opVal]
  have hw2 := (Below.refl w.heap.size w).alloc (Nat.le_refl _) (Obj.cells #[.int .i64 c, .int .i64 n, .int .i64 k, .int .i64 p, .string s, v, .int .i64 tc, .int .i64 tn, .bool on] 33)
  cases b with
  | false =>
    rw [if_pos (.inl rfl)] at hr; subst hr
    go_enter Tryz.func45, Tryz.ntmps45
    go_wp2_with fail
    refine (HD.out _).mono ?_
    rintro e w1 ⟨rfl, hb1⟩
    have hB := hw2.trans (hb1.mono hw2.size)
    clear hw2 hb1 HD
    go_wp2_with fail
    go_ret
    exact ⟨rfl, hB⟩
  | true =>
    have hcs : (tc = c ∧ tn = n) ∨ ¬ (tc = c ∧ tn = n) := Classical.em _
    rcases hcs with h | h
    · rw [if_pos (.inr h)] at hr; subst hr
      obtain ⟨rfl, rfl⟩ := h
      go_enter Tryz.func45, Tryz.ntmps45
      go_wp2_with fail
      refine (HD.out _).mono ?_
      rintro e w1 ⟨rfl, hb1⟩
      have hB := hw2.trans (hb1.mono hw2.size)
      have d0 : w1.cell? ⟨w.heap.size, 0, none⟩ = some (.int .i64 tc) := (hb1.cell (p := ⟨w.heap.size, 0, none⟩) (by simp)).trans (World.cell?_alloc_mark ..)
      have d1 : w1.cell? ⟨w.heap.size, 1, none⟩ = some (.int .i64 tn) := (hb1.cell (p := ⟨w.heap.size, 1, none⟩) (by simp)).trans (World.cell?_alloc_mark ..)
      have d6 : w1.cell? ⟨w.heap.size, 6, none⟩ = some (.int .i64 tc) := (hb1.cell (p := ⟨w.heap.size, 6, none⟩) (by simp)).trans (World.cell?_alloc_mark ..)
      have d7 : w1.cell? ⟨w.heap.size, 7, none⟩ = some (.int .i64 tn) := (hb1.cell (p := ⟨w.heap.size, 7, none⟩) (by simp)).trans (World.cell?_alloc_mark ..)
      clear hw2 hb1 HD
      go_wp2_with fail
      go_ret
      exact ⟨rfl, hB⟩
    · rw [if_neg (by rintro (h' | h'); · cases h'
                     · exact h h')] at hr; subst hr
      have ht : (tc == c && tn == n) = false := by
        rw [Bool.and_eq_false_iff]
        by_cases h1 : tc = c
        · right; exact beq_eq_false_iff_ne.2 fun e => h ⟨h1, e⟩
        · left; exact beq_eq_false_iff_ne.2 h1
      have HI2 : ∀ w, (Op.equalIn 10000 27 (.agg #[.int .i64 tc, .int .i64 tn]) (.agg #[.int .i64 c, .int .i64 n])).run Tryz.prog w = .ok false w := fun w => by rw [HI, ht]
      clear h ht HI
      go_enter Tryz.func45, Tryz.ntmps45
      go_wp2_with fail
      refine (HD.out _).mono ?_
      rintro e w1 ⟨rfl, hb1⟩
      have hB := hw2.trans (hb1.mono hw2.size)
      have d0 : w1.cell? ⟨w.heap.size, 0, none⟩ = some (.int .i64 c) := (hb1.cell (p := ⟨w.heap.size, 0, none⟩) (by simp)).trans (World.cell?_alloc_mark ..)
      have d1 : w1.cell? ⟨w.heap.size, 1, none⟩ = some (.int .i64 n) := (hb1.cell (p := ⟨w.heap.size, 1, none⟩) (by simp)).trans (World.cell?_alloc_mark ..)
      have d6 : w1.cell? ⟨w.heap.size, 6, none⟩ = some (.int .i64 tc) := (hb1.cell (p := ⟨w.heap.size, 6, none⟩) (by simp)).trans (World.cell?_alloc_mark ..)
      have d7 : w1.cell? ⟨w.heap.size, 7, none⟩ = some (.int .i64 tn) := (hb1.cell (p := ⟨w.heap.size, 7, none⟩) (by simp)).trans (World.cell?_alloc_mark ..)
      clear hw2 hb1 HD
      go_wp2_with fail
      go_ret
      exact ⟨rfl, hB⟩
theorem chk_nonneg (s : ByteArray) : ∀ (b pos n : Nat), 0 ≤ (chk s b pos n).1
  | 0, _, n => by simp only [Go.Proofs.YtmeciikfnbbllaaGreatDoor.chk]; omega
  | b + 1, pos, n => by
    simp only [Go.Proofs.YtmeciikfnbbllaaGreatDoor.chk]
    split
    · split
      · exact Int.le_refl _
      · split
        · exact chk_nonneg s b _ _
        · exact Int.le_refl _
    · simp only; omega
theorem check_nonneg (s : ByteArray) : 0 ≤ (check s).1 := chk_nonneg s _ _ _
set_option maxHeartbeats 2000000 in
theorem checkInsert_any {o : OpV} {v : Value} {total : Int} (h0 : 0 ≤ total) (h1 : total ≤ 1048576) (hs : o.s.size ≤ 9223372036854775807) (w : World) (hw : Bar w) :
    Calls Tryz.prog 44 #[opVal o v, .int .i64 total] w fun e w' => e = .returned (.int .i64 (insP o total)) ∧ Below w.heap.size w w' := by
  obtain ⟨c, n, k, p, s, l, tc, tn, on⟩ := o
  obtain ⟨x, y, z, hc⟩ : ∃ x y z, check s = (x, y, z) := ⟨_, _, _, rfl⟩
  have hx0 : 0 ≤ x := by have := check_nonneg s; rw [hc] at this; exact this
  have hw2 := (Below.refl w.heap.size w).alloc (Nat.le_refl _) (Obj.cells #[.int .i64 c, .int .i64 n, .int .i64 k, .int .i64 p, .string s, v, .int .i64 tc, .int .i64 tn, .bool on] 33)
  have HC := check_bar hs hc _ (hw.below hw2)
  obtain ⟨r, hr⟩ : ∃ r, insP ⟨c, n, k, p, s, l, tc, tn, on⟩ total = r := ⟨_, rfl⟩
  rw [hr]
  simp only [insP, hc] at hr
  clear hc hs hw
  simp only [opVal]
  have HC2 : Hid (Calls Tryz.prog 25 #[.string s] (w.alloc (Obj.cells #[.int .i64 c, .int .i64 n, .int .i64 k, .int .i64 p, .string s, v, .int .i64 tc, .int .i64 tn, .bool on] 33)) fun e w' => e = .returned (.tuple #[.int .i64 x, .int .i64 y, .int .i64 z]) ∧ Below (w.alloc (Obj.cells #[.int .i64 c, .int .i64 n, .int .i64 k, .int .i64 p, .string s, v, .int .i64 tc, .int .i64 tn, .bool on] 33)).heap.size (w.alloc (Obj.cells #[.int .i64 c, .int .i64 n, .int .i64 k, .int .i64 p, .string s, v, .int .i64 tc, .int .i64 tn, .bool on] 33)) w') := HC
  clear HC
  go_enter Tryz.func44, Tryz.ntmps44
  go_wp2_with fail
  refine HC2.out.mono ?_
  rintro e w1 ⟨rfl, hb1⟩
  have hB := hw2.trans (hb1.mono hw2.size)
  have d3 : w1.cell? ⟨w.heap.size, 3, none⟩ = some (.int .i64 p) := (hb1.cell (p := ⟨w.heap.size, 3, none⟩) (by simp)).trans (World.cell?_alloc_mark ..)
  clear hw2 hb1 HC2
  by_cases hz : z = 0
  · subst hz
    rw [if_neg (by simp)] at hr
    by_cases hx : x = 0
    · subst hx
      rw [if_pos rfl] at hr; subst hr
      go_wp2_with fail
      go_ret
      exact ⟨rfl, hB⟩
    · rw [if_neg hx] at hr
      have t1 : (x == 0) = false := beq_eq_false_iff_ne.2 hx
      clear hx
      by_cases hl : 256 < x
      · rw [if_pos hl] at hr; subst hr
        go_wp2_with fail
        go_ret
        exact ⟨rfl, hB⟩
      · rw [if_neg hl] at hr
        by_cases hp : p < 0 ∨ total < p
        · rw [if_pos hp] at hr; subst hr
          by_cases hp0 : p < 0
          · clear hp
            go_wp2_with fail
            go_ret
            exact ⟨rfl, hB⟩
          · have hp1 : total < p := by omega
            clear hp
            go_wp2_with fail
            go_ret
            exact ⟨rfl, hB⟩
        · rw [if_neg hp] at hr
          have hp0 : 0 ≤ p := by omega
          have hp1 : p ≤ total := by omega
          clear hp
          by_cases hg : 1048576 < total + x
          · rw [if_pos hg] at hr; subst hr
            go_wp2_with fail
            go_ret
            exact ⟨rfl, hB⟩
          · rw [if_neg hg] at hr; subst hr
            go_wp2_with fail
            go_ret
            exact ⟨rfl, hB⟩
  · rw [if_pos hz] at hr; subst hr
    have t1 : (z == 0) = false := beq_eq_false_iff_ne.2 hz
    clear hz
    go_wp2_with fail
    go_ret
    exact ⟨rfl, hB⟩
end Go.Proofs.YtmeciikfnbbllaaGreatDoor

namespace Go.Proofs.YtmeciikfnbbllaaGreatDoor
open Go.RowKit Go.Lib Sp
set_option maxRecDepth 100000
set_option maxHeartbeats 2000000 in
theorem checkRanges_any {o : OpV} {total : Int} {w : World} {a : Option Addr} {m cap : Nat} (h : Rng w a m cap o.l) :
    Calls Tryz.prog 46 #[opVal o (.slice a m cap), .int .i64 total] w fun e w' => e = .returned (.int .i64 (rngP o total)) ∧ Below w.heap.size w w' := by
  obtain ⟨c, n, k, p, s, l, tc, tn, on⟩ := o
  simp only at h
  have hlen := h.len
  have hroom := h.room
  have hmb : m ≤ 9223372036854775807 := by simp only [maxLen] at hroom; omega
  have hw2 := (Below.refl w.heap.size w).alloc (Nat.le_refl _) (Obj.cells #[.int .i64 c, .int .i64 n, .int .i64 k, .int .i64 p, .string s, .slice a m cap, .int .i64 tc, .int .i64 tn, .bool on] 33)
  obtain ⟨x, z, hc⟩ : ∃ x z, checkL l = (x, z) := ⟨_, _, rfl⟩
  have HC := Sp.check_any (h.below hw2)
  rw [hc] at HC
  have HC2 : Hid (Calls Tryz.prog 72 #[.slice a m cap] (w.alloc (Obj.cells #[.int .i64 c, .int .i64 n, .int .i64 k, .int .i64 p, .string s, .slice a m cap, .int .i64 tc, .int .i64 tn, .bool on] 33)) fun e w' => e = .returned (.tuple #[.int .i64 x, .int .i64 z]) ∧ Below (w.alloc (Obj.cells #[.int .i64 c, .int .i64 n, .int .i64 k, .int .i64 p, .string s, .slice a m cap, .int .i64 tc, .int .i64 tn, .bool on] 33)).heap.size (w.alloc (Obj.cells #[.int .i64 c, .int .i64 n, .int .i64 k, .int .i64 p, .string s, .slice a m cap, .int .i64 tc, .int .i64 tn, .bool on] 33)) w') := HC
  clear HC
  obtain ⟨r, hr⟩ : ∃ r, rngP ⟨c, n, k, p, s, l, tc, tn, on⟩ total = r := ⟨_, rfl⟩
  rw [hr]
  simp only [rngP, hc] at hr
  clear hc
  simp only [opVal]
  by_cases hm : m = 0
  · subst hm
    rw [if_pos (List.eq_nil_of_length_eq_zero hlen)] at hr; subst hr
    clear h hlen HC2
    go_enter Tryz.func46, Tryz.ntmps46
    go_wp2_with fail
    go_ret
    exact ⟨rfl, hw2⟩
  · rw [if_neg (fun e => hm (by rw [← hlen, e]; rfl))] at hr
    obtain ⟨i, rfl⟩ : ∃ i, m = i + 1 := ⟨m - 1, by omega⟩
    obtain ⟨g, off, rfl, hg, hc0, hc1⟩ := h.cells i (by omega)
    have hlast : lastHi l = (l.getD i (0, 0)).2 := by unfold lastHi; rw [hlen]; rfl
    rw [hlast] at hr
    obtain ⟨hi, hhi⟩ : ∃ hi, (l.getD i (0, 0)).2 = hi := ⟨_, rfl⟩
    rw [hhi] at hr hc1
    clear hhi hlast hc0 hm
    go_enter Tryz.func46, Tryz.ntmps46
    have t0 : (((i + 1 : Nat) : Int) == 0) = false := beq_eq_false_iff_ne.2 (by omega)
    go_wp2_with fail
    refine HC2.out.mono ?_
    rintro e w1 ⟨rfl, hb1⟩
    have hB := hw2.trans (hb1.mono hw2.size)
    have d5 : w1.cell? ⟨w.heap.size, 5, none⟩ = some (.slice (some ⟨g, off, none⟩) (i + 1) cap) := (hb1.cell (p := ⟨w.heap.size, 5, none⟩) (by simp)).trans (World.cell?_alloc_mark ..)
    have dh : w1.cell? ⟨g, off + i * 2 + 1, none⟩ = some (.int .i64 hi) := (hB.cell (p := ⟨g, off + i * 2 + 1, none⟩) hg).trans hc1
    clear hw2 hb1 HC2 h hc1 hlen
    by_cases hz : z = 0
    · subst hz
      rw [if_neg (by simp)] at hr
      by_cases ht : total < hi
      · rw [if_pos ht] at hr; subst hr
        go_wp2_with fail
        trace_state
        go_ret
        exact ⟨rfl, hB⟩
      · rw [if_neg ht] at hr; subst hr
        go_wp2_with fail
        go_ret
        exact ⟨rfl, hB⟩
    · rw [if_pos hz] at hr; subst hr
      have t1 : (z == 0) = false := beq_eq_false_iff_ne.2 hz
      clear hz
      go_wp2_with fail
      go_ret
      exact ⟨rfl, hB⟩
end Go.Proofs.YtmeciikfnbbllaaGreatDoor
