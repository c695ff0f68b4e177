import Derived.Test.YtelcjhflopgojaaDoorOpD
namespace Go.Proofs.YtelcjhflopgojaaDoor
open Go.RowKit Go.Lib Sp
set_option maxRecDepth 100000

set_option maxHeartbeats 2000000 in
theorem checkTarget_any {o : OpV} {v : Value} (w : World) :
    Calls Tryd.prog 22 #[opVal o v] w fun e w' => e = .returned (.int .i64 (tgtP o)) ∧ Below w.heap.size w w' := by
  have HI := run_eqID
  have HG : Tryd.prog.eqGuardType Tryd.prog.depth 31 = false := by kernel_rfl
  obtain ⟨c, n, k, p, s, l, tc, tn, on⟩ := o
  obtain ⟨b, hb⟩ : ∃ b, isIdP tc tn = b := ⟨_, rfl⟩
  have HD : Hid (∀ w' : World, Calls Tryd.prog 19 #[.agg #[.int .i64 tc, .int .i64 tn]] w' fun e w'' => e = .returned (.bool b) ∧ Below w'.heap.size w' w'') := fun w' => hb ▸ isID_any tc tn w'
  obtain ⟨r, hr⟩ : ∃ r, tgtP ⟨c, n, k, p, s, l, tc, tn, on⟩ = r := ⟨_, rfl⟩
  rw [hr]
  simp only [tgtP, hb] at hr
  clear hb
  simp only [opVal]
  have hw2 := (Below.refl w.heap.size w).alloc (Nat.le_refl _) (Obj.cells #[.int .i64 c, .int .i64 n, .int .i64 k, .int .i64 p, .string s, v, .int .i64 tc, .int .i64 tn, .bool on] 37)
  cases b with
  | false =>
    rw [if_pos (.inl rfl)] at hr; subst hr
    go_enter Tryd.func22, Tryd.ntmps22
    go_wp2_with fail
    refine (HD.out _).mono ?_
    rintro e w1 ⟨rfl, hb1⟩
    have hB := hw2.trans (hb1.mono hw2.size)
    clear hw2 hb1 HD
    go_wp2_with fail
    go_ret
    exact ⟨rfl, hB⟩
  | true =>
    have hcs : (tc = c ∧ tn = n) ∨ ¬ (tc = c ∧ tn = n) := Classical.em _
    rcases hcs with h | h
    · rw [if_pos (.inr h)] at hr; subst hr
      obtain ⟨rfl, rfl⟩ := h
      go_enter Tryd.func22, Tryd.ntmps22
      go_wp2_with fail
      refine (HD.out _).mono ?_
      rintro e w1 ⟨rfl, hb1⟩
      have hB := hw2.trans (hb1.mono hw2.size)
      have d0 : w1.cell? ⟨w.heap.size, 0, none⟩ = some (.int .i64 tc) := (hb1.cell (p := ⟨w.heap.size, 0, none⟩) (by simp)).trans (World.cell?_alloc_mark ..)
      have d1 : w1.cell? ⟨w.heap.size, 1, none⟩ = some (.int .i64 tn) := (hb1.cell (p := ⟨w.heap.size, 1, none⟩) (by simp)).trans (World.cell?_alloc_mark ..)
      have d6 : w1.cell? ⟨w.heap.size, 6, none⟩ = some (.int .i64 tc) := (hb1.cell (p := ⟨w.heap.size, 6, none⟩) (by simp)).trans (World.cell?_alloc_mark ..)
      have d7 : w1.cell? ⟨w.heap.size, 7, none⟩ = some (.int .i64 tn) := (hb1.cell (p := ⟨w.heap.size, 7, none⟩) (by simp)).trans (World.cell?_alloc_mark ..)
      clear hw2 hb1 HD
      go_wp2_with fail
      go_ret
      exact ⟨rfl, hB⟩
    · rw [if_neg (by rintro (h' | h') <;> first | exact h h' | cases h')] at hr; subst hr
      have ht : (tc == c && tn == n) = false := by
        rw [Bool.and_eq_false_iff]
        by_cases h1 : tc = c
        · right; exact beq_eq_false_iff_ne.2 fun e => h ⟨h1, e⟩
        · left; exact beq_eq_false_iff_ne.2 h1
      have HI2 : ∀ w, (Op.equalIn 10000 31 (.agg #[.int .i64 tc, .int .i64 tn]) (.agg #[.int .i64 c, .int .i64 n])).run Tryd.prog w = .ok false w := fun w => by rw [HI, ht]
      clear h ht HI
      go_enter Tryd.func22, Tryd.ntmps22
      go_wp2_with fail
      refine (HD.out _).mono ?_
      rintro e w1 ⟨rfl, hb1⟩
      have hB := hw2.trans (hb1.mono hw2.size)
      have d0 : w1.cell? ⟨w.heap.size, 0, none⟩ = some (.int .i64 c) := (hb1.cell (p := ⟨w.heap.size, 0, none⟩) (by simp)).trans (World.cell?_alloc_mark ..)
      have d1 : w1.cell? ⟨w.heap.size, 1, none⟩ = some (.int .i64 n) := (hb1.cell (p := ⟨w.heap.size, 1, none⟩) (by simp)).trans (World.cell?_alloc_mark ..)
      have d6 : w1.cell? ⟨w.heap.size, 6, none⟩ = some (.int .i64 tc) := (hb1.cell (p := ⟨w.heap.size, 6, none⟩) (by simp)).trans (World.cell?_alloc_mark ..)
      have d7 : w1.cell? ⟨w.heap.size, 7, none⟩ = some (.int .i64 tn) := (hb1.cell (p := ⟨w.heap.size, 7, none⟩) (by simp)).trans (World.cell?_alloc_mark ..)
      clear hw2 hb1 HD
      go_wp2_with fail
      go_ret
      exact ⟨rfl, hB⟩

theorem chk_nonneg (s : ByteArray) : ∀ (b pos n : Nat), 0 ≤ (chk s b pos n).1
  | 0, _, n => by simp only [Go.Proofs.YtelcjhflopgojaaDoor.chk]; omega
  | b + 1, pos, n => by
    simp only [Go.Proofs.YtelcjhflopgojaaDoor.chk]
    split
    · split
      · exact Int.le_refl _
      · split
        · exact chk_nonneg s b _ _
        · exact Int.le_refl _
    · simp only; omega
theorem check_nonneg (s : ByteArray) : 0 ≤ (check s).1 := chk_nonneg s _ _ _

set_option maxHeartbeats 2000000 in
theorem checkInsert_any {o : OpV} {v : Value} {total : Int} (h0 : 0 ≤ total) (h1 : total ≤ 1048576) (hs : o.s.size ≤ 9223372036854775807) (w : World) (hw : Bar w) :
    Calls Tryd.prog 21 #[opVal o v, .int .i64 total] w fun e w' => e = .returned (.int .i64 (insP o total)) ∧ Below w.heap.size w w' := by
  obtain ⟨c, n, k, p, s, l, tc, tn, on⟩ := o
  obtain ⟨x, y, z, hc⟩ : ∃ x y z, check s = (x, y, z) := ⟨_, _, _, rfl⟩
  have hx0 : 0 ≤ x := by have := check_nonneg s; rw [hc] at this; exact this
  have hw2 := (Below.refl w.heap.size w).alloc (Nat.le_refl _) (Obj.cells #[.int .i64 c, .int .i64 n, .int .i64 k, .int .i64 p, .string s, v, .int .i64 tc, .int .i64 tn, .bool on] 37)
  have HC := check_bar hs hc _ (hw.below hw2)
  obtain ⟨r, hr⟩ : ∃ r, insP ⟨c, n, k, p, s, l, tc, tn, on⟩ total = r := ⟨_, rfl⟩
  rw [hr]
  simp only [insP, hc] at hr
  clear hc hs hw
  simp only [opVal]
  have HC2 : Hid (Calls Tryd.prog 24 #[.string s] (w.alloc (Obj.cells #[.int .i64 c, .int .i64 n, .int .i64 k, .int .i64 p, .string s, v, .int .i64 tc, .int .i64 tn, .bool on] 37)) fun e w' => e = .returned (.tuple #[.int .i64 x, .int .i64 y, .int .i64 z]) ∧ Below (w.alloc (Obj.cells #[.int .i64 c, .int .i64 n, .int .i64 k, .int .i64 p, .string s, v, .int .i64 tc, .int .i64 tn, .bool on] 37)).heap.size (w.alloc (Obj.cells #[.int .i64 c, .int .i64 n, .int .i64 k, .int .i64 p, .string s, v, .int .i64 tc, .int .i64 tn, .bool on] 37)) w') := HC
  clear HC
  go_enter Tryd.func21, Tryd.ntmps21
  go_wp2_with fail
  refine HC2.out.mono ?_
  rintro e w1 ⟨rfl, hb1⟩
  have hB := hw2.trans (hb1.mono hw2.size)
  have d3 : w1.cell? ⟨w.heap.size, 3, none⟩ = some (.int .i64 p) := (hb1.cell (p := ⟨w.heap.size, 3, none⟩) (by simp)).trans (World.cell?_alloc_mark ..)
  clear hw2 hb1 HC2
  by_cases hz : z = 0
  · subst hz
    rw [if_neg (by simp)] at hr
    by_cases hx : x = 0
    · subst hx
      rw [if_pos rfl] at hr; subst hr
      go_wp2_with fail
      go_ret
      exact ⟨rfl, hB⟩
    · rw [if_neg hx] at hr
      have t1 : (x == 0) = false := beq_eq_false_iff_ne.2 hx
      clear hx
      by_cases hl : 256 < x
      · rw [if_pos hl] at hr; subst hr
        go_wp2_with fail
        go_ret
        exact ⟨rfl, hB⟩
      · rw [if_neg hl] at hr
        by_cases hp : p < 0 ∨ total < p
        · rw [if_pos hp] at hr; subst hr
          by_cases hp0 : p < 0
          · clear hp
            go_wp2_with fail
            go_ret
            exact ⟨rfl, hB⟩
          · have hp1 : total < p := by omega
            clear hp
            go_wp2_with fail
            go_ret
            exact ⟨rfl, hB⟩
        · rw [if_neg hp] at hr
          have hp0 : 0 ≤ p := by omega
          have hp1 : p ≤ total := by omega
          clear hp
          by_cases hg : 1048576 < total + x
          · rw [if_pos hg] at hr; subst hr
            go_wp2_with fail
            go_ret
            exact ⟨rfl, hB⟩
          · rw [if_neg hg] at hr; subst hr
            go_wp2_with fail
            go_ret
            exact ⟨rfl, hB⟩
  · rw [if_pos hz] at hr; subst hr
    have t1 : (z == 0) = false := beq_eq_false_iff_ne.2 hz
    clear hz
    go_wp2_with fail
    go_ret
    exact ⟨rfl, hB⟩
end Go.Proofs.YtelcjhflopgojaaDoor
