import Derived.Test.YtmeciikfnbbllaaGreatDoorOgB
import Derived.Test.YtmeciikfnbbllaaGreatDoorGr7
import Derived.Test.YtmeciikfnbbllaaGreatDoorRunes
import Derived.Test.YtmeciikfnbbllaaGreatDoorSpD
namespace Go.Proofs.YtmeciikfnbbllaaGreatDoor
open Go.RowKit Go.Lib Sp
set_option maxRecDepth 100000
theorem gExtra_any {o : OpV} {w : World} {a : Option Addr} {m cap : Nat} (hlen : o.l.length = m) :
    Calls Tryz.prog 101 #[opVal o (.slice a m cap)] w fun e w' => e = .returned (.bool (extra o)) ∧ Below w.heap.size w w' := by
  obtain ⟨c, n, k, p, s, l, tc, tn, on⟩ := o
  simp only at hlen
  simp only [opVal]
  have hP : (p ≠ 0 ∧ extP ⟨c, n, k, p, s, l, tc, tn, on⟩ = true) ∨ ((p = 0 ∧ s ≠ ⟨#[]⟩) ∧ extP ⟨c, n, k, p, s, l, tc, tn, on⟩ = true) ∨ ((p = 0 ∧ s = ⟨#[]⟩) ∧ extP ⟨c, n, k, p, s, l, tc, tn, on⟩ = false) := by
    simp only [extP, ← size_zero_iff]
    by_cases h0 : p = 0 <;> by_cases h3 : s = ⟨#[]⟩ <;> simp [h0, h3]
  have hT : (tc ≠ 0 ∧ extT ⟨c, n, k, p, s, l, tc, tn, on⟩ = true) ∨ ((tc = 0 ∧ tn ≠ 0) ∧ extT ⟨c, n, k, p, s, l, tc, tn, on⟩ = true) ∨ ((tc = 0 ∧ tn = 0) ∧ extT ⟨c, n, k, p, s, l, tc, tn, on⟩ = on) := by
    simp only [extT]
    by_cases h0 : tc = 0 <;> by_cases h3 : tn = 0 <;> simp [h0, h3]
  have hL : (0 < m ∧ ext0 ⟨c, n, k, p, s, l, tc, tn, on⟩ = true) ∨ (m = 0 ∧ ext0 ⟨c, n, k, p, s, l, tc, tn, on⟩ = false) := by
    simp only [ext0]
    cases l with
    | nil => right; exact ⟨by simpa using hlen.symm, rfl⟩
    | cons x t => left; exact ⟨by simp at hlen; omega, rfl⟩
  have hK : k = 1 ∨ k = 4 ∨ (k ≠ 1 ∧ k ≠ 4) := by omega
  rcases hP with ⟨hp, ep⟩ | ⟨hp, ep⟩ | ⟨hp, ep⟩
  · rcases hT with ⟨ht, et⟩ | ⟨ht, et⟩ | ⟨ht, et⟩
    · rcases hL with ⟨hl, el⟩ | ⟨hl, el⟩
      · rcases hK with hk | hk | hk
        · rw [show extra ⟨c, n, k, p, s, l, tc, tn, on⟩ = true from by simp only [extra, ep, et, el]; simp [hk]]
          exact gEx_0000 hp ht hl hk
        · rw [show extra ⟨c, n, k, p, s, l, tc, tn, on⟩ = true from by simp only [extra, ep, et, el]; simp [hk]]
          exact gEx_0001 hp ht hl hk
        · rw [show extra ⟨c, n, k, p, s, l, tc, tn, on⟩ = true from by simp only [extra, ep, et, el]; simp [hk]]
          exact gEx_0002 hp ht hl hk
      · rcases hK with hk | hk | hk
        · rw [show extra ⟨c, n, k, p, s, l, tc, tn, on⟩ = true from by simp only [extra, ep, et, el]; simp [hk]]
          exact gEx_0010 hp ht hl hk
        · rw [show extra ⟨c, n, k, p, s, l, tc, tn, on⟩ = true from by simp only [extra, ep, et, el]; simp [hk]]
          exact gEx_0011 hp ht hl hk
        · rw [show extra ⟨c, n, k, p, s, l, tc, tn, on⟩ = true from by simp only [extra, ep, et, el]; simp [hk]]
          exact gEx_0012 hp ht hl hk
    · rcases hL with ⟨hl, el⟩ | ⟨hl, el⟩
      · rcases hK with hk | hk | hk
        · rw [show extra ⟨c, n, k, p, s, l, tc, tn, on⟩ = true from by simp only [extra, ep, et, el]; simp [hk]]
          exact gEx_0100 hp ht hl hk
        · rw [show extra ⟨c, n, k, p, s, l, tc, tn, on⟩ = true from by simp only [extra, ep, et, el]; simp [hk]]
          exact gEx_0101 hp ht hl hk
        · rw [show extra ⟨c, n, k, p, s, l, tc, tn, on⟩ = true from by simp only [extra, ep, et, el]; simp [hk]]
          exact gEx_0102 hp ht hl hk
      · rcases hK with hk | hk | hk
        · rw [show extra ⟨c, n, k, p, s, l, tc, tn, on⟩ = true from by simp only [extra, ep, et, el]; simp [hk]]
          exact gEx_0110 hp ht hl hk
        · rw [show extra ⟨c, n, k, p, s, l, tc, tn, on⟩ = true from by simp only [extra, ep, et, el]; simp [hk]]
          exact gEx_0111 hp ht hl hk
        · rw [show extra ⟨c, n, k, p, s, l, tc, tn, on⟩ = true from by simp only [extra, ep, et, el]; simp [hk]]
          exact gEx_0112 hp ht hl hk
    · rcases hL with ⟨hl, el⟩ | ⟨hl, el⟩
      · rcases hK with hk | hk | hk
        · rw [show extra ⟨c, n, k, p, s, l, tc, tn, on⟩ = true from by simp only [extra, ep, et, el]; simp [hk]]
          exact gEx_0200 hp ht hl hk
        · rw [show extra ⟨c, n, k, p, s, l, tc, tn, on⟩ = true from by simp only [extra, ep, et, el]; simp [hk]]
          exact gEx_0201 hp ht hl hk
        · rw [show extra ⟨c, n, k, p, s, l, tc, tn, on⟩ = true from by simp only [extra, ep, et, el]; simp [hk]]
          exact gEx_0202 hp ht hl hk
      · rcases hK with hk | hk | hk
        · rw [show extra ⟨c, n, k, p, s, l, tc, tn, on⟩ = on from by simp only [extra, ep, et, el]; simp [hk]]
          exact gEx_0210 hp ht hl hk
        · rw [show extra ⟨c, n, k, p, s, l, tc, tn, on⟩ = true from by simp only [extra, ep, et, el]; simp [hk]]
          exact gEx_0211 hp ht hl hk
        · rw [show extra ⟨c, n, k, p, s, l, tc, tn, on⟩ = true from by simp only [extra, ep, et, el]; simp [hk]]
          exact gEx_0212 hp ht hl hk
  · rcases hT with ⟨ht, et⟩ | ⟨ht, et⟩ | ⟨ht, et⟩
    · rcases hL with ⟨hl, el⟩ | ⟨hl, el⟩
      · rcases hK with hk | hk | hk
        · rw [show extra ⟨c, n, k, p, s, l, tc, tn, on⟩ = true from by simp only [extra, ep, et, el]; simp [hk]]
          exact gEx_1000 hp ht hl hk
        · rw [show extra ⟨c, n, k, p, s, l, tc, tn, on⟩ = true from by simp only [extra, ep, et, el]; simp [hk]]
          exact gEx_1001 hp ht hl hk
        · rw [show extra ⟨c, n, k, p, s, l, tc, tn, on⟩ = true from by simp only [extra, ep, et, el]; simp [hk]]
          exact gEx_1002 hp ht hl hk
      · rcases hK with hk | hk | hk
        · rw [show extra ⟨c, n, k, p, s, l, tc, tn, on⟩ = true from by simp only [extra, ep, et, el]; simp [hk]]
          exact gEx_1010 hp ht hl hk
        · rw [show extra ⟨c, n, k, p, s, l, tc, tn, on⟩ = true from by simp only [extra, ep, et, el]; simp [hk]]
          exact gEx_1011 hp ht hl hk
        · rw [show extra ⟨c, n, k, p, s, l, tc, tn, on⟩ = true from by simp only [extra, ep, et, el]; simp [hk]]
          exact gEx_1012 hp ht hl hk
    · rcases hL with ⟨hl, el⟩ | ⟨hl, el⟩
      · rcases hK with hk | hk | hk
        · rw [show extra ⟨c, n, k, p, s, l, tc, tn, on⟩ = true from by simp only [extra, ep, et, el]; simp [hk]]
          exact gEx_1100 hp ht hl hk
        · rw [show extra ⟨c, n, k, p, s, l, tc, tn, on⟩ = true from by simp only [extra, ep, et, el]; simp [hk]]
          exact gEx_1101 hp ht hl hk
        · rw [show extra ⟨c, n, k, p, s, l, tc, tn, on⟩ = true from by simp only [extra, ep, et, el]; simp [hk]]
          exact gEx_1102 hp ht hl hk
      · rcases hK with hk | hk | hk
        · rw [show extra ⟨c, n, k, p, s, l, tc, tn, on⟩ = true from by simp only [extra, ep, et, el]; simp [hk]]
          exact gEx_1110 hp ht hl hk
        · rw [show extra ⟨c, n, k, p, s, l, tc, tn, on⟩ = true from by simp only [extra, ep, et, el]; simp [hk]]
          exact gEx_1111 hp ht hl hk
        · rw [show extra ⟨c, n, k, p, s, l, tc, tn, on⟩ = true from by simp only [extra, ep, et, el]; simp [hk]]
          exact gEx_1112 hp ht hl hk
    · rcases hL with ⟨hl, el⟩ | ⟨hl, el⟩
      · rcases hK with hk | hk | hk
        · rw [show extra ⟨c, n, k, p, s, l, tc, tn, on⟩ = true from by simp only [extra, ep, et, el]; simp [hk]]
          exact gEx_1200 hp ht hl hk
        · rw [show extra ⟨c, n, k, p, s, l, tc, tn, on⟩ = true from by simp only [extra, ep, et, el]; simp [hk]]
          exact gEx_1201 hp ht hl hk
        · rw [show extra ⟨c, n, k, p, s, l, tc, tn, on⟩ = true from by simp only [extra, ep, et, el]; simp [hk]]
          exact gEx_1202 hp ht hl hk
      · rcases hK with hk | hk | hk
        · rw [show extra ⟨c, n, k, p, s, l, tc, tn, on⟩ = on from by simp only [extra, ep, et, el]; simp [hk]]
          exact gEx_1210 hp ht hl hk
        · rw [show extra ⟨c, n, k, p, s, l, tc, tn, on⟩ = true from by simp only [extra, ep, et, el]; simp [hk]]
          exact gEx_1211 hp ht hl hk
        · rw [show extra ⟨c, n, k, p, s, l, tc, tn, on⟩ = true from by simp only [extra, ep, et, el]; simp [hk]]
          exact gEx_1212 hp ht hl hk
  · rcases hT with ⟨ht, et⟩ | ⟨ht, et⟩ | ⟨ht, et⟩
    · rcases hL with ⟨hl, el⟩ | ⟨hl, el⟩
      · rcases hK with hk | hk | hk
        · rw [show extra ⟨c, n, k, p, s, l, tc, tn, on⟩ = true from by simp only [extra, ep, et, el]; simp [hk]]
          exact gEx_2000 hp ht hl hk
        · rw [show extra ⟨c, n, k, p, s, l, tc, tn, on⟩ = true from by simp only [extra, ep, et, el]; simp [hk]]
          exact gEx_2001 hp ht hl hk
        · rw [show extra ⟨c, n, k, p, s, l, tc, tn, on⟩ = true from by simp only [extra, ep, et, el]; simp [hk]]
          exact gEx_2002 hp ht hl hk
      · rcases hK with hk | hk | hk
        · rw [show extra ⟨c, n, k, p, s, l, tc, tn, on⟩ = true from by simp only [extra, ep, et, el]; simp [hk]]
          exact gEx_2010 hp ht hl hk
        · rw [show extra ⟨c, n, k, p, s, l, tc, tn, on⟩ = false from by simp only [extra, ep, et, el]; simp [hk]]
          exact gEx_2011 hp ht hl hk
        · rw [show extra ⟨c, n, k, p, s, l, tc, tn, on⟩ = true from by simp only [extra, ep, et, el]; simp [hk]]
          exact gEx_2012 hp ht hl hk
    · rcases hL with ⟨hl, el⟩ | ⟨hl, el⟩
      · rcases hK with hk | hk | hk
        · rw [show extra ⟨c, n, k, p, s, l, tc, tn, on⟩ = true from by simp only [extra, ep, et, el]; simp [hk]]
          exact gEx_2100 hp ht hl hk
        · rw [show extra ⟨c, n, k, p, s, l, tc, tn, on⟩ = true from by simp only [extra, ep, et, el]; simp [hk]]
          exact gEx_2101 hp ht hl hk
        · rw [show extra ⟨c, n, k, p, s, l, tc, tn, on⟩ = true from by simp only [extra, ep, et, el]; simp [hk]]
          exact gEx_2102 hp ht hl hk
      · rcases hK with hk | hk | hk
        · rw [show extra ⟨c, n, k, p, s, l, tc, tn, on⟩ = true from by simp only [extra, ep, et, el]; simp [hk]]
          exact gEx_2110 hp ht hl hk
        · rw [show extra ⟨c, n, k, p, s, l, tc, tn, on⟩ = false from by simp only [extra, ep, et, el]; simp [hk]]
          exact gEx_2111 hp ht hl hk
        · rw [show extra ⟨c, n, k, p, s, l, tc, tn, on⟩ = true from by simp only [extra, ep, et, el]; simp [hk]]
          exact gEx_2112 hp ht hl hk
    · rcases hL with ⟨hl, el⟩ | ⟨hl, el⟩
      · rcases hK with hk | hk | hk
        · rw [show extra ⟨c, n, k, p, s, l, tc, tn, on⟩ = true from by simp only [extra, ep, et, el]; simp [hk]]
          exact gEx_2200 hp ht hl hk
        · rw [show extra ⟨c, n, k, p, s, l, tc, tn, on⟩ = true from by simp only [extra, ep, et, el]; simp [hk]]
          exact gEx_2201 hp ht hl hk
        · rw [show extra ⟨c, n, k, p, s, l, tc, tn, on⟩ = on from by simp only [extra, ep, et, el]; simp [hk]]
          exact gEx_2202 hp ht hl hk
      · rcases hK with hk | hk | hk
        · rw [show extra ⟨c, n, k, p, s, l, tc, tn, on⟩ = on from by simp only [extra, ep, et, el]; simp [hk]]
          exact gEx_2210 hp ht hl hk
        · rw [show extra ⟨c, n, k, p, s, l, tc, tn, on⟩ = false from by simp only [extra, ep, et, el]; simp [hk]]
          exact gEx_2211 hp ht hl hk
        · rw [show extra ⟨c, n, k, p, s, l, tc, tn, on⟩ = on from by simp only [extra, ep, et, el]; simp [hk]]
          exact gEx_2212 hp ht hl hk
set_option maxHeartbeats 2000000 in
theorem gInsert_any {o : OpV} {v : Value} {total : Int} (h0 : 0 ≤ total) (h1 : total ≤ 1048576) (hs : o.s.size ≤ 2097152) (w : World) :
    Calls Tryz.prog 102 #[opVal o v, .int .i64 total] w fun e w' => e = .returned (.int .i64 (insP o total)) ∧ Below w.heap.size w w' := by
  obtain ⟨c, n, k, p, s, l, tc, tn, on⟩ := o
  obtain ⟨x, y, z, hc⟩ : ∃ x y z, check s = (x, y, z) := ⟨_, _, _, rfl⟩
  have hx0 : 0 ≤ x := by have := check_nonneg s; rw [hc] at this; exact this
  have hw2 := (Below.refl w.heap.size w).alloc (Nat.le_refl _) (Obj.cells #[.int .i64 c, .int .i64 n, .int .i64 k, .int .i64 p, .string s, v, .int .i64 tc, .int .i64 tn, .bool on] 33)
  have HC := refCheck_any s hs (w.alloc (Obj.cells #[.int .i64 c, .int .i64 n, .int .i64 k, .int .i64 p, .string s, v, .int .i64 tc, .int .i64 tn, .bool on] 33))
  rw [hc] at HC
  obtain ⟨r, hr⟩ : ∃ r, insP ⟨c, n, k, p, s, l, tc, tn, on⟩ total = r := ⟨_, rfl⟩
  rw [hr]
  simp only [insP, hc] at hr
  clear hc hs
  simp only [opVal]
  have HC2 : Hid (Calls Tryz.prog 86 #[.string s] (w.alloc (Obj.cells #[.int .i64 c, .int .i64 n, .int .i64 k, .int .i64 p, .string s, v, .int .i64 tc, .int .i64 tn, .bool on] 33)) fun e w' => e = .returned (.tuple #[.int .i64 x, .int .i64 y, .int .i64 z]) ∧ Below (w.alloc (Obj.cells #[.int .i64 c, .int .i64 n, .int .i64 k, .int .i64 p, .string s, v, .int .i64 tc, .int .i64 tn, .bool on] 33)).heap.size (w.alloc (Obj.cells #[.int .i64 c, .int .i64 n, .int .i64 k, .int .i64 p, .string s, v, .int .i64 tc, .int .i64 tn, .bool on] 33)) w') := HC
  clear HC
  go_enter Tryz.func102, Tryz.ntmps102
  go_wp2_with fail
  refine HC2.out.mono ?_
  rintro e w1 ⟨rfl, hb1⟩
  have hB := hw2.trans (hb1.mono hw2.size)
  have d3 : w1.cell? ⟨w.heap.size, 3, none⟩ = some (.int .i64 p) := (hb1.cell (p := ⟨w.heap.size, 3, none⟩) (by simp)).trans (World.cell?_alloc_mark ..)
  clear hw2 hb1 HC2
  by_cases hz : z = 0
  · subst hz
    rw [if_neg (by simp)] at hr
    by_cases hx : x = 0
    · subst hx
      rw [if_pos rfl] at hr; subst hr
      go_wp2_with fail
      go_ret
      exact ⟨rfl, hB⟩
    · rw [if_neg hx] at hr
      have t1 : (x == 0) = false := beq_eq_false_iff_ne.2 hx
      clear hx
      by_cases hl : 256 < x
      · rw [if_pos hl] at hr; subst hr
        go_wp2_with fail
        go_ret
        exact ⟨rfl, hB⟩
      · rw [if_neg hl] at hr
        by_cases hp : p < 0 ∨ total < p
        · rw [if_pos hp] at hr; subst hr
          by_cases hp0 : p < 0
          · clear hp
            go_wp2_with fail
            go_ret
            exact ⟨rfl, hB⟩
          · have hp1 : total < p := by omega
            clear hp
            go_wp2_with fail
            go_ret
            exact ⟨rfl, hB⟩
        · rw [if_neg hp] at hr
          have hp0 : 0 ≤ p := by omega
          have hp1 : p ≤ total := by omega
          clear hp
          by_cases hg : 1048576 < total + x
          · rw [if_pos hg] at hr; subst hr
            go_wp2_with fail
            go_ret
            exact ⟨rfl, hB⟩
          · rw [if_neg hg] at hr; subst hr
            go_wp2_with fail
            go_ret
            exact ⟨rfl, hB⟩
  · rw [if_pos hz] at hr; subst hr
    have t1 : (z != 0) = true := bne_iff_ne.2 hz
    clear hz
    go_wp2_with fail
    go_ret
    exact ⟨rfl, hB⟩
set_option maxHeartbeats 1000000 in
theorem gWidth_any {o : OpV} {v : Value} (hs : o.s.size ≤ 2097152) (w : World) :
    Calls Tryz.prog 64 #[opVal o v] w fun e w' => e = .returned (.int .i64 (widthP o)) ∧ Below w.heap.size w w' := by
  obtain ⟨c, n, k, p, s, l, tc, tn, on⟩ := o
  obtain ⟨x, y, z, hc⟩ : ∃ x y z, check s = (x, y, z) := ⟨_, _, _, rfl⟩
  have hxz : z ≠ 0 → x = 0 := by
    obtain ⟨rs, rest, h⟩ := split_any s
    have h2 := h.check_eq
    rw [hc] at h2
    split at h2 <;> simp only [Prod.mk.injEq] at h2
    · intro hz; exact absurd h2.2.2 hz
    · intro _; exact h2.1
  have hw2 := (Below.refl w.heap.size w).alloc (Nat.le_refl _) (Obj.cells #[.int .i64 c, .int .i64 n, .int .i64 k, .int .i64 p, .string s, v, .int .i64 tc, .int .i64 tn, .bool on] 33)
  have HC := refCheck_any s hs (w.alloc (Obj.cells #[.int .i64 c, .int .i64 n, .int .i64 k, .int .i64 p, .string s, v, .int .i64 tc, .int .i64 tn, .bool on] 33))
  rw [hc] at HC
  obtain ⟨r, hr⟩ : ∃ r, widthP ⟨c, n, k, p, s, l, tc, tn, on⟩ = r := ⟨_, rfl⟩
  rw [hr]
  simp only [widthP, hc] at hr
  clear hc hs
  simp only [opVal]
  have HC2 : Hid (Calls Tryz.prog 86 #[.string s] (w.alloc (Obj.cells #[.int .i64 c, .int .i64 n, .int .i64 k, .int .i64 p, .string s, v, .int .i64 tc, .int .i64 tn, .bool on] 33)) fun e w' => e = .returned (.tuple #[.int .i64 x, .int .i64 y, .int .i64 z]) ∧ Below (w.alloc (Obj.cells #[.int .i64 c, .int .i64 n, .int .i64 k, .int .i64 p, .string s, v, .int .i64 tc, .int .i64 tn, .bool on] 33)).heap.size (w.alloc (Obj.cells #[.int .i64 c, .int .i64 n, .int .i64 k, .int .i64 p, .string s, v, .int .i64 tc, .int .i64 tn, .bool on] 33)) w') := HC
  clear HC
  by_cases hk : k = 1
  · subst hk
    rw [if_pos rfl] at hr; subst hr
    go_enter Tryz.func64, Tryz.ntmps64
    go_wp2_with fail
    refine HC2.out.mono ?_
    rintro e w1 ⟨rfl, hb1⟩
    have hB := hw2.trans (hb1.mono hw2.size)
    clear hw2 hb1 HC2
    by_cases hz : z = 0
    · subst hz
      clear hxz
      go_wp2_with fail
      go_ret
      exact ⟨rfl, hB⟩
    · have hx := hxz hz
      subst hx
      have t1 : (z != 0) = true := bne_iff_ne.2 hz
      clear hz hxz
      go_wp2_with fail
      go_ret
      exact ⟨rfl, hB⟩
  · rw [if_neg hk] at hr; subst hr
    have t1 : (k != 1) = true := bne_iff_ne.2 hk
    clear hk HC2 hxz
    go_enter Tryz.func64, Tryz.ntmps64
    go_wp2_with fail
    go_ret
    exact ⟨rfl, hw2⟩
end Go.Proofs.YtmeciikfnbbllaaGreatDoor
