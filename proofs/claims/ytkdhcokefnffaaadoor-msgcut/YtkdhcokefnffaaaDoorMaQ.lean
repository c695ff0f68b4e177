import Derived.Test.YtkdhcokefnffaaaDoorMaP
import Derived.Laws.Cover4
import Derived.Laws.Cover4
/-! The sentences' own pick, letters, steps. -/
namespace Go.Proofs.YtkdhcokefnffaaaDoor
open Go.RowKit Go.Lib Sp
set_option maxRecDepth 100000

theorem pick_any (k n : Int) (hn : 1 ≤ n) (hN : n ≤ 1073741824) (w : World) : Calls Tryd.prog 11 #[.int .i64 k, .int .i64 n] w fun e w' => ∃ z : Nat, e = .returned (.int .i64 z) ∧ (z : Int) < n ∧ w' = w := by
  have h0 : ¬ n = 0 := by omega
  have hm1 := Int.tmod_lt_of_pos k (show (0 : Int) < n by omega)
  have hm2 := Int.lt_tmod_of_pos k (show (0 : Int) < n by omega)
  by_cases hs : Int.tmod k n < 0
  · have d1 : decide (Int.tmod k n < 0) = true := decide_eq_true hs
    have HZ : Hid (Int.tmod k n < 0 ∧ Int.tmod k n < n ∧ -n < Int.tmod k n ∧ n ≤ 1073741824) := ⟨hs, hm1, hm2, hN⟩
    go_enter Tryd.func11, Tryd.ntmps11
    go_wp2_with fail
    go_ret
    obtain ⟨z1, z2, z3, z4⟩ := HZ.out
    exact ⟨(Int.tmod k n + n).toNat, by simp; omega, by omega, rfl⟩
  · have d1 : decide (Int.tmod k n < 0) = false := decide_eq_false hs
    have HZ : Hid (¬ Int.tmod k n < 0 ∧ Int.tmod k n < n) := ⟨hs, hm1⟩
    go_enter Tryd.func11, Tryd.ntmps11
    go_wp2_with fail
    go_ret
    obtain ⟨z1, z2⟩ := HZ.out
    exact ⟨(Int.tmod k n).toNat, by simp; omega, by omega, rfl⟩

def rune1 (x : Int) : List Value := [.int .i32 x]
theorem layU : Lay rune1 1 := ⟨fun _ => rfl, by decide, fun x u hu => by simp [rune1] at hu; subst hu; rfl⟩
theorem kindU : Kind Tryd.prog 23 21 1 4 := kind_of Tryd.underlying23 (z := .int .i32 0) (by kernel_rfl) rfl
theorem conv_runes {W : World} {B : Nat} {a : Option Addr} {n cap : Nat} {rs : List Int} (h : OwnF rune1 1 21 W B (.slice a n cap) rs) (h0 : rs ≠ []) : ∃ s, (convert 23 9 (.slice a n cap)).run Tryd.prog W = .ok (.string s) W := by
  have hr := h.rw_ layU
  have hl := hr.len
  have hn : 0 < n := by rw [← hl]; exact List.length_pos_iff.2 h0
  obtain ⟨g, off, rfl, hg, hc⟩ := hr.cells hn
  have := run_convert_runes (P := Tryd.prog) W 23 9 21 ⟨g, off, none⟩ n cap rs (by omega) Tryd.underlying23 Tryd.underlying21 Tryd.underlying9 (fun j hj => by
    have hx : rs[j]? = some rs[j] := List.getElem?_eq_getElem (by omega)
    have := hc j _ hx 0 _ rfl
    rw [addr_add']
    simp only [Nat.mul_one, Nat.add_zero] at this
    rw [this]
    simp [hx])
  exact ⟨_, this⟩

set_option maxHeartbeats 4000000 in
theorem letters_any {w : World} {a : Option Addr} {n cap : Nat} {zs : List Int} (h : Rw rune1 1 w a n cap zs) :
    Calls Tryd.prog 22 #[.slice a n cap] w fun e w' => ∃ s, e = .returned (.string s) ∧ Below w.heap.size w w' := by
  have hlen := h.len
  have hroom := h.room
  have hn : n ≤ 9223372036854775807 := by simp only [maxLen] at hroom; omega
  go_enter Tryd.func22, Tryd.ntmps22
  go_wp2_with fail
  go_loopw [3, 4, 5] (fun v vi _ W => ∃ rs : List Int, vi = .int .i64 (rs.length : Int) ∧ rs.length ≤ n ∧ rs.length ≤ 256 ∧ OwnF rune1 1 21 W w.heap.size v rs ∧ Below w.heap.size w W) (fun _ vi _ _ => n - (RowKit.intOf vi).toNat)
  case atStart => exact ⟨[], rfl, Nat.zero_le _, by simp, ownF_nil _ _, Below.refl _ _⟩
  case round =>
    obtain ⟨rs, rfl, hr1, hr2, ho, hB⟩ := hrel
    by_cases hj : rs.length < n ∧ rs.length < 256
    · obtain ⟨hj1, hj2⟩ := hj
      have b1 : (rs.length : Int) < (n : Int) := by omega
      have b2 : (rs.length : Int) < 256 := by omega
      obtain ⟨g, off, x, rfl, hg, hx, hc⟩ := h.at rs.length hj1
      have c0 := (hB.cell (p := ⟨g, off + rs.length * 1 + 0, none⟩) hg).trans (hc 0 _ rfl)
      simp only [Nat.add_zero, Nat.mul_one] at c0
      clear hc hx
      have hcs : (x = 10) ∨ (32 ≤ x ∧ x ≤ 126) ∨ (161 ≤ x ∧ x ≤ 55295) ∨ (65536 ≤ x ∧ x ≤ 131069) ∨ (x < 32 ∧ ¬ x = 10) ∨ (127 ≤ x ∧ x < 161) ∨ (55296 ≤ x ∧ x < 65536) ∨ (131070 ≤ x) := by omega
      rcases hcs with hx1 | hx1 | hx1 | hx1 | hx1 | hx1 | hx1 | hx1
      · skip
        subst hx1
        obtain ⟨g5, cap5, w6, hr, ho6, hb6, _, _⟩ := appendF_one kindU layU ho hB.size 10 #[.int .i32 10] rfl 21 (by omega) (by omega) 23
        have hb7 : Below w.heap.size w w6 := hB.trans hb6
        clear hb6 ho hB
        go_wp2_with (at_builtin; refine wpList_append_hr rfl _ _ 23 rfl _ _ rfl rfl hr ?_)
        exact ⟨⟨rs ++ [10], by simp, by simp; omega, by simp; omega, by simpa using ho6, hb7⟩, by simp [RowKit.intOf]; omega⟩
      · skip
        have t1 : (x == 10) = false := beq_eq_false_iff_ne.2 (by omega)
        have t2 : decide (x = 10) = false := decide_eq_false (by omega)
        have t3 : ¬ x = 10 := by omega
        have q1 : (x != 10) = true := by simp; omega
        obtain ⟨g5, cap5, w6, hr, ho6, hb6, _, _⟩ := appendF_one kindU layU ho hB.size x #[.int .i32 x] rfl 21 (by omega) (by omega) 23
        have hb7 : Below w.heap.size w w6 := hB.trans hb6
        clear hb6 ho hB
        go_wp2_with (at_builtin; refine wpList_append_hr rfl _ _ 23 rfl _ _ rfl rfl hr ?_)
        exact ⟨⟨rs ++ [x], by simp, by simp; omega, by simp; omega, by simpa using ho6, hb7⟩, by simp [RowKit.intOf]; omega⟩
      · skip
        have t1 : (x == 10) = false := beq_eq_false_iff_ne.2 (by omega)
        have t2 : decide (x = 10) = false := decide_eq_false (by omega)
        have t3 : ¬ x = 10 := by omega
        have q1 : (x != 10) = true := by simp; omega
        obtain ⟨g5, cap5, w6, hr, ho6, hb6, _, _⟩ := appendF_one kindU layU ho hB.size x #[.int .i32 x] rfl 21 (by omega) (by omega) 23
        have hb7 : Below w.heap.size w w6 := hB.trans hb6
        clear hb6 ho hB
        go_wp2_with (at_builtin; refine wpList_append_hr rfl _ _ 23 rfl _ _ rfl rfl hr ?_)
        exact ⟨⟨rs ++ [x], by simp, by simp; omega, by simp; omega, by simpa using ho6, hb7⟩, by simp [RowKit.intOf]; omega⟩
      · skip
        have t1 : (x == 10) = false := beq_eq_false_iff_ne.2 (by omega)
        have t2 : decide (x = 10) = false := decide_eq_false (by omega)
        have t3 : ¬ x = 10 := by omega
        have q1 : (x != 10) = true := by simp; omega
        obtain ⟨g5, cap5, w6, hr, ho6, hb6, _, _⟩ := appendF_one kindU layU ho hB.size x #[.int .i32 x] rfl 21 (by omega) (by omega) 23
        have hb7 : Below w.heap.size w w6 := hB.trans hb6
        clear hb6 ho hB
        go_wp2_with (at_builtin; refine wpList_append_hr rfl _ _ 23 rfl _ _ rfl rfl hr ?_)
        exact ⟨⟨rs ++ [x], by simp, by simp; omega, by simp; omega, by simpa using ho6, hb7⟩, by simp [RowKit.intOf]; omega⟩
      · skip
        have t1 : (x == 10) = false := beq_eq_false_iff_ne.2 (by omega)
        have t2 : decide (x = 10) = false := decide_eq_false (by omega)
        have t3 : ¬ x = 10 := by omega
        have q1 : (x != 10) = true := by simp; omega
        obtain ⟨g5, cap5, w6, hr, ho6, hb6, _, _⟩ := appendF_one kindU layU ho hB.size 97 #[.int .i32 97] rfl 21 (by omega) (by omega) 23
        have hb7 : Below w.heap.size w w6 := hB.trans hb6
        clear hb6 ho hB
        go_wp2_with (at_builtin; refine wpList_append_hr rfl _ _ 23 rfl _ _ rfl rfl hr ?_)
        exact ⟨⟨rs ++ [97], by simp, by simp; omega, by simp; omega, by simpa using ho6, hb7⟩, by simp [RowKit.intOf]; omega⟩
      · skip
        have t1 : (x == 10) = false := beq_eq_false_iff_ne.2 (by omega)
        have t2 : decide (x = 10) = false := decide_eq_false (by omega)
        have t3 : ¬ x = 10 := by omega
        have q1 : (x != 10) = true := by simp; omega
        obtain ⟨g5, cap5, w6, hr, ho6, hb6, _, _⟩ := appendF_one kindU layU ho hB.size 97 #[.int .i32 97] rfl 21 (by omega) (by omega) 23
        have hb7 : Below w.heap.size w w6 := hB.trans hb6
        clear hb6 ho hB
        go_wp2_with (at_builtin; refine wpList_append_hr rfl _ _ 23 rfl _ _ rfl rfl hr ?_)
        exact ⟨⟨rs ++ [97], by simp, by simp; omega, by simp; omega, by simpa using ho6, hb7⟩, by simp [RowKit.intOf]; omega⟩
      · skip
        have t1 : (x == 10) = false := beq_eq_false_iff_ne.2 (by omega)
        have t2 : decide (x = 10) = false := decide_eq_false (by omega)
        have t3 : ¬ x = 10 := by omega
        have q1 : (x != 10) = true := by simp; omega
        obtain ⟨g5, cap5, w6, hr, ho6, hb6, _, _⟩ := appendF_one kindU layU ho hB.size 97 #[.int .i32 97] rfl 21 (by omega) (by omega) 23
        have hb7 : Below w.heap.size w w6 := hB.trans hb6
        clear hb6 ho hB
        go_wp2_with (at_builtin; refine wpList_append_hr rfl _ _ 23 rfl _ _ rfl rfl hr ?_)
        exact ⟨⟨rs ++ [97], by simp, by simp; omega, by simp; omega, by simpa using ho6, hb7⟩, by simp [RowKit.intOf]; omega⟩
      · skip
        have t1 : (x == 10) = false := beq_eq_false_iff_ne.2 (by omega)
        have t2 : decide (x = 10) = false := decide_eq_false (by omega)
        have t3 : ¬ x = 10 := by omega
        have q1 : (x != 10) = true := by simp; omega
        obtain ⟨g5, cap5, w6, hr, ho6, hb6, _, _⟩ := appendF_one kindU layU ho hB.size 97 #[.int .i32 97] rfl 21 (by omega) (by omega) 23
        have hb7 : Below w.heap.size w w6 := hB.trans hb6
        clear hb6 ho hB
        go_wp2_with (at_builtin; refine wpList_append_hr rfl _ _ 23 rfl _ _ rfl rfl hr ?_)
        exact ⟨⟨rs ++ [97], by simp, by simp; omega, by simp; omega, by simpa using ho6, hb7⟩, by simp [RowKit.intOf]; omega⟩

    · obtain ⟨va, vc, rfl⟩ := ho.shape
      clear h
      rcases Nat.eq_zero_or_pos rs.length with h0 | h0
      · obtain rfl : rs = [] := List.length_eq_zero_iff.1 h0
        have hn0 : n = 0 := by simp at hj; omega
        subst hn0
        obtain ⟨g5, cap5, w6, hr, ho6, hb6, _, _⟩ := appendF_one kindU layU ho hB.size 120 #[.int .i32 120] rfl 21 (by simp) (by simp) 23
        obtain ⟨s, hcv⟩ := conv_runes ho6 (by simp)
        have hb7 : Below w.heap.size w w6 := hB.trans hb6
        clear hb6 ho hB ho6
        simp only [List.length_nil, Nat.zero_add] at *
        go_wp2_with (at_builtin; refine wpList_append_hr rfl _ _ 23 rfl _ _ rfl rfl hr ?_)
        go_ret
        exact ⟨s, rfl, hb7⟩
      · obtain ⟨s, hcv⟩ := conv_runes ho (by intro e; rw [e] at h0; simp at h0)
        have e1 : ¬ (rs.length : Int) = 0 := by omega
        have e0 : ((rs.length : Int) == 0) = false := beq_eq_false_iff_ne.2 e1
        clear ho
        by_cases hj1 : rs.length < n
        · have b1 : (rs.length : Int) < (n : Int) := by omega
          have b2 : ¬ (rs.length : Int) < 256 := by omega
          clear hj h0
          go_wp2_with fail
          go_ret
          exact ⟨⟨s, rfl⟩, hB⟩
        · have b1 : ¬ (rs.length : Int) < (n : Int) := by omega
          clear hj h0
          go_wp2_with fail
          go_ret
          exact ⟨⟨s, rfl⟩, hB⟩

theorem kindI6 : Kind Tryd.prog 24 3 1 8 := kind_of Tryd.underlying24 (z := .int .i64 0) (by kernel_rfl) rfl
def int1 (x : Int) : List Value := [.int .i64 x]
theorem layI1 : Lay int1 1 := ⟨fun _ => rfl, by decide, fun x u hu => by simp [int1] at hu; subst hu; rfl⟩
def rangeV (x : Int × Int) : List Value := [.int .i64 x.1, .int .i64 x.2]
theorem layG : Lay rangeV 2 := ⟨fun _ => rfl, by decide, fun x u hu => by simp [rangeV] at hu; rcases hu with rfl | rfl <;> rfl⟩
theorem kindG : Kind Tryd.prog 33 83 2 16 := kind_of Tryd.underlying33 (z := .agg #[.int .i64 0, .int .i64 0]) (by kernel_rfl) rfl
end Go.Proofs.YtkdhcokefnffaaaDoor
