import Derived.Test.YtkdhcokefnffaaaDoorMaP
/-! The sentences' own grow. -/
namespace Go.Proofs.YtkdhcokefnffaaaDoor
open Go.RowKit Go.Lib Sp
set_option maxRecDepth 100000

/-- the last byte marked as one that another follows, and a group of zeros behind -/
def growP : List Nat → List Nat
  | [] => [0]
  | [x] => [128 + x, 0]
  | x :: r => x :: growP r
theorem bits_or_small (m : Nat) (h : m < 128) : bits .or .u8 (m : Int) 128 = ((128 + m : Nat) : Int) := by
  have := bits_or_u8 m
  rw [IntWalk.u8_in _ (by omega), Nat.mod_eq_of_lt h] at this
  exact this

set_option maxHeartbeats 4000000 in
theorem grow_any {w : World} {a : Option Addr} {n cap : Nat} {l : List Nat} (h : Rw byV 1 w a n cap l) (x : Nat) (pre : List Nat) (hl : l = pre ++ [x]) (hx : x < 128) (hn : n ≤ 64) :
    Calls Tryd.prog 10 #[.slice a n cap] w fun e w' => ∃ v, e = .returned v ∧ OwnF byV 1 5 w' w.heap.size v (pre ++ [128 + x, 0]) ∧ Below w.heap.size w w' := by
  have hlen := h.len
  have hpn : pre.length + 1 = n := by rw [← hlen, hl]; simp
  go_enter Tryd.func10, Tryd.ntmps10
  go_wp2_with fail
  go_loopw [3, 4, 5] (fun v vi _ W => ∃ k : Nat, k ≤ n ∧ vi = .int .i64 (k : Int) ∧ OwnF byV 1 5 W w.heap.size v (if k < n then pre.take k else pre ++ [128 + x]) ∧ Below w.heap.size w W) (fun _ vi _ _ => n - (RowKit.intOf vi).toNat)
  case atStart => exact ⟨0, Nat.zero_le _, rfl, by rw [if_pos (by omega)]; exact ownF_nil _ _, Below.refl _ _⟩
  case round =>
    obtain ⟨k, hk, rfl, ho, hB⟩ := hrel
    rcases Nat.lt_or_ge k n with hkn | hkn
    · rw [if_pos hkn] at ho
      obtain ⟨g, off, y, rfl, hg, hy, hc⟩ := h.at k hkn
      have c0 := (hB.cell (p := ⟨g, off + k * 1 + 0, none⟩) hg).trans (hc 0 _ rfl)
      simp only [Nat.add_zero, Nat.mul_one] at c0
      clear hc
      have b1 : (k : Int) < (n : Int) := by omega
      have e1 : IntKind.i64.wrap ((n : Int) - 1) = (n : Int) - 1 := IntWalk.i64_in _ (by omega)
      have hpl : (pre.take k).length = k := by rw [List.length_take]; omega
      rcases Nat.lt_or_ge (k + 1) n with hk1 | hk1
      · have g1 : ((k : Int) == (n : Int) - 1) = false := beq_eq_false_iff_ne.2 (by omega)
        have g2 : ¬ (k : Int) = (n : Int) - 1 := by omega
        have hyp : pre[k]? = some y := by rw [hl, List.getElem?_append_left (by omega)] at hy; exact hy
        obtain ⟨g5, cap5, w6, hr, ho6, hb6, _, _⟩ := appendF_one kindB layB ho hB.size y #[.int .u8 y] rfl 5 (by omega) (by omega) 39
        have hb7 : Below w.heap.size w w6 := hB.trans hb6
        rw [hpl] at hr ho6
        have hN : Hid (OwnF byV 1 5 w6 w.heap.size (.slice (some ⟨g5, 0, none⟩) (k + 1) cap5) (pre.take (k + 1))) := by
          rw [List.take_add_one, hyp]; exact ho6
        clear hb6 ho hB h ho6 hpl
        go_wp2_with (at_builtin; refine wpList_append_hr rfl _ _ 39 rfl _ _ rfl rfl hr ?_)
        exact ⟨⟨k + 1, by omega, by simp, by rw [if_pos hk1]; exact hN.out, hb7⟩, by simp [RowKit.intOf]; omega⟩
      · have hkn1 : k = pre.length := by omega
        have g1 : ((k : Int) == (n : Int) - 1) = true := by simp; omega
        have hyp : y = x := by rw [hl, hkn1, List.getElem?_append_right (Nat.le_refl _)] at hy; simpa using hy.symm
        subst hyp
        obtain ⟨c, hc⟩ : ∃ c : Nat, 128 + y = c := ⟨_, rfl⟩
        have eb : bits .or .u8 (y : Int) 128 = (c : Int) := by rw [← hc]; exact bits_or_small y hx
        obtain ⟨g5, cap5, w6, hr, ho6, hb6, _, _⟩ := appendF_one kindB layB ho hB.size c #[.int .u8 c] rfl 5 (by omega) (by omega) 39
        have hb7 : Below w.heap.size w w6 := hB.trans hb6
        rw [hpl] at hr ho6
        have hN : Hid (OwnF byV 1 5 w6 w.heap.size (.slice (some ⟨g5, 0, none⟩) (k + 1) cap5) (pre ++ [128 + y])) := by
          rw [hc]
          have e : pre.take k = pre := by rw [hkn1, List.take_length]
          rw [e] at ho6
          exact ho6
        clear hb6 ho hB h ho6 hc hpl hkn1
        have g3 : (n : Int) - 1 = (k : Int) := by omega
        go_wp2_with (at_builtin; refine wpList_append_hr rfl _ _ 39 rfl _ _ rfl rfl hr ?_)
        exact ⟨⟨k + 1, by omega, by simp, by rw [if_neg (by omega)]; exact hN.out, hb7⟩, by simp [RowKit.intOf]; omega⟩
    · rw [if_neg (by omega)] at ho
      have hkn2 : k = n := by omega
      subst hkn2
      have b1 : ¬ (k : Int) < (k : Int) := by omega
      obtain ⟨g5, cap5, w6, hr, ho6, hb6, _, _⟩ := appendF_one kindB layB ho hB.size 0 #[.int .u8 ((0 : Nat) : Int)] rfl 5 (by simp; omega) (by simp; omega) 39
      have hb7 : Below w.heap.size w w6 := hB.trans hb6
      have hL : (pre ++ [128 + x]).length = k := by simp; omega
      rw [hL] at hr ho6
      have hN : Hid (OwnF byV 1 5 w6 w.heap.size (.slice (some ⟨g5, 0, none⟩) (k + 1) cap5) (pre ++ [128 + x, 0])) := by
        rw [List.append_assoc] at ho6
        exact ho6
      clear hb6 ho hB h ho6
      rw [show ((0 : Nat) : Int) = 0 from rfl] at hr
      go_wp2_with (at_builtin; refine wpList_append_hr rfl _ _ 39 rfl _ _ rfl rfl hr ?_)
      go_ret
      exact ⟨_, rfl, hN.out, hb7⟩
end Go.Proofs.YtkdhcokefnffaaaDoor
