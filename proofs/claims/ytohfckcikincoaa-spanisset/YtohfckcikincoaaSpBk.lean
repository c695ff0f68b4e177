import Derived.Test.YtohfckcikincoaaSpOne
import Derived.Test.YtohfckcikincoaaSpLb
namespace Go.Proofs.Ytohfckcikincoaa
open Go.RowKit Go.Lib
set_option maxRecDepth 100000

theorem norm_adj {b : Int} {l : List (Int × Int)} (h : Norm b l) (j : Nat) (hj : j + 1 < l.length) : (l.getD j (0, 0)).2 < (l.getD (j + 1) (0, 0)).1 := by
  induction l generalizing b j with
  | nil => simp at hj
  | cons x t ih =>
    cases j with
    | zero =>
      cases t with
      | nil => simp at hj
      | cons y u => simpa using h.2.2.1
    | succ j =>
      have := ih h.2.2 j (by simpa using hj)
      simpa using this
set_option maxHeartbeats 2000000 in
theorem normal_yes {w : World} {a : Option Addr} {n cap : Nat} {l : List (Int × Int)} (h : Rng w a n cap l) (hl : Lst l) :
    Calls Try.prog 23 #[.slice a n cap] w fun e w' => e = .returned (.bool true) ∧ Below w.heap.size w w' := by
  have hlen := h.len
  have hfew : (n : Int) ≤ 32768 := by have := hl.few; omega
  have HL : Hid (Lst l) := hl
  clear hl
  go_enter Try.func23, Try.ntmps23
  go_wp2_with fail
  go_loopw [3] (fun i w' => ∃ j : Nat, j ≤ n ∧ i = .int .i64 j ∧ Below w.heap.size w w') (fun i _ => n - (RowKit.intOf i).toNat)
  case atStart => exact ⟨0, Nat.zero_le _, rfl, Below.refl _ _⟩
  case round =>
    obtain ⟨j, hjn, rfl, hb⟩ := hrel
    by_cases hj : j < n
    · obtain ⟨g, off, rfl, hg, hc, hd⟩ := h.cells j hj
      have c0 := (hb.cell (p := ⟨g, off + j * 2, none⟩) hg).trans hc
      have c1 := (hb.cell (p := ⟨g, off + j * 2 + 1, none⟩) hg).trans hd
      have hnn := HL.out.nonneg _ (getD_mem' (show j < l.length by omega))
      have d1 : decide ((l.getD j (0, 0)).1 < 0) = false := decide_eq_false (by omega)
      have d2 : decide (1048576 < (l.getD j (0, 0)).2) = false := decide_eq_false (by omega)
      have d3 : decide ((l.getD j (0, 0)).2 ≤ (l.getD j (0, 0)).1) = false := decide_eq_false (by omega)
      clear hc hd hnn
      by_cases hj0 : j = 0
      · subst hj0
        generalize (l.getD 0 (0, 0)).1 = x at *
        generalize (l.getD 0 (0, 0)).2 = y at *
        simp only [Nat.zero_mul, Nat.add_zero] at c0 c1
        go_wp2_with fail
        go_quiet (fail)
        go_wp2_with fail
        go_quiet (fail)
        go_wp2_with fail
        go_roundw
        case rel => exact ⟨1, by omega, rfl, below_drewN hb _⟩
        case measure => simp [RowKit.intOf]; omega
      · obtain ⟨i, rfl⟩ : ∃ i, j = i + 1 := ⟨j - 1, by omega⟩
        obtain ⟨g', off', hga, hg', _, hd'⟩ := h.cells i (by omega)
        cases hga
        have c4 := (hb.cell (p := ⟨g, off + i * 2 + 1, none⟩) hg).trans hd'
        have hadj := norm_adj HL.out.norm i (by omega)
        have d4 : decide ((l.getD (i + 1) (0, 0)).1 ≤ (l.getD i (0, 0)).2) = false := decide_eq_false (by omega)
        generalize (l.getD (i + 1) (0, 0)).1 = x at *
        generalize (l.getD (i + 1) (0, 0)).2 = y at *
        generalize (l.getD i (0, 0)).2 = ph at *
        clear hd' hj0 hadj
        go_wp2_with fail
        go_quiet (fail)
        go_wp2_with fail
        go_quiet (fail)
        go_wp2_with fail
        go_roundw
        case rel => exact ⟨i + 1 + 1, by omega, by go_num, below_drewN hb _⟩
        case measure => simp [RowKit.intOf]; omega
    · have hk : decide ((n : Int) ≤ 32768) = true := decide_eq_true hfew
      go_wp2_with fail
      go_ret
      first
        | exact ⟨rfl, hb⟩
        | exact ⟨congrArg (fun b => Ending.returned (.bool b)) hk, hb⟩
end Go.Proofs.Ytohfckcikincoaa
