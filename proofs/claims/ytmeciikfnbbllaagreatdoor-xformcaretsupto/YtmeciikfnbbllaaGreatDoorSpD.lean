import Derived.Test.YtmeciikfnbbllaaGreatDoorSpC
namespace Go.Proofs.YtmeciikfnbbllaaGreatDoor.Sp
open Go.RowKit Go.Lib
set_option maxRecDepth 100000
set_option maxHeartbeats 2000000 in
theorem refCheck_any {w : World} {a : Option Addr} {n cap : Nat} {l : List (Int × Int)} (h : Rng w a n cap l) :
    Calls Tryz.prog 103 #[.slice a n cap] w fun e w' => e = .returned (.tuple #[.int .i64 (checkL l).1, .int .i64 (checkL l).2]) ∧ Below w.heap.size w w' := by
  have hlen := h.len
  have hroom := h.room
  by_cases hmany : 32768 < n
  · have e0 : checkL l = (32768, 21) := by unfold checkL; rw [if_pos (by omega)]
    rw [e0]
    clear e0 hlen
    go_enter Tryz.func103, Tryz.ntmps103
    go_wp2_with fail
    go_ret2
    exact ⟨rfl, Below.refl _ _⟩
  · obtain ⟨ri, rc, hck⟩ : ∃ i c, checkL l = (i, c) := ⟨_, _, rfl⟩
    have hck2 := hck
    unfold checkL at hck2
    rw [if_neg (by omega)] at hck2
    have HC : Hid (chk 0 (-1) l = (ri, rc)) := hck2
    clear hck2
    rw [hck]
    clear hck
    go_enter Tryz.func103, Tryz.ntmps103
    go_wp2_with fail
    go_loopw [4] (fun i w' => ∃ j : Nat, j ≤ n ∧ i = .int .i64 j ∧ Below w.heap.size w w' ∧ Hid (chk j (prevHi l j) (l.drop j) = (ri, rc))) (fun i _ => n - (RowKit.intOf i).toNat)
    case atStart => exact ⟨0, Nat.zero_le _, rfl, Below.refl _ _, HC⟩
    case round =>
      obtain ⟨j, hjn, rfl, hb, HR⟩ := hrel
      by_cases hj : j < n
      · obtain ⟨g, off, rfl, hg, hc, hd⟩ := h.cells j hj
        have c0 := (hb.cell (p := ⟨g, off + j * 2, none⟩) hg).trans hc
        have c1 := (hb.cell (p := ⟨g, off + j * 2 + 1, none⟩) hg).trans hd
        have HR2 := HR.out
        rw [drop_getD l j (by omega)] at HR2
        obtain ⟨lo, hi, hlh⟩ : ∃ lo hi, l.getD j (0, 0) = (lo, hi) := ⟨_, _, rfl⟩
        rw [hlh] at HR2 c0 c1
        simp only at c0 c1
        have HL : Hid (l.getD j (0, 0) = (lo, hi)) := hlh
        clear hlh hc hd HR
        unfold chk at HR2
        by_cases hp : lo < 0 ∨ 1048576 < hi ∨ hi ≤ lo
        · rw [if_pos (by simp only; omega)] at HR2
          simp only [Prod.mk.injEq] at HR2
          obtain ⟨rfl, rfl⟩ := HR2
          have hcs : lo < 0 ∨ (0 ≤ lo ∧ 1048576 < hi) ∨ (0 ≤ lo ∧ hi ≤ 1048576 ∧ hi ≤ lo) := by omega
          clear hp
          rcases hcs with k1 | ⟨k1, k2⟩ | ⟨k1, k2, k3⟩
          · have d1 : decide (lo < 0) = true := decide_eq_true k1
            clear k1
            go_wp2_with fail
            go_quiet (fail)
            go_wp2_with fail
            go_ret2
            exact ⟨rfl, below_drewN hb _⟩
          · have d1 : decide (lo < 0) = false := decide_eq_false (by omega)
            have d2 : decide (1048576 < hi) = true := decide_eq_true k2
            clear k1 k2
            go_wp2_with fail
            go_quiet (fail)
            go_wp2_with fail
            go_ret2
            exact ⟨rfl, below_drewN hb _⟩
          · have d1 : decide (lo < 0) = false := decide_eq_false (by omega)
            have d2 : decide (1048576 < hi) = false := decide_eq_false (by omega)
            have d3 : decide (hi ≤ lo) = true := decide_eq_true k3
            clear k1 k2 k3
            go_wp2_with fail
            go_quiet (fail)
            go_wp2_with fail
            go_ret2
            exact ⟨rfl, below_drewN hb _⟩
        · rw [if_neg (by simp only; omega)] at HR2
          simp only at HR2
          have d1 : decide (lo < 0) = false := decide_eq_false (by omega)
          have d2 : decide (1048576 < hi) = false := decide_eq_false (by omega)
          have d3 : decide (hi ≤ lo) = false := decide_eq_false (by omega)
          have HP : Hid (0 ≤ lo) := (by omega : 0 ≤ lo)
          clear hp
          by_cases ho : lo ≤ prevHi l j
          · rw [if_pos ho] at HR2
            simp only [Prod.mk.injEq] at HR2
            obtain ⟨rfl, rfl⟩ := HR2
            have hj0 : j ≠ 0 := fun e => by rw [prevHi, if_pos e] at ho; have := HP.out; omega
            obtain ⟨i, rfl⟩ : ∃ i, j = i + 1 := ⟨j - 1, by omega⟩
            rw [prevHi, if_neg (by omega), Nat.add_sub_cancel] at ho
            obtain ⟨g', off', hga, hg', _, hd'⟩ := h.cells i (by omega)
            cases hga
            have c4 := (hb.cell (p := ⟨g, off + i * 2 + 1, none⟩) hg).trans hd'
            generalize (l.getD i (0, 0)).2 = ph at ho c4
            have d4 : decide (lo ≤ ph) = true := decide_eq_true ho
            clear hd' ho
            go_wp2_with fail
            go_quiet (fail)
            go_wp2_with fail
            go_quiet (fail)
            go_wp2_with fail
            go_ret2
            exact ⟨rfl, below_drewN (below_drewN hb _) _⟩
          · rw [if_neg ho] at HR2
            have HN : Hid (chk (j + 1) (prevHi l (j + 1)) (l.drop (j + 1)) = (ri, rc)) := by
              show _ = _
              rw [prevHi, if_neg (by omega), Nat.add_sub_cancel, HL.out]
              exact HR2
            clear HR2
            by_cases hj0 : j = 0
            · subst hj0
              simp only [Nat.zero_mul, Nat.add_zero] at c0 c1
              clear ho
              go_wp2_with fail
              go_quiet (fail)
              go_wp2_with fail
              go_quiet (fail)
              go_wp2_with fail
              go_roundw
              case rel => exact ⟨1, by omega, rfl, below_drewN hb _, HN⟩
              case measure => simp [RowKit.intOf]; omega
            · obtain ⟨i, rfl⟩ : ∃ i, j = i + 1 := ⟨j - 1, by omega⟩
              rw [prevHi, if_neg (by omega), Nat.add_sub_cancel] at ho
              obtain ⟨g', off', hga, hg', _, hd'⟩ := h.cells i (by omega)
              cases hga
              have c4 := (hb.cell (p := ⟨g, off + i * 2 + 1, none⟩) hg).trans hd'
              generalize (l.getD i (0, 0)).2 = ph at ho c4
              have d4 : decide (lo ≤ ph) = false := decide_eq_false ho
              clear hd' hj0 ho
              go_wp2_with fail
              go_quiet (fail)
              go_wp2_with fail
              go_quiet (fail)
              go_wp2_with fail
              go_roundw
              case rel => exact ⟨i + 1 + 1, by omega, by go_num, below_drewN hb _, HN⟩
              case measure => simp [RowKit.intOf]; omega
      · have e1 : l.drop j = [] := List.drop_eq_nil_of_le (by omega)
        have HR2 := HR.out
        rw [e1] at HR2
        simp only [chk, Prod.mk.injEq] at HR2
        obtain ⟨rfl, rfl⟩ := HR2
        go_wp2_with fail
        go_ret2
        exact ⟨rfl, hb⟩
end Go.Proofs.YtmeciikfnbbllaaGreatDoor.Sp
