import Derived.Test.YtelcjhflopgojaaDoorSpM
import Derived.Deep.QuietTactic
import Derived.BigQuiet
import Derived.BigRegion
import Derived.Deep.RegionWith
namespace Go.Proofs.YtelcjhflopgojaaDoor.Sp
open Go.RowKit Go.Lib
set_option maxRecDepth 100000

set_option maxHeartbeats 400000 in
theorem isPart_yes (lo hi : Int) (h : 0 ≤ lo ∧ lo ≤ hi ∧ hi ≤ 1048576) (w : World) :
    Calls Tryd.prog 29 #[.agg #[.int .i64 lo, .int .i64 hi]] w fun e w' => e = .returned (.bool true) ∧ Below w.heap.size w w' := by
  obtain ⟨h1, h2, h3⟩ := h
  go_enter Tryd.func29, Tryd.ntmps29
  go_wp2_with fail
  go_ret
  exact ⟨rfl, (Below.refl _ _).alloc (Nat.le_refl _) _⟩
set_option maxHeartbeats 400000 in
theorem isPart_no (lo hi : Int) (h : ¬ (0 ≤ lo ∧ lo ≤ hi ∧ hi ≤ 1048576)) (w : World) :
    Calls Tryd.prog 29 #[.agg #[.int .i64 lo, .int .i64 hi]] w fun e w' => e = .returned (.bool false) ∧ Below w.heap.size w w' := by
  have hcs : lo < 0 ∨ (0 ≤ lo ∧ hi < lo) ∨ (0 ≤ lo ∧ lo ≤ hi ∧ 1048576 < hi) := by omega
  clear h
  rcases hcs with k1 | ⟨k1, k2⟩ | ⟨k1, k2, k3⟩
  all_goals
    go_enter Tryd.func29, Tryd.ntmps29
    go_wp2_with fail
    go_ret
    first
      | exact ⟨rfl, (Below.refl _ _).alloc (Nat.le_refl _) _⟩
      | exact ⟨congrArg (fun b => Ending.returned (.bool b)) (by simp; omega), (Below.refl _ _).alloc (Nat.le_refl _) _⟩
theorem below_drewN {B : Nat} {a w : World} (h : Below B a w) (m : Nat) : Below B a (w.drewN m) := h.trans ⟨rfl, rfl, rfl, Nat.le_refl _, fun _ _ => rfl⟩
/-- where the range ahead of j ends -/
def prevHi (l : List (Int × Int)) (j : Nat) : Int := if j = 0 then -1 else (l.getD (j - 1) (0, 0)).2
theorem drop_getD (l : List (Int × Int)) (j : Nat) (hj : j < l.length) : l.drop j = l.getD j (0, 0) :: l.drop (j + 1) := by
  rw [List.getD_eq_getElem?_getD, List.getElem?_eq_getElem hj]
  exact List.drop_eq_getElem_cons hj

set_option maxHeartbeats 2000000 in
theorem check_any {w : World} {a : Option Addr} {n cap : Nat} {l : List (Int × Int)} (h : Rng w a n cap l) :
    Calls Tryd.prog 26 #[.slice a n cap] w fun e w' => e = .returned (.tuple #[.int .i64 (checkL l).1, .int .i64 (checkL l).2]) ∧ Below w.heap.size w w' := by
  have hlen := h.len
  have hroom := h.room
  by_cases hmany : 32768 < n
  · have e0 : checkL l = (32768, 21) := by unfold checkL; rw [if_pos (by omega)]
    rw [e0]
    clear e0 hlen
    go_enter Tryd.func26, Tryd.ntmps26
    go_wp2_with fail
    go_ret2
    exact ⟨rfl, Below.refl _ _⟩
  · obtain ⟨ri, rc, hck⟩ : ∃ i c, checkL l = (i, c) := ⟨_, _, rfl⟩
    have hck2 := hck
    unfold checkL at hck2
    rw [if_neg (by omega)] at hck2
    have HC : Hid (chk 0 (-1) l = (ri, rc)) := hck2
    clear hck2
    rw [hck]
    clear hck
    go_enter Tryd.func26, Tryd.ntmps26
    go_wp2_with fail
    go_loopw [11] (fun i w' => ∃ j : Nat, j ≤ n ∧ i = .int .i64 j ∧ Below w.heap.size w w' ∧ Hid (chk j (prevHi l j) (l.drop j) = (ri, rc))) (fun i _ => n - (RowKit.intOf i).toNat)
    case atStart => exact ⟨0, Nat.zero_le _, rfl, Below.refl _ _, HC⟩
    case round =>
      obtain ⟨j, hjn, rfl, hb, HR⟩ := hrel
      by_cases hj : j < n
      · obtain ⟨g, off, rfl, hg, hc, hd⟩ := h.cells j hj
        have c0 := (hb.cell (p := ⟨g, off + j * 2, none⟩) hg).trans hc
        have c1 := (hb.cell (p := ⟨g, off + j * 2 + 1, none⟩) hg).trans hd
        have HR2 := HR.out
        rw [drop_getD l j (by omega)] at HR2
        obtain ⟨lo, hi, hlh⟩ : ∃ lo hi, l.getD j (0, 0) = (lo, hi) := ⟨_, _, rfl⟩
        rw [hlh] at HR2 c0 c1
        simp only at c0 c1
        have HL : Hid (l.getD j (0, 0) = (lo, hi)) := hlh
        clear hlh hc hd HR
        unfold chk at HR2
        by_cases hp : 0 ≤ lo ∧ lo ≤ hi ∧ hi ≤ 1048576
        · have HP : Hid (∀ w, Calls Tryd.prog 29 #[.agg #[.int .i64 lo, .int .i64 hi]] w fun e w' => e = .returned (.bool true) ∧ Below w.heap.size w w') := isPart_yes lo hi hp
          obtain ⟨p1, p2, p3⟩ := hp
          by_cases he : lo = hi
          · subst he
            rw [if_pos (by simp only; omega)] at HR2
            simp only [Prod.mk.injEq] at HR2
            obtain ⟨rfl, rfl⟩ := HR2
            go_wp2_with fail
            refine (HP.out _).mono ?_
            rintro e w1 ⟨rfl, hb1⟩
            have hs1 := hb1.size
            have c2 : w1.cell? ⟨wr.heap.size, 0, none⟩ = some (.int .i64 lo) := (hb1.cell (p := ⟨wr.heap.size, 0, none⟩) (by simp)).trans (World.cell?_alloc_mark _ _ _ _ _)
            have c3 : w1.cell? ⟨wr.heap.size, 1, none⟩ = some (.int .i64 lo) := (hb1.cell (p := ⟨wr.heap.size, 1, none⟩) (by simp)).trans (World.cell?_alloc_mark _ _ _ _ _)
            have hB1 : Below w.heap.size w w1 := (hb.alloc hb.size _).trans (hb1.mono (by have := hb.size; simp; omega))
            go_wp2_with fail
            go_ret2
            exact ⟨rfl, hB1⟩
          · rw [if_neg (by simp only; omega)] at HR2
            simp only at HR2
            have t1 : (lo == hi) = false := by simp [he]
            by_cases ho : lo ≤ prevHi l j
            · rw [if_pos ho] at HR2
              simp only [Prod.mk.injEq] at HR2
              obtain ⟨rfl, rfl⟩ := HR2
              have hj0 : j ≠ 0 := fun e => by rw [prevHi, if_pos e] at ho; omega
              obtain ⟨i, rfl⟩ : ∃ i, j = i + 1 := ⟨j - 1, by omega⟩
              rw [prevHi, if_neg (by omega), Nat.add_sub_cancel] at ho
              obtain ⟨g', off', hga, hg', _, hd'⟩ := h.cells i (by omega)
              cases hga
              have c4 := (hb.cell (p := ⟨g, off + i * 2 + 1, none⟩) hg).trans hd'
              generalize (l.getD i (0, 0)).2 = ph at ho c4
              clear hd' he
              go_wp2_with fail
              refine (HP.out _).mono ?_
              rintro e w1 ⟨rfl, hb1⟩
              have hs1 := hb1.size
              have c2 : w1.cell? ⟨wr.heap.size, 0, none⟩ = some (.int .i64 lo) := (hb1.cell (p := ⟨wr.heap.size, 0, none⟩) (by simp)).trans (World.cell?_alloc_mark _ _ _ _ _)
              have c3 : w1.cell? ⟨wr.heap.size, 1, none⟩ = some (.int .i64 hi) := (hb1.cell (p := ⟨wr.heap.size, 1, none⟩) (by simp)).trans (World.cell?_alloc_mark _ _ _ _ _)
              have hB1 : Below w.heap.size w w1 := (hb.alloc hb.size _).trans (hb1.mono (by have := hb.size; simp; omega))
              have c5 : w1.cell? ⟨g, off + i * 2 + 1, none⟩ = some (.int .i64 ph) := (hB1.cell (p := ⟨g, off + i * 2 + 1, none⟩) hg).trans ((hb.cell (p := ⟨g, off + i * 2 + 1, none⟩) hg).symm.trans c4)
              clear c4 c0 c1
              go_wp2_with fail
              go_quiet (fail)
              go_wp2_with fail
              go_ret2
              exact ⟨rfl, below_drewN hB1 _⟩
            · rw [if_neg ho] at HR2
              have HN : Hid (chk (j + 1) (prevHi l (j + 1)) (l.drop (j + 1)) = (ri, rc)) := by
                show _ = _
                rw [prevHi, if_neg (by omega), Nat.add_sub_cancel, HL.out]
                exact HR2
              clear HR2 he
              by_cases hj0 : j = 0
              · subst hj0
                simp only [Nat.zero_mul, Nat.add_zero] at c0 c1
                clear ho
                go_wp2_with fail
                refine (HP.out _).mono ?_
                rintro e w1 ⟨rfl, hb1⟩
                have hs1 := hb1.size
                have c2 : w1.cell? ⟨wr.heap.size, 0, none⟩ = some (.int .i64 lo) := (hb1.cell (p := ⟨wr.heap.size, 0, none⟩) (by simp)).trans (World.cell?_alloc_mark _ _ _ _ _)
                have c3 : w1.cell? ⟨wr.heap.size, 1, none⟩ = some (.int .i64 hi) := (hb1.cell (p := ⟨wr.heap.size, 1, none⟩) (by simp)).trans (World.cell?_alloc_mark _ _ _ _ _)
                have hB1 : Below w.heap.size w w1 := (hb.alloc hb.size _).trans (hb1.mono (by have := hb.size; simp; omega))
                clear c0 c1
                go_wp2_with fail
                go_quiet (fail)
                go_wp2_with fail
                go_roundw
                case rel => exact ⟨1, by omega, rfl, below_drewN hB1 _, HN⟩
                case measure => simp [RowKit.intOf]; omega
              · obtain ⟨i, rfl⟩ : ∃ i, j = i + 1 := ⟨j - 1, by omega⟩
                rw [prevHi, if_neg (by omega), Nat.add_sub_cancel] at ho
                obtain ⟨g', off', hga, hg', _, hd'⟩ := h.cells i (by omega)
                cases hga
                have c4 := (hb.cell (p := ⟨g, off + i * 2 + 1, none⟩) hg).trans hd'
                generalize (l.getD i (0, 0)).2 = ph at ho c4
                clear hd' hj0
                go_wp2_with fail
                refine (HP.out _).mono ?_
                rintro e w1 ⟨rfl, hb1⟩
                have hs1 := hb1.size
                have c2 : w1.cell? ⟨wr.heap.size, 0, none⟩ = some (.int .i64 lo) := (hb1.cell (p := ⟨wr.heap.size, 0, none⟩) (by simp)).trans (World.cell?_alloc_mark _ _ _ _ _)
                have c3 : w1.cell? ⟨wr.heap.size, 1, none⟩ = some (.int .i64 hi) := (hb1.cell (p := ⟨wr.heap.size, 1, none⟩) (by simp)).trans (World.cell?_alloc_mark _ _ _ _ _)
                have hB1 : Below w.heap.size w w1 := (hb.alloc hb.size _).trans (hb1.mono (by have := hb.size; simp; omega))
                have c5 : w1.cell? ⟨g, off + i * 2 + 1, none⟩ = some (.int .i64 ph) := (hB1.cell (p := ⟨g, off + i * 2 + 1, none⟩) hg).trans ((hb.cell (p := ⟨g, off + i * 2 + 1, none⟩) hg).symm.trans c4)
                clear c4 c0 c1
                go_wp2_with fail
                go_quiet (fail)
                go_wp2_with fail
                go_roundw
                case rel => exact ⟨i + 1 + 1, by omega, by go_num, below_drewN hB1 _, HN⟩
                case measure => simp [RowKit.intOf]; omega
        · have HP : Hid (∀ w, Calls Tryd.prog 29 #[.agg #[.int .i64 lo, .int .i64 hi]] w fun e w' => e = .returned (.bool false) ∧ Below w.heap.size w w') := isPart_no lo hi hp
          rw [if_pos (by simp only; omega)] at HR2
          simp only [Prod.mk.injEq] at HR2
          obtain ⟨rfl, rfl⟩ := HR2
          clear hp
          go_wp2_with fail
          refine (HP.out _).mono ?_
          rintro e w1 ⟨rfl, hb1⟩
          have hB1 : Below w.heap.size w w1 := (hb.alloc hb.size _).trans (hb1.mono (by have := hb.size; simp; omega))
          go_wp2_with fail
          go_ret2
          exact ⟨rfl, hB1⟩
      · have e1 : l.drop j = [] := List.drop_eq_nil_of_le (by omega)
        have HR2 := HR.out
        rw [e1] at HR2
        simp only [chk, Prod.mk.injEq] at HR2
        obtain ⟨rfl, rfl⟩ := HR2
        go_wp2_with fail
        go_ret2
        exact ⟨rfl, hb⟩
end Go.Proofs.YtelcjhflopgojaaDoor.Sp
