import Derived.Test.YtmdnmhdimfglaaaGreatDoorGaS
import Derived.Test.YtmdnmhdimfglaaaGreatDoorOgB
import Derived.Test.YtmdnmhdimfglaaaGreatDoorGaO
import Derived.Test.YtmdnmhdimfglaaaGreatDoorGaR
namespace Go.Proofs.YtmdnmhdimfglaaaGreatDoor.Sp
open Go.RowKit Go.Lib
set_option maxRecDepth 100000
set_option maxHeartbeats 2000000 in
theorem refCheck_any {w : World} {a : Option Addr} {n cap : Nat} {l : List (Int × Int)} (h : Rng w a n cap l) :
    Calls Tryz.prog 96 #[.slice a n cap] w fun e w' => e = .returned (.tuple #[.int .i64 (checkL l).1, .int .i64 (checkL l).2]) ∧ Below w.heap.size w w' := by
  have hlen := h.len
  have hroom := h.room
  by_cases hmany : 32768 < n
  · have e0 : checkL l = (32768, 21) := by unfold checkL; rw [if_pos (by omega)]
    rw [e0]
    clear e0 hlen
    go_enter Tryz.func96, Tryz.ntmps96
    go_wp2_with fail
    go_ret2
    exact ⟨rfl, Below.refl _ _⟩
  · obtain ⟨ri, rc, hck⟩ : ∃ i c, checkL l = (i, c) := ⟨_, _, rfl⟩
    have hck2 := hck
    unfold checkL at hck2
    rw [if_neg (by omega)] at hck2
    have HC : Hid (chk 0 (-1) l = (ri, rc)) := hck2
    clear hck2
    rw [hck]
    clear hck
    go_enter Tryz.func96, Tryz.ntmps96
    go_wp2_with fail
    go_loopw [4] (fun i w' => ∃ j : Nat, j ≤ n ∧ i = .int .i64 j ∧ Below w.heap.size w w' ∧ Hid (chk j (prevHi l j) (l.drop j) = (ri, rc))) (fun i _ => n - (RowKit.intOf i).toNat)
    case atStart => exact ⟨0, Nat.zero_le _, rfl, Below.refl _ _, HC⟩
    case round =>
      obtain ⟨j, hjn, rfl, hb, HR⟩ := hrel
      by_cases hj : j < n
      · obtain ⟨g, off, rfl, hg, hc, hd⟩ := h.cells j hj
        have c0 := (hb.cell (p := ⟨g, off + j * 2, none⟩) hg).trans hc
        have c1 := (hb.cell (p := ⟨g, off + j * 2 + 1, none⟩) hg).trans hd
        have HR2 := HR.out
        rw [drop_getD l j (by omega)] at HR2
        obtain ⟨lo, hi, hlh⟩ : ∃ lo hi, l.getD j (0, 0) = (lo, hi) := ⟨_, _, rfl⟩
        rw [hlh] at HR2 c0 c1
        simp only at c0 c1
        have HL : Hid (l.getD j (0, 0) = (lo, hi)) := hlh
        clear hlh hc hd HR
        unfold chk at HR2
        by_cases hp : lo < 0 ∨ 1048576 < hi ∨ hi ≤ lo
        · rw [if_pos (by simp only; omega)] at HR2
          simp only [Prod.mk.injEq] at HR2
          obtain ⟨rfl, rfl⟩ := HR2
          have hcs : lo < 0 ∨ (0 ≤ lo ∧ 1048576 < hi) ∨ (0 ≤ lo ∧ hi ≤ 1048576 ∧ hi ≤ lo) := by omega
          clear hp
          rcases hcs with k1 | ⟨k1, k2⟩ | ⟨k1, k2, k3⟩
          · have d1 : decide (lo < 0) = true := decide_eq_true k1
            clear k1
            go_wp2_with fail
            go_quiet (fail)
            go_wp2_with fail
            go_ret2
            exact ⟨rfl, below_drewN hb _⟩
          · have d1 : decide (lo < 0) = false := decide_eq_false (by omega)
            have d2 : decide (1048576 < hi) = true := decide_eq_true k2
            clear k1 k2
            go_wp2_with fail
            go_quiet (fail)
            go_wp2_with fail
            go_ret2
            exact ⟨rfl, below_drewN hb _⟩
          · have d1 : decide (lo < 0) = false := decide_eq_false (by omega)
            have d2 : decide (1048576 < hi) = false := decide_eq_false (by omega)
            have d3 : decide (hi ≤ lo) = true := decide_eq_true k3
            clear k1 k2 k3
            go_wp2_with fail
            go_quiet (fail)
            go_wp2_with fail
            go_ret2
            exact ⟨rfl, below_drewN hb _⟩
        · rw [if_neg (by simp only; omega)] at HR2
          simp only at HR2
          have d1 : decide (lo < 0) = false := decide_eq_false (by omega)
          have d2 : decide (1048576 < hi) = false := decide_eq_false (by omega)
          have d3 : decide (hi ≤ lo) = false := decide_eq_false (by omega)
          have HP : Hid (0 ≤ lo) := (by omega : 0 ≤ lo)
          clear hp
          by_cases ho : lo ≤ prevHi l j
          · rw [if_pos ho] at HR2
            simp only [Prod.mk.injEq] at HR2
            obtain ⟨rfl, rfl⟩ := HR2
            have hj0 : j ≠ 0 := fun e => by rw [prevHi, if_pos e] at ho; have := HP.out; omega
            obtain ⟨i, rfl⟩ : ∃ i, j = i + 1 := ⟨j - 1, by omega⟩
            rw [prevHi, if_neg (by omega), Nat.add_sub_cancel] at ho
            obtain ⟨g', off', hga, hg', _, hd'⟩ := h.cells i (by omega)
            cases hga
            have c4 := (hb.cell (p := ⟨g, off + i * 2 + 1, none⟩) hg).trans hd'
            generalize (l.getD i (0, 0)).2 = ph at ho c4
            have d4 : decide (lo ≤ ph) = true := decide_eq_true ho
            clear hd' ho
            go_wp2_with fail
            go_quiet (fail)
            go_wp2_with fail
            go_quiet (fail)
            go_wp2_with fail
            go_ret2
            exact ⟨rfl, below_drewN (below_drewN hb _) _⟩
          · rw [if_neg ho] at HR2
            have HN : Hid (chk (j + 1) (prevHi l (j + 1)) (l.drop (j + 1)) = (ri, rc)) := by
              show _ = _
              rw [prevHi, if_neg (by omega), Nat.add_sub_cancel, HL.out]
              exact HR2
            clear HR2
            by_cases hj0 : j = 0
            · subst hj0
              simp only [Nat.zero_mul, Nat.add_zero] at c0 c1
              clear ho
              go_wp2_with fail
              go_quiet (fail)
              go_wp2_with fail
              go_quiet (fail)
              go_wp2_with fail
              go_roundw
              case rel => exact ⟨1, by omega, rfl, below_drewN hb _, HN⟩
              case measure => simp [RowKit.intOf]; omega
            · obtain ⟨i, rfl⟩ : ∃ i, j = i + 1 := ⟨j - 1, by omega⟩
              rw [prevHi, if_neg (by omega), Nat.add_sub_cancel] at ho
              obtain ⟨g', off', hga, hg', _, hd'⟩ := h.cells i (by omega)
              cases hga
              have c4 := (hb.cell (p := ⟨g, off + i * 2 + 1, none⟩) hg).trans hd'
              generalize (l.getD i (0, 0)).2 = ph at ho c4
              have d4 : decide (lo ≤ ph) = false := decide_eq_false ho
              clear hd' hj0 ho
              go_wp2_with fail
              go_quiet (fail)
              go_wp2_with fail
              go_quiet (fail)
              go_wp2_with fail
              go_roundw
              case rel => exact ⟨i + 1 + 1, by omega, by go_num, below_drewN hb _, HN⟩
              case measure => simp [RowKit.intOf]; omega
      · have e1 : l.drop j = [] := List.drop_eq_nil_of_le (by omega)
        have HR2 := HR.out
        rw [e1] at HR2
        simp only [chk, Prod.mk.injEq] at HR2
        obtain ⟨rfl, rfl⟩ := HR2
        go_wp2_with fail
        go_ret2
        exact ⟨rfl, hb⟩
end Go.Proofs.YtmdnmhdimfglaaaGreatDoor.Sp

namespace Go.Proofs.YtmdnmhdimfglaaaGreatDoor
open Go.RowKit Go.Lib Sp
set_option maxRecDepth 100000
theorem gExtra_any {o : OpV} {w : World} {a : Option Addr} {m cap : Nat} (hlen : o.l.length = m) :
    Calls Tryz.prog 94 #[opVal o (.slice a m cap)] w fun e w' => e = .returned (.bool (extra o)) ∧ Below w.heap.size w w' := by
  obtain ⟨c, n, k, p, s, l, tc, tn, on⟩ := o
  simp only at hlen
  simp only [opVal]
  have hP : (p ≠ 0 ∧ extP ⟨c, n, k, p, s, l, tc, tn, on⟩ = true) ∨ ((p = 0 ∧ s ≠ ⟨#[]⟩) ∧ extP ⟨c, n, k, p, s, l, tc, tn, on⟩ = true) ∨ ((p = 0 ∧ s = ⟨#[]⟩) ∧ extP ⟨c, n, k, p, s, l, tc, tn, on⟩ = false) := by
    simp only [extP, ← size_zero_iff]
    by_cases h0 : p = 0 <;> by_cases h3 : s = ⟨#[]⟩ <;> simp [h0, h3]
  have hT : (tc ≠ 0 ∧ extT ⟨c, n, k, p, s, l, tc, tn, on⟩ = true) ∨ ((tc = 0 ∧ tn ≠ 0) ∧ extT ⟨c, n, k, p, s, l, tc, tn, on⟩ = true) ∨ ((tc = 0 ∧ tn = 0) ∧ extT ⟨c, n, k, p, s, l, tc, tn, on⟩ = on) := by
    simp only [extT]
    by_cases h0 : tc = 0 <;> by_cases h3 : tn = 0 <;> simp [h0, h3]
  have hL : (0 < m ∧ ext0 ⟨c, n, k, p, s, l, tc, tn, on⟩ = true) ∨ (m = 0 ∧ ext0 ⟨c, n, k, p, s, l, tc, tn, on⟩ = false) := by
    simp only [ext0]
    cases l with
    | nil => right; exact ⟨by simpa using hlen.symm, rfl⟩
    | cons x t => left; exact ⟨by simp at hlen; omega, rfl⟩
  have hK : k = 1 ∨ k = 4 ∨ (k ≠ 1 ∧ k ≠ 4) := by omega
  rcases hP with ⟨hp, ep⟩ | ⟨hp, ep⟩ | ⟨hp, ep⟩
  · rcases hT with ⟨ht, et⟩ | ⟨ht, et⟩ | ⟨ht, et⟩
    · rcases hL with ⟨hl, el⟩ | ⟨hl, el⟩
      · rcases hK with hk | hk | hk
        · rw [show extra ⟨c, n, k, p, s, l, tc, tn, on⟩ = true from by simp only [extra, ep, et, el]; simp [hk]]
          exact gEx_0000 hp ht hl hk
        · rw [show extra ⟨c, n, k, p, s, l, tc, tn, on⟩ = true from by simp only [extra, ep, et, el]; simp [hk]]
          exact gEx_0001 hp ht hl hk
        · rw [show extra ⟨c, n, k, p, s, l, tc, tn, on⟩ = true from by simp only [extra, ep, et, el]; simp [hk]]
          exact gEx_0002 hp ht hl hk
      · rcases hK with hk | hk | hk
        · rw [show extra ⟨c, n, k, p, s, l, tc, tn, on⟩ = true from by simp only [extra, ep, et, el]; simp [hk]]
          exact gEx_0010 hp ht hl hk
        · rw [show extra ⟨c, n, k, p, s, l, tc, tn, on⟩ = true from by simp only [extra, ep, et, el]; simp [hk]]
          exact gEx_0011 hp ht hl hk
        · rw [show extra ⟨c, n, k, p, s, l, tc, tn, on⟩ = true from by simp only [extra, ep, et, el]; simp [hk]]
          exact gEx_0012 hp ht hl hk
    · rcases hL with ⟨hl, el⟩ | ⟨hl, el⟩
      · rcases hK with hk | hk | hk
        · rw [show extra ⟨c, n, k, p, s, l, tc, tn, on⟩ = true from by simp only [extra, ep, et, el]; simp [hk]]
          exact gEx_0100 hp ht hl hk
        · rw [show extra ⟨c, n, k, p, s, l, tc, tn, on⟩ = true from by simp only [extra, ep, et, el]; simp [hk]]
          exact gEx_0101 hp ht hl hk
        · rw [show extra ⟨c, n, k, p, s, l, tc, tn, on⟩ = true from by simp only [extra, ep, et, el]; simp [hk]]
          exact gEx_0102 hp ht hl hk
      · rcases hK with hk | hk | hk
        · rw [show extra ⟨c, n, k, p, s, l, tc, tn, on⟩ = true from by simp only [extra, ep, et, el]; simp [hk]]
          exact gEx_0110 hp ht hl hk
        · rw [show extra ⟨c, n, k, p, s, l, tc, tn, on⟩ = true from by simp only [extra, ep, et, el]; simp [hk]]
          exact gEx_0111 hp ht hl hk
        · rw [show extra ⟨c, n, k, p, s, l, tc, tn, on⟩ = true from by simp only [extra, ep, et, el]; simp [hk]]
          exact gEx_0112 hp ht hl hk
    · rcases hL with ⟨hl, el⟩ | ⟨hl, el⟩
      · rcases hK with hk | hk | hk
        · rw [show extra ⟨c, n, k, p, s, l, tc, tn, on⟩ = true from by simp only [extra, ep, et, el]; simp [hk]]
          exact gEx_0200 hp ht hl hk
        · rw [show extra ⟨c, n, k, p, s, l, tc, tn, on⟩ = true from by simp only [extra, ep, et, el]; simp [hk]]
          exact gEx_0201 hp ht hl hk
        · rw [show extra ⟨c, n, k, p, s, l, tc, tn, on⟩ = true from by simp only [extra, ep, et, el]; simp [hk]]
          exact gEx_0202 hp ht hl hk
      · rcases hK with hk | hk | hk
        · rw [show extra ⟨c, n, k, p, s, l, tc, tn, on⟩ = on from by simp only [extra, ep, et, el]; simp [hk]]
          exact gEx_0210 hp ht hl hk
        · rw [show extra ⟨c, n, k, p, s, l, tc, tn, on⟩ = true from by simp only [extra, ep, et, el]; simp [hk]]
          exact gEx_0211 hp ht hl hk
        · rw [show extra ⟨c, n, k, p, s, l, tc, tn, on⟩ = true from by simp only [extra, ep, et, el]; simp [hk]]
          exact gEx_0212 hp ht hl hk
  · rcases hT with ⟨ht, et⟩ | ⟨ht, et⟩ | ⟨ht, et⟩
    · rcases hL with ⟨hl, el⟩ | ⟨hl, el⟩
      · rcases hK with hk | hk | hk
        · rw [show extra ⟨c, n, k, p, s, l, tc, tn, on⟩ = true from by simp only [extra, ep, et, el]; simp [hk]]
          exact gEx_1000 hp ht hl hk
        · rw [show extra ⟨c, n, k, p, s, l, tc, tn, on⟩ = true from by simp only [extra, ep, et, el]; simp [hk]]
          exact gEx_1001 hp ht hl hk
        · rw [show extra ⟨c, n, k, p, s, l, tc, tn, on⟩ = true from by simp only [extra, ep, et, el]; simp [hk]]
          exact gEx_1002 hp ht hl hk
      · rcases hK with hk | hk | hk
        · rw [show extra ⟨c, n, k, p, s, l, tc, tn, on⟩ = true from by simp only [extra, ep, et, el]; simp [hk]]
          exact gEx_1010 hp ht hl hk
        · rw [show extra ⟨c, n, k, p, s, l, tc, tn, on⟩ = true from by simp only [extra, ep, et, el]; simp [hk]]
          exact gEx_1011 hp ht hl hk
        · rw [show extra ⟨c, n, k, p, s, l, tc, tn, on⟩ = true from by simp only [extra, ep, et, el]; simp [hk]]
          exact gEx_1012 hp ht hl hk
    · rcases hL with ⟨hl, el⟩ | ⟨hl, el⟩
      · rcases hK with hk | hk | hk
        · rw [show extra ⟨c, n, k, p, s, l, tc, tn, on⟩ = true from by simp only [extra, ep, et, el]; simp [hk]]
          exact gEx_1100 hp ht hl hk
        · rw [show extra ⟨c, n, k, p, s, l, tc, tn, on⟩ = true from by simp only [extra, ep, et, el]; simp [hk]]
          exact gEx_1101 hp ht hl hk
        · rw [show extra ⟨c, n, k, p, s, l, tc, tn, on⟩ = true from by simp only [extra, ep, et, el]; simp [hk]]
          exact gEx_1102 hp ht hl hk
      · rcases hK with hk | hk | hk
        · rw [show extra ⟨c, n, k, p, s, l, tc, tn, on⟩ = true from by simp only [extra, ep, et, el]; simp [hk]]
          exact gEx_1110 hp ht hl hk
        · rw [show extra ⟨c, n, k, p, s, l, tc, tn, on⟩ = true from by simp only [extra, ep, et, el]; simp [hk]]
          exact gEx_1111 hp ht hl hk
        · rw [show extra ⟨c, n, k, p, s, l, tc, tn, on⟩ = true from by simp only [extra, ep, et, el]; simp [hk]]
          exact gEx_1112 hp ht hl hk
    · rcases hL with ⟨hl, el⟩ | ⟨hl, el⟩
      · rcases hK with hk | hk | hk
        · rw [show extra ⟨c, n, k, p, s, l, tc, tn, on⟩ = true from by simp only [extra, ep, et, el]; simp [hk]]
          exact gEx_1200 hp ht hl hk
        · rw [show extra ⟨c, n, k, p, s, l, tc, tn, on⟩ = true from by simp only [extra, ep, et, el]; simp [hk]]
          exact gEx_1201 hp ht hl hk
        · rw [show extra ⟨c, n, k, p, s, l, tc, tn, on⟩ = true from by simp only [extra, ep, et, el]; simp [hk]]
          exact gEx_1202 hp ht hl hk
      · rcases hK with hk | hk | hk
        · rw [show extra ⟨c, n, k, p, s, l, tc, tn, on⟩ = on from by simp only [extra, ep, et, el]; simp [hk]]
          exact gEx_1210 hp ht hl hk
        · rw [show extra ⟨c, n, k, p, s, l, tc, tn, on⟩ = true from by simp only [extra, ep, et, el]; simp [hk]]
          exact gEx_1211 hp ht hl hk
        · rw [show extra ⟨c, n, k, p, s, l, tc, tn, on⟩ = true from by simp only [extra, ep, et, el]; simp [hk]]
          exact gEx_1212 hp ht hl hk
  · rcases hT with ⟨ht, et⟩ | ⟨ht, et⟩ | ⟨ht, et⟩
    · rcases hL with ⟨hl, el⟩ | ⟨hl, el⟩
      · rcases hK with hk | hk | hk
        · rw [show extra ⟨c, n, k, p, s, l, tc, tn, on⟩ = true from by simp only [extra, ep, et, el]; simp [hk]]
          exact gEx_2000 hp ht hl hk
        · rw [show extra ⟨c, n, k, p, s, l, tc, tn, on⟩ = true from by simp only [extra, ep, et, el]; simp [hk]]
          exact gEx_2001 hp ht hl hk
        · rw [show extra ⟨c, n, k, p, s, l, tc, tn, on⟩ = true from by simp only [extra, ep, et, el]; simp [hk]]
          exact gEx_2002 hp ht hl hk
      · rcases hK with hk | hk | hk
        · rw [show extra ⟨c, n, k, p, s, l, tc, tn, on⟩ = true from by simp only [extra, ep, et, el]; simp [hk]]
          exact gEx_2010 hp ht hl hk
        · rw [show extra ⟨c, n, k, p, s, l, tc, tn, on⟩ = false from by simp only [extra, ep, et, el]; simp [hk]]
          exact gEx_2011 hp ht hl hk
        · rw [show extra ⟨c, n, k, p, s, l, tc, tn, on⟩ = true from by simp only [extra, ep, et, el]; simp [hk]]
          exact gEx_2012 hp ht hl hk
    · rcases hL with ⟨hl, el⟩ | ⟨hl, el⟩
      · rcases hK with hk | hk | hk
        · rw [show extra ⟨c, n, k, p, s, l, tc, tn, on⟩ = true from by simp only [extra, ep, et, el]; simp [hk]]
          exact gEx_2100 hp ht hl hk
        · rw [show extra ⟨c, n, k, p, s, l, tc, tn, on⟩ = true from by simp only [extra, ep, et, el]; simp [hk]]
          exact gEx_2101 hp ht hl hk
        · rw [show extra ⟨c, n, k, p, s, l, tc, tn, on⟩ = true from by simp only [extra, ep, et, el]; simp [hk]]
          exact gEx_2102 hp ht hl hk
      · rcases hK with hk | hk | hk
        · rw [show extra ⟨c, n, k, p, s, l, tc, tn, on⟩ = true from by simp only [extra, ep, et, el]; simp [hk]]
          exact gEx_2110 hp ht hl hk
        · rw [show extra ⟨c, n, k, p, s, l, tc, tn, on⟩ = false from by simp only [extra, ep, et, el]; simp [hk]]
          exact gEx_2111 hp ht hl hk
        · rw [show extra ⟨c, n, k, p, s, l, tc, tn, on⟩ = true from by simp only [extra, ep, et, el]; simp [hk]]
          exact gEx_2112 hp ht hl hk
    · rcases hL with ⟨hl, el⟩ | ⟨hl, el⟩
      · rcases hK with hk | hk | hk
        · rw [show extra ⟨c, n, k, p, s, l, tc, tn, on⟩ = true from by simp only [extra, ep, et, el]; simp [hk]]
          exact gEx_2200 hp ht hl hk
        · rw [show extra ⟨c, n, k, p, s, l, tc, tn, on⟩ = true from by simp only [extra, ep, et, el]; simp [hk]]
          exact gEx_2201 hp ht hl hk
        · rw [show extra ⟨c, n, k, p, s, l, tc, tn, on⟩ = on from by simp only [extra, ep, et, el]; simp [hk]]
          exact gEx_2202 hp ht hl hk
      · rcases hK with hk | hk | hk
        · rw [show extra ⟨c, n, k, p, s, l, tc, tn, on⟩ = on from by simp only [extra, ep, et, el]; simp [hk]]
          exact gEx_2210 hp ht hl hk
        · rw [show extra ⟨c, n, k, p, s, l, tc, tn, on⟩ = false from by simp only [extra, ep, et, el]; simp [hk]]
          exact gEx_2211 hp ht hl hk
        · rw [show extra ⟨c, n, k, p, s, l, tc, tn, on⟩ = on from by simp only [extra, ep, et, el]; simp [hk]]
          exact gEx_2212 hp ht hl hk
set_option maxHeartbeats 2000000 in
theorem gInsert_any {o : OpV} {v : Value} {total : Int} (h0 : 0 ≤ total) (h1 : total ≤ 1048576) (hs : o.s.size ≤ 2097152) (w : World) :
    Calls Tryz.prog 95 #[opVal o v, .int .i64 total] w fun e w' => e = .returned (.int .i64 (insP o total)) ∧ Below w.heap.size w w' := by
  obtain ⟨c, n, k, p, s, l, tc, tn, on⟩ := o
  obtain ⟨x, y, z, hc⟩ : ∃ x y z, check s = (x, y, z) := ⟨_, _, _, rfl⟩
  have hx0 : 0 ≤ x := by have := check_nonneg s; rw [hc] at this; exact this
  have hw2 := (Below.refl w.heap.size w).alloc (Nat.le_refl _) (Obj.cells #[.int .i64 c, .int .i64 n, .int .i64 k, .int .i64 p, .string s, v, .int .i64 tc, .int .i64 tn, .bool on] 34)
  have HC := refCheck_any s hs (w.alloc (Obj.cells #[.int .i64 c, .int .i64 n, .int .i64 k, .int .i64 p, .string s, v, .int .i64 tc, .int .i64 tn, .bool on] 34))
  rw [hc] at HC
  obtain ⟨r, hr⟩ : ∃ r, insP ⟨c, n, k, p, s, l, tc, tn, on⟩ total = r := ⟨_, rfl⟩
  rw [hr]
  simp only [insP, hc] at hr
  clear hc hs
  simp only [opVal]
  have HC2 : Hid (Calls Tryz.prog 79 #[.string s] (w.alloc (Obj.cells #[.int .i64 c, .int .i64 n, .int .i64 k, .int .i64 p, .string s, v, .int .i64 tc, .int .i64 tn, .bool on] 34)) fun e w' => e = .returned (.tuple #[.int .i64 x, .int .i64 y, .int .i64 z]) ∧ Below (w.alloc (Obj.cells #[.int .i64 c, .int .i64 n, .int .i64 k, .int .i64 p, .string s, v, .int .i64 tc, .int .i64 tn, .bool on] 34)).heap.size (w.alloc (Obj.cells #[.int .i64 c, .int .i64 n, .int .i64 k, .int .i64 p, .string s, v, .int .i64 tc, .int .i64 tn, .bool on] 34)) w') := HC
  clear HC
  go_enter Tryz.func95, Tryz.ntmps95
  go_wp2_with fail
  refine HC2.out.mono ?_
  rintro e w1 ⟨rfl, hb1⟩
  have hB := hw2.trans (hb1.mono hw2.size)
  have d3 : w1.cell? ⟨w.heap.size, 3, none⟩ = some (.int .i64 p) := (hb1.cell (p := ⟨w.heap.size, 3, none⟩) (by simp)).trans (World.cell?_alloc_mark ..)
  clear hw2 hb1 HC2
  by_cases hz : z = 0
  · subst hz
    rw [if_neg (by simp)] at hr
    by_cases hx : x = 0
    · subst hx
      rw [if_pos rfl] at hr; subst hr
      go_wp2_with fail
      go_ret
      exact ⟨rfl, hB⟩
    · rw [if_neg hx] at hr
      have t1 : (x == 0) = false := beq_eq_false_iff_ne.2 hx
      clear hx
      by_cases hl : 256 < x
      · rw [if_pos hl] at hr; subst hr
        go_wp2_with fail
        go_ret
        exact ⟨rfl, hB⟩
      · rw [if_neg hl] at hr
        by_cases hp : p < 0 ∨ total < p
        · rw [if_pos hp] at hr; subst hr
          by_cases hp0 : p < 0
          · clear hp
            go_wp2_with fail
            go_ret
            exact ⟨rfl, hB⟩
          · have hp1 : total < p := by omega
            clear hp
            go_wp2_with fail
            go_ret
            exact ⟨rfl, hB⟩
        · rw [if_neg hp] at hr
          have hp0 : 0 ≤ p := by omega
          have hp1 : p ≤ total := by omega
          clear hp
          by_cases hg : 1048576 < total + x
          · rw [if_pos hg] at hr; subst hr
            go_wp2_with fail
            go_ret
            exact ⟨rfl, hB⟩
          · rw [if_neg hg] at hr; subst hr
            go_wp2_with fail
            go_ret
            exact ⟨rfl, hB⟩
  · rw [if_pos hz] at hr; subst hr
    have t1 : (z != 0) = true := bne_iff_ne.2 hz
    clear hz
    go_wp2_with fail
    go_ret
    exact ⟨rfl, hB⟩
set_option maxHeartbeats 1000000 in
theorem gWidth_any {o : OpV} {v : Value} (hs : o.s.size ≤ 2097152) (w : World) :
    Calls Tryz.prog 62 #[opVal o v] w fun e w' => e = .returned (.int .i64 (widthP o)) ∧ Below w.heap.size w w' := by
  obtain ⟨c, n, k, p, s, l, tc, tn, on⟩ := o
  obtain ⟨x, y, z, hc⟩ : ∃ x y z, check s = (x, y, z) := ⟨_, _, _, rfl⟩
  have hxz : z ≠ 0 → x = 0 := by
    obtain ⟨rs, rest, h⟩ := split_any s
    have h2 := h.check_eq
    rw [hc] at h2
    split at h2 <;> simp only [Prod.mk.injEq] at h2
    · intro hz; exact absurd h2.2.2 hz
    · intro _; exact h2.1
  have hw2 := (Below.refl w.heap.size w).alloc (Nat.le_refl _) (Obj.cells #[.int .i64 c, .int .i64 n, .int .i64 k, .int .i64 p, .string s, v, .int .i64 tc, .int .i64 tn, .bool on] 34)
  have HC := refCheck_any s hs (w.alloc (Obj.cells #[.int .i64 c, .int .i64 n, .int .i64 k, .int .i64 p, .string s, v, .int .i64 tc, .int .i64 tn, .bool on] 34))
  rw [hc] at HC
  obtain ⟨r, hr⟩ : ∃ r, widthP ⟨c, n, k, p, s, l, tc, tn, on⟩ = r := ⟨_, rfl⟩
  rw [hr]
  simp only [widthP, hc] at hr
  clear hc hs
  simp only [opVal]
  have HC2 : Hid (Calls Tryz.prog 79 #[.string s] (w.alloc (Obj.cells #[.int .i64 c, .int .i64 n, .int .i64 k, .int .i64 p, .string s, v, .int .i64 tc, .int .i64 tn, .bool on] 34)) fun e w' => e = .returned (.tuple #[.int .i64 x, .int .i64 y, .int .i64 z]) ∧ Below (w.alloc (Obj.cells #[.int .i64 c, .int .i64 n, .int .i64 k, .int .i64 p, .string s, v, .int .i64 tc, .int .i64 tn, .bool on] 34)).heap.size (w.alloc (Obj.cells #[.int .i64 c, .int .i64 n, .int .i64 k, .int .i64 p, .string s, v, .int .i64 tc, .int .i64 tn, .bool on] 34)) w') := HC
  clear HC
  by_cases hk : k = 1
  · subst hk
    rw [if_pos rfl] at hr; subst hr
    go_enter Tryz.func62, Tryz.ntmps62
    go_wp2_with fail
    refine HC2.out.mono ?_
    rintro e w1 ⟨rfl, hb1⟩
    have hB := hw2.trans (hb1.mono hw2.size)
    clear hw2 hb1 HC2
    by_cases hz : z = 0
    · subst hz
      clear hxz
      go_wp2_with fail
      go_ret
      exact ⟨rfl, hB⟩
    · have hx := hxz hz
      subst hx
      have t1 : (z != 0) = true := bne_iff_ne.2 hz
      clear hz hxz
      go_wp2_with fail
      go_ret
      exact ⟨rfl, hB⟩
  · rw [if_neg hk] at hr; subst hr
    have t1 : (k != 1) = true := bne_iff_ne.2 hk
    clear hk HC2 hxz
    go_enter Tryz.func62, Tryz.ntmps62
    go_wp2_with fail
    go_ret
    exact ⟨rfl, hw2⟩
end Go.Proofs.YtmdnmhdimfglaaaGreatDoor

namespace Go.Proofs.YtmdnmhdimfglaaaGreatDoor
open Go.RowKit Go.Lib Sp
set_option maxRecDepth 100000
set_option maxHeartbeats 4000000 in
theorem gCheck_any {o : OpV} {total : Int} {w : World} {a : Option Addr} {m cap : Nat} (h : Rng w a m cap o.l) (hs : o.s.size ≤ 2097152) :
    Calls Tryz.prog 78 #[opVal o (.slice a m cap), .int .i64 total] w fun e w' => e = .returned (.int .i64 (opCheck o total)) ∧ Below w.heap.size w w' := by
  obtain ⟨c, n, k, p, s, l, tc, tn, on⟩ := o
  simp only at h hs
  have hlen := h.len
  have hroom := h.room
  have hmb : m ≤ 9223372036854775807 := by simp only [maxLen] at hroom; omega
  have hw2 : Below w.heap.size w (w.alloc (Obj.cells #[.int .i64 c, .int .i64 n, .int .i64 k, .int .i64 p, .string s, .slice a m cap, .int .i64 tc, .int .i64 tn, .bool on] 34)) := (Below.refl w.heap.size w).alloc (Nat.le_refl _) _
  obtain ⟨r, hr⟩ : ∃ r, opCheck ⟨c, n, k, p, s, l, tc, tn, on⟩ total = r := ⟨_, rfl⟩
  rw [hr]
  simp only [opCheck] at hr
  by_cases hT0 : total < 0
  · rw [if_pos (.inl hT0)] at hr; subst hr
    simp only [opVal]
    go_enter Tryz.func78, Tryz.ntmps78
    go_wp2_with fail
    go_ret
    exact ⟨rfl, hw2⟩
  by_cases hT1 : 1048576 < total
  · rw [if_pos (.inr hT1)] at hr; subst hr
    simp only [opVal]
    go_enter Tryz.func78, Tryz.ntmps78
    go_wp2_with fail
    go_ret
    exact ⟨rfl, hw2⟩
  rw [if_neg (by omega)] at hr
  have g0 : 0 ≤ total := by omega
  have g1 : total ≤ 1048576 := by omega
  clear hT0 hT1
  by_cases hK0 : k < 1
  · rw [if_pos (.inl hK0)] at hr; subst hr
    simp only [opVal]
    go_enter Tryz.func78, Tryz.ntmps78
    go_wp2_with fail
    go_ret
    exact ⟨rfl, hw2⟩
  by_cases hK1 : 4 < k
  · rw [if_pos (.inr hK1)] at hr; subst hr
    simp only [opVal]
    go_enter Tryz.func78, Tryz.ntmps78
    go_wp2_with fail
    go_ret
    exact ⟨rfl, hw2⟩
  rw [if_neg (by omega)] at hr
  have k0 : 1 ≤ k := by omega
  have k1 : k ≤ 4 := by omega
  clear hK0 hK1
  obtain ⟨b, hb⟩ : ∃ b, isIdP c n = b := ⟨_, rfl⟩
  obtain ⟨nn, hnn⟩ : ∃ nn, decide (c = 0 ∧ n = 0) = nn := ⟨_, rfl⟩
  obtain ⟨ex, hex⟩ : ∃ ex, extra ⟨c, n, k, p, s, l, tc, tn, on⟩ = ex := ⟨_, rfl⟩
  obtain ⟨tb, htb⟩ : ∃ tb, isIdP tc tn = tb := ⟨_, rfl⟩
  obtain ⟨x, z, hc⟩ : ∃ x z, checkL l = (x, z) := ⟨_, _, rfl⟩
  rw [hex] at hr
  have HD : Hid (∀ w' : World, Calls Tryz.prog 92 #[.agg #[.int .i64 c, .int .i64 n]] w' fun e w'' => e = .returned (.bool b) ∧ Below w'.heap.size w' w'') := fun w' => hb ▸ gIsID_any c n w'
  have HT : Hid (∀ w' : World, Calls Tryz.prog 92 #[.agg #[.int .i64 tc, .int .i64 tn]] w' fun e w'' => e = .returned (.bool tb) ∧ Below w'.heap.size w' w'') := fun w' => htb ▸ gIsID_any tc tn w'
  have HN : Hid (∀ w' : World, Calls Tryz.prog 93 #[.agg #[.int .i64 c, .int .i64 n]] w' fun e w'' => e = .returned (.bool nn) ∧ Below w'.heap.size w' w'') := fun w' => hnn ▸ gNone_any c n w'
  have HX : Hid (∀ w' : World, Calls Tryz.prog 94 #[.agg #[.int .i64 c, .int .i64 n, .int .i64 k, .int .i64 p, .string s, .slice a m cap, .int .i64 tc, .int .i64 tn, .bool on]] w' fun e w'' => e = .returned (.bool ex) ∧ Below w'.heap.size w' w'') := fun w' => hex ▸ gExtra_any (o := ⟨c, n, k, p, s, l, tc, tn, on⟩) (w := w') hlen
  have HIN : Hid (∀ w' : World, Calls Tryz.prog 95 #[.agg #[.int .i64 c, .int .i64 n, .int .i64 k, .int .i64 p, .string s, .slice a m cap, .int .i64 tc, .int .i64 tn, .bool on], .int .i64 total] w' fun e w'' => e = .returned (.int .i64 (insP ⟨c, n, k, p, s, l, tc, tn, on⟩ total)) ∧ Below w'.heap.size w' w'') := fun w' => gInsert_any (o := ⟨c, n, k, p, s, l, tc, tn, on⟩) g0 g1 hs w'
  have HRC : Hid (∀ w' : World, Below w.heap.size w w' → Calls Tryz.prog 96 #[.slice a m cap] w' fun e w'' => e = .returned (.tuple #[.int .i64 x, .int .i64 z]) ∧ Below w'.heap.size w' w'') := fun w' hbb => by have q := Sp.refCheck_any (h.below hbb); rw [hc] at q; exact q
  have CELL : Hid (∀ w' : World, Below (w.alloc (Obj.cells #[.int .i64 c, .int .i64 n, .int .i64 k, .int .i64 p, .string s, .slice a m cap, .int .i64 tc, .int .i64 tn, .bool on] 34)).heap.size (w.alloc (Obj.cells #[.int .i64 c, .int .i64 n, .int .i64 k, .int .i64 p, .string s, .slice a m cap, .int .i64 tc, .int .i64 tn, .bool on] 34)) w' → w'.cell? ⟨w.heap.size, 0, none⟩ = some (.int .i64 c) ∧ w'.cell? ⟨w.heap.size, 1, none⟩ = some (.int .i64 n) ∧ w'.cell? ⟨w.heap.size, 2, none⟩ = some (.int .i64 k) ∧ w'.cell? ⟨w.heap.size, 3, none⟩ = some (.int .i64 p) ∧ w'.cell? ⟨w.heap.size, 4, none⟩ = some (.string s) ∧ w'.cell? ⟨w.heap.size, 5, none⟩ = some (.slice a m cap) ∧ w'.cell? ⟨w.heap.size, 6, none⟩ = some (.int .i64 tc) ∧ w'.cell? ⟨w.heap.size, 7, none⟩ = some (.int .i64 tn) ∧ w'.cell? ⟨w.heap.size, 8, none⟩ = some (.bool on)) := fun w' hbb => ⟨(hbb.cell (p := ⟨w.heap.size, 0, none⟩) (by simp)).trans (World.cell?_alloc_mark ..), (hbb.cell (p := ⟨w.heap.size, 1, none⟩) (by simp)).trans (World.cell?_alloc_mark ..), (hbb.cell (p := ⟨w.heap.size, 2, none⟩) (by simp)).trans (World.cell?_alloc_mark ..), (hbb.cell (p := ⟨w.heap.size, 3, none⟩) (by simp)).trans (World.cell?_alloc_mark ..), (hbb.cell (p := ⟨w.heap.size, 4, none⟩) (by simp)).trans (World.cell?_alloc_mark ..), (hbb.cell (p := ⟨w.heap.size, 5, none⟩) (by simp)).trans (World.cell?_alloc_mark ..), (hbb.cell (p := ⟨w.heap.size, 6, none⟩) (by simp)).trans (World.cell?_alloc_mark ..), (hbb.cell (p := ⟨w.heap.size, 7, none⟩) (by simp)).trans (World.cell?_alloc_mark ..), (hbb.cell (p := ⟨w.heap.size, 8, none⟩) (by simp)).trans (World.cell?_alloc_mark ..)⟩
  have HS0 : Hid (tgtP ⟨c, n, k, p, s, l, tc, tn, on⟩ = if tb = false ∨ (tc = c ∧ tn = n) then 63 else 0) := by show tgtP ⟨c, n, k, p, s, l, tc, tn, on⟩ = _; simp only [tgtP, htb]
  have HS1 : Hid (rngP ⟨c, n, k, p, s, l, tc, tn, on⟩ total = if l = [] then 43 else if z ≠ 0 then z else if total < lastHi l then 12 else 0) := by show rngP ⟨c, n, k, p, s, l, tc, tn, on⟩ total = _; simp only [rngP, hc]
  have HQ : Hid (b = true ∨ (b = false ∧ nn = true) ∨ (b = false ∧ nn = false)) := by show b = true ∨ _; cases b <;> cases nn <;> simp
  have HR : Hid ((if nn = false ∧ b = false then 41 else if ex = true then 42 else if k = 1 then insP ⟨c, n, k, p, s, l, tc, tn, on⟩ total else if k = 4 then tgtP ⟨c, n, k, p, s, l, tc, tn, on⟩ else rngP ⟨c, n, k, p, s, l, tc, tn, on⟩ total) = r) := by
    show _ = r
    rw [← hr, ← hnn, hb]
    simp only [decide_eq_false_iff_not]
  clear hr hb hnn hex htb hc hs
  have HRN : Hid (Rng w a m cap l) := h
  clear h
  simp only [opVal]
  go_enter Tryz.func78, Tryz.ntmps78
  go_wp2_with fail
  refine (HD.out _).mono ?_
  rintro e w1 ⟨rfl, hb1⟩
  have hW1 := hb1
  have hB1 := hw2.trans (hW1.mono hw2.size)
  obtain ⟨d0, d1, d2, d3, d4, d5, d6, d7, d8⟩ := CELL.out _ hW1
  clear hb1 HD
  go_wp2_with fail
  refine (HN.out _).mono ?_
  rintro e w2 ⟨rfl, hb2⟩
  have hW2 := hW1.trans (hb2.mono hW1.size)
  have hB2 := hw2.trans (hW2.mono hw2.size)
  clear d0 d1 d2 d3 d4 d5 d6 d7 d8 hb2 HN hW1 hB1
  obtain ⟨d0, d1, d2, d3, d4, d5, d6, d7, d8⟩ := CELL.out _ hW2
  rcases HQ.out with e0 | ⟨e0, e1⟩ | ⟨e0, e1⟩
  · subst e0
    rw [if_neg (by simp)] at HR
    clear HQ
    go_wp2_with fail
    refine (HX.out _).mono ?_
    rintro e w3 ⟨rfl, hb3⟩
    have hW3 := hW2.trans (hb3.mono hW2.size)
    have hB3 := hw2.trans (hW3.mono hw2.size)
    clear d0 d1 d2 d3 d4 d5 d6 d7 d8 hb3 HX hW2 hB2
    obtain ⟨d0, d1, d2, d3, d4, d5, d6, d7, d8⟩ := CELL.out _ hW3
    cases ex with
    | true =>
      have hr := HR.out
      rw [if_pos rfl] at hr; subst hr
      clear HR
      go_wp2_with fail
      go_ret
      exact ⟨rfl, hB3⟩
    | false =>
      have hr := HR.out
      rw [if_neg (by simp)] at hr
      clear HR
      by_cases e1 : k = 1
      · rw [if_pos e1] at hr
        subst e1 hr
        go_wp2_with fail
        refine (HIN.out _).mono ?_
        rintro e w4 ⟨rfl, hb4⟩
        have hW4 := hW3.trans (hb4.mono hW3.size)
        have hB4 := hw2.trans (hW4.mono hw2.size)
        clear hb4 hW4 hW3 hB3
        go_wp2_with fail
        go_ret
        exact ⟨rfl, hB4⟩
      · rw [if_neg e1] at hr
        have t1 : (k == 1) = false := beq_eq_false_iff_ne.2 e1
        by_cases e4 : k = 4
        · rw [if_pos e4, HS0.out] at hr
          subst e4
          clear e1 HS0
          go_wp2_with fail
          refine (HT.out _).mono ?_
          rintro e w4 ⟨rfl, hb4⟩
          have hW4 := hW3.trans (hb4.mono hW3.size)
          have hB4 := hw2.trans (hW4.mono hw2.size)
          clear d0 d1 d2 d3 d4 d5 d6 d7 d8 hb4 HT hW3 hB3
          obtain ⟨d0, d1, d2, d3, d4, d5, d6, d7, d8⟩ := CELL.out _ hW4
          cases tb with
          | false =>
            rw [if_pos (.inl rfl)] at hr; subst hr
            go_wp2_with fail
            go_ret
            exact ⟨rfl, hB4⟩
          | true =>
            by_cases f0 : tc = c
            · subst f0
              by_cases f1 : tn = n
              · subst f1
                rw [if_pos (.inr ⟨rfl, rfl⟩)] at hr; subst hr
                go_wp2_with fail
                go_ret
                exact ⟨rfl, hB4⟩
              · rw [if_neg (by simp [f1])] at hr; subst hr
                have t2 : (tn == n) = false := beq_eq_false_iff_ne.2 f1
                clear f1
                go_wp2_with fail
                go_ret
                exact ⟨rfl, hB4⟩
            · rw [if_neg (by simp [f0])] at hr; subst hr
              have t2 : (tc == c) = false := beq_eq_false_iff_ne.2 f0
              clear f0
              go_wp2_with fail
              go_ret
              exact ⟨rfl, hB4⟩
        · rw [if_neg e4, HS1.out] at hr
          have t4 : (k == 4) = false := beq_eq_false_iff_ne.2 e4
          clear e1 e4 HS1
          by_cases hm : m = 0
          · subst hm
            rw [if_pos (List.eq_nil_of_length_eq_zero hlen)] at hr; subst hr
            clear hlen HRC HRN
            go_wp2_with fail
            go_ret
            exact ⟨rfl, hB3⟩
          · rw [if_neg (fun e => hm (by rw [← hlen, e]; rfl))] at hr
            obtain ⟨i, rfl⟩ : ∃ i, m = i + 1 := ⟨m - 1, by omega⟩
            obtain ⟨g, off, rfl, hg, hc0, hc1⟩ := HRN.out.cells i (by omega)
            have hlast : lastHi l = (l.getD i (0, 0)).2 := by unfold lastHi; rw [hlen]; rfl
            rw [hlast] at hr
            obtain ⟨hi, hhi⟩ : ∃ hi, (l.getD i (0, 0)).2 = hi := ⟨_, rfl⟩
            rw [hhi] at hr hc1
            clear hhi hlast hc0 hm hlen HRN
            have t0 : (((i + 1 : Nat) : Int) == 0) = false := beq_eq_false_iff_ne.2 (by omega)
            go_wp2_with fail
            refine (HRC.out _ hB3).mono ?_
            rintro e w4 ⟨rfl, hb4⟩
            have hW4 := hW3.trans (hb4.mono hW3.size)
            have hB4 := hw2.trans (hW4.mono hw2.size)
            clear d0 d1 d2 d3 d4 d5 d6 d7 d8 hb4 HRC hW3 hB3
            obtain ⟨d0, d1, d2, d3, d4, d5, d6, d7, d8⟩ := CELL.out _ hW4
            have dh : w4.cell? ⟨g, off + i * 2 + 1, none⟩ = some (.int .i64 hi) := (hB4.cell (p := ⟨g, off + i * 2 + 1, none⟩) hg).trans hc1
            clear hc1
            by_cases hz : z = 0
            · subst hz
              rw [if_neg (by simp)] at hr
              by_cases ht : total < hi
              · rw [if_pos ht] at hr; subst hr
                go_wp2_with fail
                go_ret
                exact ⟨rfl, hB4⟩
              · rw [if_neg ht] at hr; subst hr
                go_wp2_with fail
                go_ret
                exact ⟨rfl, hB4⟩
            · rw [if_pos hz] at hr; subst hr
              have t2 : (z == 0) = false := beq_eq_false_iff_ne.2 hz
              clear hz
              go_wp2_with fail
              go_ret
              exact ⟨rfl, hB4⟩
  · subst e0 e1
    rw [if_neg (by simp)] at HR
    clear HQ
    go_wp2_with fail
    refine (HX.out _).mono ?_
    rintro e w3 ⟨rfl, hb3⟩
    have hW3 := hW2.trans (hb3.mono hW2.size)
    have hB3 := hw2.trans (hW3.mono hw2.size)
    clear d0 d1 d2 d3 d4 d5 d6 d7 d8 hb3 HX hW2 hB2
    obtain ⟨d0, d1, d2, d3, d4, d5, d6, d7, d8⟩ := CELL.out _ hW3
    cases ex with
    | true =>
      have hr := HR.out
      rw [if_pos rfl] at hr; subst hr
      clear HR
      go_wp2_with fail
      go_ret
      exact ⟨rfl, hB3⟩
    | false =>
      have hr := HR.out
      rw [if_neg (by simp)] at hr
      clear HR
      by_cases e1 : k = 1
      · rw [if_pos e1] at hr
        subst e1 hr
        go_wp2_with fail
        refine (HIN.out _).mono ?_
        rintro e w4 ⟨rfl, hb4⟩
        have hW4 := hW3.trans (hb4.mono hW3.size)
        have hB4 := hw2.trans (hW4.mono hw2.size)
        clear hb4 hW4 hW3 hB3
        go_wp2_with fail
        go_ret
        exact ⟨rfl, hB4⟩
      · rw [if_neg e1] at hr
        have t1 : (k == 1) = false := beq_eq_false_iff_ne.2 e1
        by_cases e4 : k = 4
        · rw [if_pos e4, HS0.out] at hr
          subst e4
          clear e1 HS0
          go_wp2_with fail
          refine (HT.out _).mono ?_
          rintro e w4 ⟨rfl, hb4⟩
          have hW4 := hW3.trans (hb4.mono hW3.size)
          have hB4 := hw2.trans (hW4.mono hw2.size)
          clear d0 d1 d2 d3 d4 d5 d6 d7 d8 hb4 HT hW3 hB3
          obtain ⟨d0, d1, d2, d3, d4, d5, d6, d7, d8⟩ := CELL.out _ hW4
          cases tb with
          | false =>
            rw [if_pos (.inl rfl)] at hr; subst hr
            go_wp2_with fail
            go_ret
            exact ⟨rfl, hB4⟩
          | true =>
            by_cases f0 : tc = c
            · subst f0
              by_cases f1 : tn = n
              · subst f1
                rw [if_pos (.inr ⟨rfl, rfl⟩)] at hr; subst hr
                go_wp2_with fail
                go_ret
                exact ⟨rfl, hB4⟩
              · rw [if_neg (by simp [f1])] at hr; subst hr
                have t2 : (tn == n) = false := beq_eq_false_iff_ne.2 f1
                clear f1
                go_wp2_with fail
                go_ret
                exact ⟨rfl, hB4⟩
            · rw [if_neg (by simp [f0])] at hr; subst hr
              have t2 : (tc == c) = false := beq_eq_false_iff_ne.2 f0
              clear f0
              go_wp2_with fail
              go_ret
              exact ⟨rfl, hB4⟩
        · rw [if_neg e4, HS1.out] at hr
          have t4 : (k == 4) = false := beq_eq_false_iff_ne.2 e4
          clear e1 e4 HS1
          by_cases hm : m = 0
          · subst hm
            rw [if_pos (List.eq_nil_of_length_eq_zero hlen)] at hr; subst hr
            clear hlen HRC HRN
            go_wp2_with fail
            go_ret
            exact ⟨rfl, hB3⟩
          · rw [if_neg (fun e => hm (by rw [← hlen, e]; rfl))] at hr
            obtain ⟨i, rfl⟩ : ∃ i, m = i + 1 := ⟨m - 1, by omega⟩
            obtain ⟨g, off, rfl, hg, hc0, hc1⟩ := HRN.out.cells i (by omega)
            have hlast : lastHi l = (l.getD i (0, 0)).2 := by unfold lastHi; rw [hlen]; rfl
            rw [hlast] at hr
            obtain ⟨hi, hhi⟩ : ∃ hi, (l.getD i (0, 0)).2 = hi := ⟨_, rfl⟩
            rw [hhi] at hr hc1
            clear hhi hlast hc0 hm hlen HRN
            have t0 : (((i + 1 : Nat) : Int) == 0) = false := beq_eq_false_iff_ne.2 (by omega)
            go_wp2_with fail
            refine (HRC.out _ hB3).mono ?_
            rintro e w4 ⟨rfl, hb4⟩
            have hW4 := hW3.trans (hb4.mono hW3.size)
            have hB4 := hw2.trans (hW4.mono hw2.size)
            clear d0 d1 d2 d3 d4 d5 d6 d7 d8 hb4 HRC hW3 hB3
            obtain ⟨d0, d1, d2, d3, d4, d5, d6, d7, d8⟩ := CELL.out _ hW4
            have dh : w4.cell? ⟨g, off + i * 2 + 1, none⟩ = some (.int .i64 hi) := (hB4.cell (p := ⟨g, off + i * 2 + 1, none⟩) hg).trans hc1
            clear hc1
            by_cases hz : z = 0
            · subst hz
              rw [if_neg (by simp)] at hr
              by_cases ht : total < hi
              · rw [if_pos ht] at hr; subst hr
                go_wp2_with fail
                go_ret
                exact ⟨rfl, hB4⟩
              · rw [if_neg ht] at hr; subst hr
                go_wp2_with fail
                go_ret
                exact ⟨rfl, hB4⟩
            · rw [if_pos hz] at hr; subst hr
              have t2 : (z == 0) = false := beq_eq_false_iff_ne.2 hz
              clear hz
              go_wp2_with fail
              go_ret
              exact ⟨rfl, hB4⟩
  · subst e0 e1
    have hr := HR.out
    rw [if_pos ⟨rfl, rfl⟩] at hr; subst hr
    clear HR HQ
    go_wp2_with fail
    go_ret
    exact ⟨rfl, hB2⟩
end Go.Proofs.YtmdnmhdimfglaaaGreatDoor

namespace Go.Proofs.YtmdnmhdimfglaaaGreatDoor
open Go.RowKit Go.Lib Sp
set_option maxRecDepth 100000
set_option maxHeartbeats 2000000 in
theorem gOwn_any {o : OpV} {w : World} {a : Option Addr} {m cap : Nat} (h : Rng w a m cap o.l) (hs : o.s.size ≤ 2097152) :
    Calls Tryz.prog 59 #[opVal o (.slice a m cap)] w fun e w' => e = .returned (.int .i64 (ownP o)) ∧ Below w.heap.size w w' := by
  obtain ⟨c, n, k, p, s, l, tc, tn, on⟩ := o
  simp only at h hs
  have hw2 : Below w.heap.size w (w.alloc (Obj.cells #[.int .i64 c, .int .i64 n, .int .i64 k, .int .i64 p, .string s, .slice a m cap, .int .i64 tc, .int .i64 tn, .bool on] 34)) := (Below.refl w.heap.size w).alloc (Nat.le_refl _) _
  have HC : Hid (∀ t : Int, ∀ w' : World, Below w.heap.size w w' → Calls Tryz.prog 78 #[.agg #[.int .i64 c, .int .i64 n, .int .i64 k, .int .i64 p, .string s, .slice a m cap, .int .i64 tc, .int .i64 tn, .bool on], .int .i64 t] w' fun e w'' => e = .returned (.int .i64 (opCheck ⟨c, n, k, p, s, l, tc, tn, on⟩ t)) ∧ Below w'.heap.size w' w'') := fun t w' hb => gCheck_any (o := ⟨c, n, k, p, s, l, tc, tn, on⟩) (h.below hb) hs
  clear h hs
  obtain ⟨r, hr⟩ : ∃ r, ownP ⟨c, n, k, p, s, l, tc, tn, on⟩ = r := ⟨_, rfl⟩
  rw [hr]
  simp only [ownP] at hr
  simp only [opVal]
  by_cases e1 : k = 1
  · subst e1
    by_cases e2 : 0 ≤ p
    · by_cases e3 : p ≤ 1048576
      · rw [if_pos ⟨rfl, e2, e3⟩] at hr; subst hr
        go_enter Tryz.func59, Tryz.ntmps59
        go_wp2_with fail
        refine (HC.out _ _ hw2).mono ?_
        rintro e w1 ⟨rfl, hb1⟩
        have hB := hw2.trans (hb1.mono hw2.size)
        clear hw2 hb1 HC
        go_wp2_with fail
        go_ret
        exact ⟨rfl, hB⟩
      · rw [if_neg (fun hh => e3 hh.2.2)] at hr; subst hr
        have t3 : decide (p ≤ 1048576) = false := decide_eq_false e3
        clear e3
        go_enter Tryz.func59, Tryz.ntmps59
        go_wp2_with fail
        refine (HC.out _ _ hw2).mono ?_
        rintro e w1 ⟨rfl, hb1⟩
        have hB := hw2.trans (hb1.mono hw2.size)
        clear hw2 hb1 HC
        go_wp2_with fail
        go_ret
        exact ⟨rfl, hB⟩
    · rw [if_neg (fun hh => e2 hh.2.1)] at hr; subst hr
      have t3 : decide (0 ≤ p) = false := decide_eq_false e2
      clear e2
      go_enter Tryz.func59, Tryz.ntmps59
      go_wp2_with fail
      refine (HC.out _ _ hw2).mono ?_
      rintro e w1 ⟨rfl, hb1⟩
      have hB := hw2.trans (hb1.mono hw2.size)
      clear hw2 hb1 HC
      go_wp2_with fail
      go_ret
      exact ⟨rfl, hB⟩
  · rw [if_neg (fun hh => e1 hh.1)] at hr; subst hr
    have t1 : (k == 1) = false := beq_eq_false_iff_ne.2 e1
    clear e1
    go_enter Tryz.func59, Tryz.ntmps59
    go_wp2_with fail
    refine (HC.out _ _ hw2).mono ?_
    rintro e w1 ⟨rfl, hb1⟩
    have hB := hw2.trans (hb1.mono hw2.size)
    clear hw2 hb1 HC
    go_wp2_with fail
    go_ret
    exact ⟨rfl, hB⟩
end Go.Proofs.YtmdnmhdimfglaaaGreatDoor
