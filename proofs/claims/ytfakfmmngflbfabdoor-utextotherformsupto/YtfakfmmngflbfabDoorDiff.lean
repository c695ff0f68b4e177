import Derived.Test.YtfakfmmngflbfabDoorRns
import Derived.Deep.QuietTactic
import Derived.BigQuiet
import Derived.BigRegion
import Derived.Deep.RegionWith
namespace Go.Proofs.YtfakfmmngflbfabDoor
open Go.RowKit Go.Lib

/-- How many runes are alike at the beginning; at the end, behind the first 'at'. -/
def headF (xs ys : List Int) : Nat → Nat → Nat
  | 0, k => k
  | f + 1, k => if k < xs.length ∧ k < ys.length ∧ xs.getD k 0 = ys.getD k 0 then headF xs ys f (k + 1) else k
def tailF (xs ys : List Int) (a : Nat) : Nat → Nat → Nat
  | 0, t => t
  | f + 1, t => if a + t < xs.length ∧ a + t < ys.length ∧ xs.getD (xs.length - 1 - t) 0 = ys.getD (ys.length - 1 - t) 0 then tailF xs ys a f (t + 1) else t
def headOf (xs ys : List Int) : Nat := headF xs ys xs.length 0
def tailOf (xs ys : List Int) : Nat := tailF xs ys (headOf xs ys) (xs.length - headOf xs ys) 0
def tailG (xs ys : List Int) : Nat → Nat → Nat
  | 0, t => t
  | f + 1, t => if t < xs.length ∧ t < ys.length ∧ xs.getD (xs.length - 1 - t) 0 = ys.getD (ys.length - 1 - t) 0 then tailG xs ys f (t + 1) else t
theorem getD_drop (xs : List Int) (a j : Nat) : (xs.drop a).getD j 0 = xs.getD (a + j) 0 := by
  simp only [List.getD_eq_getElem?_getD, List.getElem?_drop]
theorem tailG_drop (xs ys : List Int) (a : Nat) : ∀ f t, tailG (xs.drop a) (ys.drop a) f t = tailF xs ys a f t
  | 0, t => rfl
  | f + 1, t => by
    rw [tailG, tailF, tailG_drop xs ys a f (t + 1)]
    simp only [List.length_drop, getD_drop]
    by_cases h1 : a + t < xs.length
    · by_cases h2 : a + t < ys.length
      · rw [show a + (xs.length - a - 1 - t) = xs.length - 1 - t by omega, show a + (ys.length - a - 1 - t) = ys.length - 1 - t by omega]
        by_cases h3 : xs.getD (xs.length - 1 - t) 0 = ys.getD (ys.length - 1 - t) 0
        · rw [if_pos ⟨by omega, by omega, h3⟩, if_pos ⟨h1, h2, h3⟩]
        · rw [if_neg (fun h => h3 h.2.2), if_neg (fun h => h3 h.2.2)]
      · rw [if_neg (by omega), if_neg (by omega)]
    · rw [if_neg (by omega), if_neg (by omega)]

set_option maxHeartbeats 1000000 in
theorem head_any (a : Option Addr) (n cap : Nat) (xs : List Int) (b : Option Addr) (m capb : Nat) (ys : List Int) (w : World) (hx : Row32 w a n cap xs) (hy : Row32 w b m capb ys) (hn : n ≤ 140737488351232) (hm : m ≤ 140737488351232) :
    Calls Tryd.prog 32 #[.slice a n cap, .slice b m capb] w fun e w' => e = .returned (.int .i64 (headOf xs ys)) ∧ ∃ q, w' = w.drewN q := by
  have hcap := hx.room
  have hcapb := hy.room
  have _r := hm
  have HX : Hid (xs.length = n) := hx.len
  have HY : Hid (ys.length = m) := hy.len
  go_enter Tryd.func32, Tryd.ntmps32
  go_wp2_with fail
  go_loopw [5] (fun v w' => ∃ k q : Nat, k ≤ n ∧ v = .int .i64 k ∧ w' = w.drewN q ∧ Hid (headF xs ys (n - k) k = headOf xs ys)) (fun v _ => n - (intOf v).toNat)
  case atStart => exact ⟨0, 0, Nat.zero_le _, rfl, rfl, by unfold headOf; rw [HX.out]; rfl⟩
  case round =>
    obtain ⟨k, q, hkn, rfl, rfl, hH⟩ := hrel
    by_cases h1 : k < n
    · have hf : headF xs ys (n - (k + 1) + 1) k = headOf xs ys := by rw [show n - (k + 1) + 1 = n - k by omega]; exact hH.out
      rw [headF] at hf
      clear hH
      by_cases h2 : k < m
      · obtain ⟨g, off, rfl, _, hc⟩ := hx.cells k h1
        obtain ⟨g2, off2, rfl, _, hc2⟩ := hy.cells k h2
        have e1 : (k : Int) < (n : Int) := by omega
        have e2 : (k : Int) < (m : Int) := by omega
        by_cases h3 : xs.getD k 0 = ys.getD k 0
        · rw [if_pos ⟨by rw [HX.out]; exact h1, by rw [HY.out]; exact h2, h3⟩] at hf
          have HF : Hid (headF xs ys (n - (k + 1)) (k + 1) = headOf xs ys) := hf
          clear hf
          generalize xs.getD k 0 = z at *
          generalize ys.getD k 0 = z2 at *
          have t1 : (z == z2) = true := by simp [h3]
          clear h3
          go_wp2_with fail
          go_quiet (fail)
          go_wp2_with fail
          go_roundw
          case rel => exact ⟨k + 1, q + nq, by omega, by go_num, rfl, HF⟩
          case measure => simp [intOf]; omega
        · rw [if_neg (fun h => h3 h.2.2)] at hf
          have HF : Hid (k = headOf xs ys) := hf
          clear hf
          generalize xs.getD k 0 = z at *
          generalize ys.getD k 0 = z2 at *
          have t1 : (z == z2) = false := by simp [h3]
          clear h3
          go_wp2_with fail
          go_quiet (fail)
          go_wp2_with fail
          go_ret
          rw [← HF.out]
          exact ⟨rfl, q + nq, World.drewN_drewN ..⟩
      · rw [if_neg (fun h => h2 (by have := h.2.1; rw [HY.out] at this; exact this))] at hf
        have HF : Hid (k = headOf xs ys) := hf
        clear hf
        have e1 : (k : Int) < (n : Int) := by omega
        have e2 : decide ((k : Int) < (m : Int)) = false := decide_eq_false (by omega)
        go_wp2_with fail
        go_quiet (fail)
        go_wp2_with fail
        go_ret
        rw [← HF.out]
        exact ⟨rfl, q + nq, World.drewN_drewN ..⟩
    · have hf := hH.out
      rw [show n - k = 0 by omega, headF] at hf
      have HF : Hid (k = headOf xs ys) := hf
      clear hf hH
      have e1 : decide ((k : Int) < (n : Int)) = false := decide_eq_false (by omega)
      go_wp2_with fail
      go_quiet (fail)
      go_wp2_with fail
      go_ret
      rw [← HF.out]
      exact ⟨rfl, q + nq, World.drewN_drewN ..⟩

set_option maxHeartbeats 1000000 in
theorem tail_any (a : Option Addr) (n cap : Nat) (xs : List Int) (b : Option Addr) (m capb : Nat) (ys : List Int) (w : World) (hx : Row32 w a n cap xs) (hy : Row32 w b m capb ys) (hn : n ≤ 140737488351232) (hm : m ≤ 140737488351232) :
    Calls Tryd.prog 33 #[.slice a n cap, .slice b m capb] w fun e w' => e = .returned (.int .i64 (tailG xs ys n 0)) ∧ ∃ q, w' = w.drewN q := by
  have hcap := hx.room
  have hcapb := hy.room
  have _r := hm
  have HX : Hid (xs.length = n) := hx.len
  have HY : Hid (ys.length = m) := hy.len
  go_enter Tryd.func33, Tryd.ntmps33
  go_wp2_with fail
  go_loopw [5] (fun v w' => ∃ k q : Nat, k ≤ n ∧ v = .int .i64 k ∧ w' = w.drewN q ∧ Hid (tailG xs ys (n - k) k = tailG xs ys n 0)) (fun v _ => n - (intOf v).toNat)
  case atStart => exact ⟨0, 0, Nat.zero_le _, rfl, rfl, rfl⟩
  case round =>
    obtain ⟨k, q, hkn, rfl, rfl, hH⟩ := hrel
    by_cases h1 : k < n
    · have hf : tailG xs ys (n - (k + 1) + 1) k = tailG xs ys n 0 := by rw [show n - (k + 1) + 1 = n - k by omega]; exact hH.out
      rw [tailG, HX.out, HY.out] at hf
      clear hH
      by_cases h2 : k < m
      · obtain ⟨g, off, rfl, _, hc⟩ := hx.cells (n - 1 - k) (by omega)
        obtain ⟨g2, off2, rfl, _, hc2⟩ := hy.cells (m - 1 - k) (by omega)
        have e1 : (k : Int) < (n : Int) := by omega
        have e2 : (k : Int) < (m : Int) := by omega
        obtain ⟨x, hx1⟩ : ∃ x, n - 1 - k = x := ⟨_, rfl⟩
        obtain ⟨y, hy1⟩ : ∃ y, m - 1 - k = y := ⟨_, rfl⟩
        have w1 : IntKind.i64.wrap ((n : Int) - 1) = (n : Int) - 1 := IntWalk.i64_in _ (by omega)
        have w2 : IntKind.i64.wrap ((n : Int) - 1 - (k : Int)) = (x : Int) := (IntWalk.i64_in _ (by omega)).trans (by omega)
        have w3 : IntKind.i64.wrap ((m : Int) - 1) = (m : Int) - 1 := IntWalk.i64_in _ (by omega)
        have w4 : IntKind.i64.wrap ((m : Int) - 1 - (k : Int)) = (y : Int) := (IntWalk.i64_in _ (by omega)).trans (by omega)
        have l2 : (x : Int) < (n : Int) := by omega
        have l4 : (y : Int) < (m : Int) := by omega
        rw [hx1] at hc hf
        rw [hy1] at hc2 hf
        clear hx1 hy1
        by_cases h3 : xs.getD x 0 = ys.getD y 0
        · rw [if_pos ⟨h1, h2, h3⟩] at hf
          have HF : Hid (tailG xs ys (n - (k + 1)) (k + 1) = tailG xs ys n 0) := hf
          clear hf
          generalize xs.getD x 0 = z at *
          generalize ys.getD y 0 = z2 at *
          have t1 : (z == z2) = true := by simp [h3]
          clear h3
          go_wp2_with fail
          go_quiet (fail)
          go_wp2_with fail
          go_roundw
          case rel => exact ⟨k + 1, q + nq, by omega, by go_num, rfl, HF⟩
          case measure => simp [intOf]; omega
        · rw [if_neg (fun h => h3 h.2.2)] at hf
          have HF : Hid (k = tailG xs ys n 0) := hf
          clear hf
          generalize xs.getD x 0 = z at *
          generalize ys.getD y 0 = z2 at *
          have t1 : (z == z2) = false := by simp [h3]
          clear h3
          go_wp2_with fail
          go_quiet (fail)
          go_wp2_with fail
          go_ret
          rw [← HF.out]
          exact ⟨rfl, q + nq, World.drewN_drewN ..⟩
      · rw [if_neg (fun h => h2 h.2.1)] at hf
        have HF : Hid (k = tailG xs ys n 0) := hf
        clear hf
        have e1 : (k : Int) < (n : Int) := by omega
        have e2 : decide ((k : Int) < (m : Int)) = false := decide_eq_false (by omega)
        go_wp2_with fail
        go_quiet (fail)
        go_wp2_with fail
        go_ret
        rw [← HF.out]
        exact ⟨rfl, q + nq, World.drewN_drewN ..⟩
    · have hf := hH.out
      rw [show n - k = 0 by omega, tailG] at hf
      have HF : Hid (k = tailG xs ys n 0) := hf
      clear hf hH
      have e1 : decide ((k : Int) < (n : Int)) = false := decide_eq_false (by omega)
      go_wp2_with fail
      go_quiet (fail)
      go_wp2_with fail
      go_ret
      rw [← HF.out]
      exact ⟨rfl, q + nq, World.drewN_drewN ..⟩
end Go.Proofs.YtfakfmmngflbfabDoor
