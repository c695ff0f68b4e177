import Derived.Test.YtfakfmmngflbfacGreatDoorRefRow
import Derived.Test.YtfakfmmngflbfacGreatDoorLines2
import Derived.Test.YtfakfmmngflbfacGreatDoorStepIn
namespace Go.Proofs.YtfakfmmngflbfacGreatDoor
open Go.RowKit Go.Lib

set_option maxHeartbeats 1000000 in
theorem refwhere_any (a : Option Addr) (n cap : Nat) (rs : List Int) (w : World) (hr : Row64 w a n cap rs) (hn : n ≤ 2097152) (k : Nat) (hk : k ≤ n) :
    Calls Tryz.prog 61 #[.slice a n cap, .int .i64 k] w fun e w' => e = .returned (.tuple #[.int .i64 (lineOf rs k), .int .i64 ((k : Int) - homeOf rs k)]) ∧ w' = w := by
  have hcap := hr.room
  go_enter Tryz.func61, Tryz.ntmps61
  go_wp2_with fail
  go_loop [6, 7, 8] (fun l c i => ∃ j : Nat, j ≤ k ∧ i = .int .i64 j ∧ l = .int .i64 (lineOf rs j) ∧ c = .int .i64 ((j : Int) - homeOf rs j)) (fun _ _ i => k - (intOf i).toNat)
  case atStart => exact ⟨0, Nat.zero_le _, rfl, by simp [lineOf], by simp [homeOf]⟩
  case round =>
    obtain ⟨j, hjk, rfl, rfl, rfl⟩ := hrel
    have hh := homeOf_le rs j
    have hl := lineOf_le rs j
    by_cases hj : j < k
    · obtain ⟨g, off, rfl, _, hc⟩ := hr.cells j (by omega)
      by_cases hz : rs.getD j 0 = 10
      · have HA : Hid (lineOf rs (j + 1) = lineOf rs j + 1) := by rw [lineOf, if_pos hz]; rfl
        have HB : Hid (homeOf rs (j + 1) = j + 1) := by rw [homeOf, if_pos hz]; rfl
        generalize rs.getD j 0 = z at *
        have t1 : (z == 10) = true := by simp [hz]
        clear hz
        go_wp2_with fail
        go_round
        case rel => exact ⟨j + 1, by omega, by go_num, by rw [HA.out]; go_num, by rw [HB.out]; go_num⟩
        case measure => simp [intOf]; omega
      · have HA : Hid (lineOf rs (j + 1) = lineOf rs j) := by rw [lineOf, if_neg hz]; rfl
        have HB : Hid (homeOf rs (j + 1) = homeOf rs j) := by rw [homeOf, if_neg hz]; rfl
        generalize rs.getD j 0 = z at *
        have t1 : (z == 10) = false := by simp [hz]
        clear hz
        go_wp2_with fail
        go_round
        case rel => exact ⟨j + 1, by omega, by go_num, by rw [HA.out], by rw [HB.out]; go_num⟩
        case measure => simp [intOf]; omega
    · have hjk2 : j = k := by omega
      subst hjk2
      go_wp2_with fail
      go_ret2
      exact ⟨rfl, rfl⟩

/-- What the document's find has found among the places ahead of i. -/
def bestF (rs : List Int) (line col : Int) : Nat → Int
  | 0 => -1
  | i + 1 => if (lineOf rs i : Int) = line ∧ (i : Int) - homeOf rs i ≤ col then i else bestF rs line col i
theorem bestF_le (rs : List Int) (line col : Int) : ∀ n, -1 ≤ bestF rs line col n ∧ bestF rs line col n < n
  | 0 => by simp [bestF]
  | n + 1 => by
    have := bestF_le rs line col n
    rw [bestF]
    split <;> omega

set_option maxHeartbeats 2000000 in
theorem reffind_any (a : Option Addr) (n cap : Nat) (rs : List Int) (w : World) (hr : Row64 w a n cap rs) (hn : n ≤ 2097152) (line col : Int) :
    Calls Tryz.prog 62 #[.slice a n cap, .int .i64 line, .int .i64 col] w fun e w' => e = .returned (.int .i64 (bestF rs line col (n + 1))) ∧ w' = w := by
  have hcap := hr.room
  go_enter Tryz.func62, Tryz.ntmps62
  go_wp2_with fail
  go_loop [7, 8, 9, 10] (fun k b c i => ∃ j : Nat, j ≤ n + 1 ∧ i = .int .i64 j ∧ b = .int .i64 (bestF rs line col j) ∧ (j ≤ n → k = .int .i64 (lineOf rs j) ∧ c = .int .i64 ((j : Int) - homeOf rs j)) ∧ (∃ x y, k = .int .i64 x ∧ c = .int .i64 y)) (fun _ _ _ i => n + 1 - (intOf i).toNat)
  case atStart => exact ⟨0, Nat.zero_le _, rfl, rfl, fun _ => ⟨by simp [lineOf], by simp [homeOf]⟩, _, _, rfl, rfl⟩
  case round =>
    obtain ⟨j, hjn, rfl, rfl, hkc, x, y, rfl, rfl⟩ := hrel
    by_cases hj : j ≤ n
    · obtain ⟨ek, ec⟩ := hkc hj
      simp only [Value.int.injEq, true_and] at ek ec
      subst ek ec
      clear hkc
      have hh := homeOf_le rs j
      have hl := lineOf_le rs j
      by_cases hq : (lineOf rs j : Int) = line
      · have t0 : ((lineOf rs j : Int) == line) = true := by simp [hq]
        by_cases hle : (j : Int) - homeOf rs j ≤ col
        · have HB : Hid (bestF rs line col (j + 1) = (j : Int)) := by rw [bestF, if_pos ⟨hq, hle⟩]; rfl
          generalize bestF rs line col j = b0 at *
          clear hq
          by_cases hjl : j < n
          · obtain ⟨g, off, rfl, _, hc⟩ := hr.cells j hjl
            by_cases hz : rs.getD j 0 = 10
            · have HA : Hid (lineOf rs (j + 1) = lineOf rs j + 1) := by rw [lineOf, if_pos hz]; rfl
              have HB2 : Hid (homeOf rs (j + 1) = j + 1) := by rw [homeOf, if_pos hz]; rfl
              generalize rs.getD j 0 = z at *
              have t1 : (z == 10) = true := by simp [hz]
              clear hz
              go_wp2_with fail
              go_round
              case rel => exact ⟨j + 1, by omega, by go_num, by rw [HB.out], fun _ => ⟨by rw [HA.out]; go_num, by rw [HB2.out]; go_num⟩, _, _, rfl, rfl⟩
              case measure => simp [intOf]; omega
            · have HA : Hid (lineOf rs (j + 1) = lineOf rs j) := by rw [lineOf, if_neg hz]; rfl
              have HB2 : Hid (homeOf rs (j + 1) = homeOf rs j) := by rw [homeOf, if_neg hz]; rfl
              generalize rs.getD j 0 = z at *
              have t1 : (z == 10) = false := by simp [hz]
              clear hz
              go_wp2_with fail
              go_round
              case rel => exact ⟨j + 1, by omega, by go_num, by rw [HB.out], fun _ => ⟨by rw [HA.out], by rw [HB2.out]; go_num⟩, _, _, rfl, rfl⟩
              case measure => simp [intOf]; omega
          · go_wp2_with fail
            go_round
            case rel => exact ⟨j + 1, by omega, by go_num, by rw [HB.out], fun h => absurd h (by omega), _, _, rfl, rfl⟩
            case measure => simp [intOf]; omega
        · have HB : Hid (bestF rs line col (j + 1) = bestF rs line col j) := by rw [bestF, if_neg (fun h => hle h.2)]; rfl
          have hle2 : ¬ ((j : Int) - homeOf rs j ≤ col) := hle
          clear hq hle
          by_cases hjl : j < n
          · obtain ⟨g, off, rfl, _, hc⟩ := hr.cells j hjl
            by_cases hz : rs.getD j 0 = 10
            · have HA : Hid (lineOf rs (j + 1) = lineOf rs j + 1) := by rw [lineOf, if_pos hz]; rfl
              have HB2 : Hid (homeOf rs (j + 1) = j + 1) := by rw [homeOf, if_pos hz]; rfl
              generalize rs.getD j 0 = z at *
              have t1 : (z == 10) = true := by simp [hz]
              clear hz
              go_wp2_with fail
              go_round
              case rel => exact ⟨j + 1, by omega, by go_num, by rw [HB.out], fun _ => ⟨by rw [HA.out]; go_num, by rw [HB2.out]; go_num⟩, _, _, rfl, rfl⟩
              case measure => simp [intOf]; omega
            · have HA : Hid (lineOf rs (j + 1) = lineOf rs j) := by rw [lineOf, if_neg hz]; rfl
              have HB2 : Hid (homeOf rs (j + 1) = homeOf rs j) := by rw [homeOf, if_neg hz]; rfl
              generalize rs.getD j 0 = z at *
              have t1 : (z == 10) = false := by simp [hz]
              clear hz
              go_wp2_with fail
              go_round
              case rel => exact ⟨j + 1, by omega, by go_num, by rw [HB.out], fun _ => ⟨by rw [HA.out], by rw [HB2.out]; go_num⟩, _, _, rfl, rfl⟩
              case measure => simp [intOf]; omega
          · go_wp2_with fail
            go_round
            case rel => exact ⟨j + 1, by omega, by go_num, by rw [HB.out], fun h => absurd h (by omega), _, _, rfl, rfl⟩
            case measure => simp [intOf]; omega
      · have t0 : ((lineOf rs j : Int) == line) = false := by simp [hq]
        have HB : Hid (bestF rs line col (j + 1) = bestF rs line col j) := by rw [bestF, if_neg (fun h => hq h.1)]; rfl
        clear hq
        by_cases hjl : j < n
        · obtain ⟨g, off, rfl, _, hc⟩ := hr.cells j hjl
          by_cases hz : rs.getD j 0 = 10
          · have HA : Hid (lineOf rs (j + 1) = lineOf rs j + 1) := by rw [lineOf, if_pos hz]; rfl
            have HB2 : Hid (homeOf rs (j + 1) = j + 1) := by rw [homeOf, if_pos hz]; rfl
            generalize rs.getD j 0 = z at *
            have t1 : (z == 10) = true := by simp [hz]
            clear hz
            go_wp2_with fail
            go_round
            case rel => exact ⟨j + 1, by omega, by go_num, by rw [HB.out], fun _ => ⟨by rw [HA.out]; go_num, by rw [HB2.out]; go_num⟩, _, _, rfl, rfl⟩
            case measure => simp [intOf]; omega
          · have HA : Hid (lineOf rs (j + 1) = lineOf rs j) := by rw [lineOf, if_neg hz]; rfl
            have HB2 : Hid (homeOf rs (j + 1) = homeOf rs j) := by rw [homeOf, if_neg hz]; rfl
            generalize rs.getD j 0 = z at *
            have t1 : (z == 10) = false := by simp [hz]
            clear hz
            go_wp2_with fail
            go_round
            case rel => exact ⟨j + 1, by omega, by go_num, by rw [HB.out], fun _ => ⟨by rw [HA.out], by rw [HB2.out]; go_num⟩, _, _, rfl, rfl⟩
            case measure => simp [intOf]; omega
        · go_wp2_with fail
          go_round
          case rel => exact ⟨j + 1, by omega, by go_num, by rw [HB.out], fun h => absurd h (by omega), _, _, rfl, rfl⟩
          case measure => simp [intOf]; omega
    · have hj2 : j = n + 1 := by omega
      subst hj2
      have hjN : ¬ (((n + 1 : Nat) : Int) ≤ (n : Int)) := by omega
      go_wp2_with fail
      go_ret
      exact ⟨rfl, rfl⟩
end Go.Proofs.YtfakfmmngflbfacGreatDoor
