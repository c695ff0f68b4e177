import Derived.Test.YtfakfmmngflbfacGreatDoorBest
namespace Go.Proofs.YtfakfmmngflbfacGreatDoor
open Go.RowKit Go.Lib

theorem refWord_any (r : Int) (w : World) :
    Calls Tryz.prog 76 #[.int .i64 r] w fun e w' => e = .returned (.bool (wordR r)) ∧ w' = w := by
  go_enter Tryz.func76, Tryz.ntmps76
  by_cases q1 : r = 95
  · have q2 : (r == 95) = true := by simp [q1]
    go_wp2
    all_goals go_ret
    all_goals exact ⟨congrArg (fun b => Ending.returned (.bool b)) (by unfold wordR; first | exact (decide_eq_true (by omega)).symm | exact decide_eq_decide.2 (by omega) | (rw [Bool.eq_iff_iff]; simp only [Bool.or_eq_true, decide_eq_true_eq]; omega)), rfl⟩
  · have q2 : (r == 95) = false := by simp [q1]
    go_wp2
    all_goals go_ret
    all_goals exact ⟨congrArg (fun b => Ending.returned (.bool b)) (by unfold wordR; first | exact (decide_eq_true (by omega)).symm | exact decide_eq_decide.2 (by omega) | (rw [Bool.eq_iff_iff]; simp only [Bool.or_eq_true, decide_eq_true_eq]; omega)), rfl⟩

set_option maxHeartbeats 4000000 in
theorem refword_back (a : Option Addr) (n cap : Nat) (rs : List Int) (w : World) (hr : Row64 w a n cap rs) (hn : n ≤ 2097152) (k : Nat) (hk : k ≤ n) :
    Calls Tryz.prog 65 #[.slice a n cap, .int .i64 k, .bool true] w fun e w' => e = .returned (.int .i64 (backF wordR rs (backF (fun r => !wordR r) rs k))) ∧ w' = w := by
  have hcap := hr.room
  have hm := backF_le (fun r => !wordR r) rs k
  obtain ⟨m, HMe⟩ : ∃ m, Hid ((backF (fun r => !wordR r) rs k) = m) := ⟨_, rfl⟩
  rw [HMe.out] at hm ⊢
  go_enter Tryz.func65, Tryz.ntmps65
  go_wp2_with fail
  refine wp_loop_rounds 3 ?_
  rw [rounds_succ]
  go_wp2_with fail
  go_loop [1, 8, 9] (fun v _ _ => ∃ j : Nat, j ≤ k ∧ v = .int .i64 j ∧ Hid (backF (fun r => !wordR r) rs j = backF (fun r => !wordR r) rs k)) (fun v _ _ => (intOf v).toNat)
  case atStart => exact ⟨k, Nat.le_refl _, rfl, rfl⟩
  case round =>
    obtain ⟨j, hjka, rfl, hH⟩ := hrel
    cases j with
    | zero =>
      have H0a : Hid (((0 : Nat) : Int) = ((backF (fun r => !wordR r) rs k : Nat) : Int)) := congrArg Int.ofNat hH.out
      clear hH
      go_wp2_with fail
      have hm0 : m = 0 := by have := H0a.out; rw [HMe.out] at this; omega
      subst hm0
      clear H0a
      rw [rounds_succ]
      go_wp2_with fail
      refine wp_loop_rounds 1 ?_
      rw [rounds_succ]
      go_wp2_with fail
      rw [rounds_succ]
      go_wp2_with fail
      go_ret
      exact ⟨rfl, rfl⟩
    | succ i =>
      obtain ⟨g, off, ea, _, hca⟩ := hr.cells i (by omega)
      first | subst ea | (simp only [Option.some.injEq, Addr.mk.injEq, and_true] at ea; obtain ⟨rfl, rfl⟩ := ea)
      have ec : ((i + 1 : Nat) : Int) = (i : Int) + 1 := by omega
      rw [ec]
      clear ec
      have h1 := hH.out
      rw [backF] at h1
      cases hz : wordR (rs.getD i 0) with
      | true =>
        have Va : Hid (wordR (rs.getD i 0) = true) := hz
        have H0a : Hid (((i : Int) + 1) = ((backF (fun r => !wordR r) rs k : Nat) : Int)) := by rw [if_neg (by first | (simp only [hz]; done) | (simp only [hz]; decide))] at h1; rw [← h1]; rfl
        generalize rs.getD i 0 = za at Va hca
        clear h1 hz hH
        go_wp2_with (go_at_call 76; refine (refWord_any _ _).mono ?_; rintro e w' ⟨rfl, rfl⟩; rw [Va.out])
        have HQ : Hid (((i : Int) + 1) = ((m : Nat) : Int)) := by have := H0a.out; rw [HMe.out] at this; exact this
        clear H0a
        rw [rounds_succ]
        rw [HQ.out]
        go_wp2_with fail
        go_loop [1, 8, 9] (fun v _ _ => ∃ j : Nat, j ≤ m ∧ v = .int .i64 j ∧ Hid (backF wordR rs j = backF wordR rs m)) (fun v _ _ => (intOf v).toNat)
        case atStart => exact ⟨m, Nat.le_refl _, rfl, rfl⟩
        case round =>
          obtain ⟨j, hjkb, rfl, hH⟩ := hrel
          cases j with
          | zero =>
            have H0b : Hid (((0 : Nat) : Int) = ((backF wordR rs m : Nat) : Int)) := congrArg Int.ofNat hH.out
            clear hH
            go_wp2_with fail
            rw [rounds_succ]
            go_wp2_with fail
            go_ret
            rw [← H0b.out]
            exact ⟨rfl, rfl⟩
          | succ i =>
            obtain ⟨g, off, ea, _, hcb⟩ := hr.cells i (by omega)
            first | subst ea | (simp only [Option.some.injEq, Addr.mk.injEq, and_true] at ea; obtain ⟨rfl, rfl⟩ := ea)
            have ec : ((i + 1 : Nat) : Int) = (i : Int) + 1 := by omega
            rw [ec]
            clear ec
            have h1 := hH.out
            rw [backF] at h1
            cases hz : wordR (rs.getD i 0) with
            | false =>
              have Vb : Hid (wordR (rs.getD i 0) = false) := hz
              have H0b : Hid (((i : Int) + 1) = ((backF wordR rs m : Nat) : Int)) := by rw [if_neg (by first | (simp only [hz]; done) | (simp only [hz]; decide))] at h1; rw [← h1]; rfl
              generalize rs.getD i 0 = zb at Vb hcb
              clear h1 hz hH
              go_wp2_with (go_at_call 76; refine (refWord_any _ _).mono ?_; rintro e w' ⟨rfl, rfl⟩; rw [Vb.out])
              rw [rounds_succ]
              go_wp2_with fail
              go_ret
              rw [← H0b.out]
              exact ⟨rfl, rfl⟩
            | true =>
              have Vb : Hid (wordR (rs.getD i 0) = true) := hz
              have H2 : Hid (backF wordR rs i = backF wordR rs m) := by rw [if_pos (by first | (simp only [hz]; done) | (simp only [hz]; decide))] at h1; exact h1
              generalize rs.getD i 0 = zb at Vb hcb
              clear h1 hz hH
              go_wp2_with (go_at_call 76; refine (refWord_any _ _).mono ?_; rintro e w' ⟨rfl, rfl⟩; rw [Vb.out])
              go_round
              case rel => exact ⟨i, by omega, by go_num, H2⟩
              case measure => simp [intOf] <;> omega
      | false =>
        have Va : Hid (wordR (rs.getD i 0) = false) := hz
        have H2 : Hid (backF (fun r => !wordR r) rs i = backF (fun r => !wordR r) rs k) := by rw [if_pos (by first | (simp only [hz]; done) | (simp only [hz]; decide))] at h1; exact h1
        generalize rs.getD i 0 = za at Va hca
        clear h1 hz hH
        go_wp2_with (go_at_call 76; refine (refWord_any _ _).mono ?_; rintro e w' ⟨rfl, rfl⟩; rw [Va.out])
        go_round
        case rel => exact ⟨i, by omega, by go_num, H2⟩
        case measure => simp [intOf] <;> omega
set_option maxHeartbeats 4000000 in
theorem refword_on (a : Option Addr) (n cap : Nat) (rs : List Int) (w : World) (hr : Row64 w a n cap rs) (hn : n ≤ 2097152) (k : Nat) (hk : k ≤ n) :
    Calls Tryz.prog 65 #[.slice a n cap, .int .i64 k, .bool false] w fun e w' => e = .returned (.int .i64 (onF wordR rs (n - onF (fun r => !wordR r) rs (n - k) k) (onF (fun r => !wordR r) rs (n - k) k))) ∧ w' = w := by
  have hcap := hr.room
  have hm := onF_le (fun r => !wordR r) rs (n - k) k
  obtain ⟨m, HMe⟩ : ∃ m, Hid ((onF (fun r => !wordR r) rs (n - k) k) = m) := ⟨_, rfl⟩
  rw [HMe.out] at hm ⊢
  go_enter Tryz.func65, Tryz.ntmps65
  go_wp2_with fail
  refine wp_loop_rounds 3 ?_
  rw [rounds_succ]
  go_wp2_with fail
  go_loop [1, 8, 9] (fun v _ _ => ∃ j : Nat, j ≤ n ∧ v = .int .i64 j ∧ Hid (onF (fun r => !wordR r) rs (n - j) j = onF (fun r => !wordR r) rs (n - k) k)) (fun v _ _ => n - (intOf v).toNat)
  case atStart => exact ⟨k, by omega, rfl, rfl⟩
  case round =>
    obtain ⟨j, hjna, rfl, hH⟩ := hrel
    by_cases hja : j < n
    · obtain ⟨g, off, ea, _, hca⟩ := hr.cells j hja
      first | subst ea | (simp only [Option.some.injEq, Addr.mk.injEq, and_true] at ea; obtain ⟨rfl, rfl⟩ := ea)
      have h1 : onF (fun r => !wordR r) rs (n - (j + 1) + 1) j = onF (fun r => !wordR r) rs (n - k) k := by rw [show n - (j + 1) + 1 = n - j by omega]; exact hH.out
      rw [onF] at h1
      cases hz : wordR (rs.getD j 0) with
      | true =>
        have Va : Hid (wordR (rs.getD j 0) = true) := hz
        have H0a : Hid (((j : Nat) : Int) = ((onF (fun r => !wordR r) rs (n - k) k : Nat) : Int)) := by rw [if_neg (by first | (simp only [hz]; done) | (simp only [hz]; decide))] at h1; rw [← h1]; rfl
        generalize rs.getD j 0 = za at Va hca
        clear h1 hz hH
        go_wp2_with (go_at_call 76; refine (refWord_any _ _).mono ?_; rintro e w' ⟨rfl, rfl⟩; rw [Va.out])
        have HQ : j = m := by have := H0a.out; rw [HMe.out] at this; omega
        subst HQ
        clear H0a
        have hjm := hja
        rw [rounds_succ]
        go_wp2_with fail
        go_loop [1, 8, 9] (fun v _ _ => ∃ i : Nat, i ≤ n ∧ v = .int .i64 i ∧ Hid (onF wordR rs (n - i) i = onF wordR rs (n - j) j)) (fun v _ _ => n - (intOf v).toNat)
        case atStart => exact ⟨j, by omega, rfl, rfl⟩
        case round =>
          obtain ⟨i, hin, rfl, hH⟩ := hrel
          by_cases hi : i < n
          · obtain ⟨g', off', ea, _, hcb⟩ := hr.cells i hi
            first | subst ea | (simp only [Option.some.injEq, Addr.mk.injEq, and_true] at ea; obtain ⟨rfl, rfl⟩ := ea)
            have h1 : onF wordR rs (n - (i + 1) + 1) i = onF wordR rs (n - j) j := by rw [show n - (i + 1) + 1 = n - i by omega]; exact hH.out
            rw [onF] at h1
            cases hz : wordR (rs.getD i 0) with
            | false =>
              have Vb : Hid (wordR (rs.getD i 0) = false) := hz
              have H0b : Hid (((i : Nat) : Int) = ((onF wordR rs (n - j) j : Nat) : Int)) := by rw [if_neg (by first | (simp only [hz]; done) | (simp only [hz]; decide))] at h1; rw [← h1]; rfl
              generalize rs.getD i 0 = zb at Vb hcb
              clear h1 hz hH
              go_wp2_with (go_at_call 76; refine (refWord_any _ _).mono ?_; rintro e w' ⟨rfl, rfl⟩; rw [Vb.out])
              rw [rounds_succ]
              go_wp2_with fail
              go_ret
              rw [← H0b.out]
              exact ⟨rfl, rfl⟩
            | true =>
              have Vb : Hid (wordR (rs.getD i 0) = true) := hz
              have H2 : Hid (onF wordR rs (n - (i + 1)) (i + 1) = onF wordR rs (n - j) j) := by rw [if_pos (by first | (simp only [hz]; done) | (simp only [hz]; decide))] at h1; exact h1
              generalize rs.getD i 0 = zb at Vb hcb
              clear h1 hz hH
              go_wp2_with (go_at_call 76; refine (refWord_any _ _).mono ?_; rintro e w' ⟨rfl, rfl⟩; rw [Vb.out])
              go_round
              case rel => exact ⟨i + 1, by omega, by go_num, H2⟩
              case measure => simp [intOf] <;> omega
          · have hie : i = n := by omega
            have h1 := hH.out
            rw [hie, Nat.sub_self, onF] at h1
            have H0b : Hid (((i : Nat) : Int) = ((onF wordR rs (n - j) j : Nat) : Int)) := by rw [← h1, hie]; rfl
            have hiN : ¬ ((i : Int) < (n : Int)) := by omega
            clear h1 hH hie
            go_wp2_with fail
            rw [rounds_succ]
            go_wp2_with fail
            go_ret
            rw [← H0b.out]
            exact ⟨rfl, rfl⟩
      | false =>
        have Va : Hid (wordR (rs.getD j 0) = false) := hz
        have H2 : Hid (onF (fun r => !wordR r) rs (n - (j + 1)) (j + 1) = onF (fun r => !wordR r) rs (n - k) k) := by rw [if_pos (by first | (simp only [hz]; done) | (simp only [hz]; decide))] at h1; exact h1
        generalize rs.getD j 0 = za at Va hca
        clear h1 hz hH
        go_wp2_with (go_at_call 76; refine (refWord_any _ _).mono ?_; rintro e w' ⟨rfl, rfl⟩; rw [Va.out])
        go_round
        case rel => exact ⟨j + 1, by omega, by go_num, H2⟩
        case measure => simp [intOf] <;> omega
    · obtain rfl : j = n := by omega
      have h1 := hH.out
      rw [Nat.sub_self, onF] at h1
      have H0a : Hid (((j : Nat) : Int) = ((onF (fun r => !wordR r) rs (j - k) k : Nat) : Int)) := congrArg Int.ofNat h1
      clear h1 hH
      go_wp2_with fail
      have HQ : m = j := by have := H0a.out; rw [HMe.out] at this; omega
      subst HQ
      clear H0a
      rw [rounds_succ]
      go_wp2_with fail
      refine wp_loop_rounds 1 ?_
      rw [rounds_succ]
      go_wp2_with fail
      rw [rounds_succ]
      go_wp2_with fail
      go_ret
      rw [show onF wordR rs (m - m) m = m by rw [Nat.sub_self, onF]]
      exact ⟨rfl, rfl⟩
end Go.Proofs.YtfakfmmngflbfacGreatDoor
