import Derived.Test.YtaphkaodcdpcaaaDoorRns
namespace Go.Proofs.YtaphkaodcdpcaaaDoor
open Go.RowKit Go.Lib

def wordR (r : Int) : Bool := decide ((97 ≤ r ∧ r ≤ 122) ∨ (65 ≤ r ∧ r ≤ 90) ∨ (48 ≤ r ∧ r ≤ 57) ∨ r = 95 ∨ 192 ≤ r)

theorem wordRune_any (r : Int) (w : World) :
    Calls Tryd.prog 53 #[.int .i32 r] w fun e w' => e = .returned (.bool (wordR r)) ∧ w' = w := by
  have q1 : (r == 95) = decide (r = 95) := rfl
  go_enter Tryd.func53, Tryd.ntmps53
  go_wp2
  all_goals go_ret
  all_goals exact ⟨congrArg (fun b => Ending.returned (.bool b)) (by unfold wordR; first | exact (decide_eq_true (by omega)).symm | exact decide_eq_decide.2 (by omega)), rfl⟩
theorem inLine_any (r : Int) (w : World) :
    Calls Tryd.prog 51 #[.int .i32 r] w fun e w' => e = .returned (.bool (r != 10)) ∧ w' = w := by
  go_enter Tryd.func51, Tryd.ntmps51
  go_wp2
  go_ret
  exact ⟨rfl, rfl⟩
theorem noWord_any (r : Int) (w : World) :
    Calls Tryd.prog 52 #[.int .i32 r] w fun e w' => e = .returned (.bool (!wordR r)) ∧ w' = w := by
  go_enter Tryd.func52, Tryd.ntmps52
  go_wp2_with (go_at_call 53; refine (wordRune_any _ _).mono ?_; rintro e w' ⟨rfl, rfl⟩)
  go_ret
  exact ⟨rfl, rfl⟩
theorem edge_any (a : Option Addr) (n cap : Nat) (way : Int) (w : World) :
    Calls Tryd.prog 49 #[.slice a n cap, .int .i64 way] w fun e w' => e = .returned (.int .i64 (if way < 0 then 0 else n)) ∧ w' = w := by
  go_enter Tryd.func49, Tryd.ntmps49
  by_cases h : way < 0
  · rw [if_pos h]
    go_wp2
    go_ret
    exact ⟨rfl, rfl⟩
  · rw [if_neg h]
    go_wp2
    go_ret
    exact ⟨rfl, rfl⟩
theorem next_back (k : Nat) (hk : k ≤ 140737488351232) (w : World) :
    Calls Tryd.prog 65 #[.int .i64 ((k : Int) + 1), .int .i64 (-1)] w fun e w' => e = .returned (.int .i64 k) ∧ w' = w := by
  go_enter Tryd.func65, Tryd.ntmps65
  go_wp2
  go_ret
  exact ⟨by go_num, rfl⟩
theorem next_on (k : Nat) (w : World) :
    Calls Tryd.prog 65 #[.int .i64 k, .int .i64 1] w fun e w' => e = .returned (.int .i64 k) ∧ w' = w := by
  go_enter Tryd.func65, Tryd.ntmps65
  go_wp2
  go_ret
  exact ⟨rfl, rfl⟩

/-- Where a caret stops: over runes that p takes, on from k; back from k. -/
def onF (p : Int → Bool) (rs : List Int) : Nat → Nat → Nat
  | 0, k => k
  | n + 1, k => if p (rs.getD k 0) then onF p rs n (k + 1) else k
def backF (p : Int → Bool) (rs : List Int) : Nat → Nat
  | 0 => 0
  | k + 1 => if p (rs.getD k 0) then backF p rs k else k + 1

set_option maxHeartbeats 1000000 in
theorem pass_back (f : FuncId) (p : Int → Bool) (hcf : ∀ (args : Array Value) (w : World), Sem.run Tryd.prog (callFunc f args) w = .ok (.enter f args) w) (hp : ∀ (r : Int) (w : World), Calls Tryd.prog f #[.int .i32 r] w fun e w' => e = .returned (.bool (p r)) ∧ w' = w)
    (a : Option Addr) (n cap : Nat) (rs : List Int) (w : World) (hr : Row32 w a n cap rs) (hn : n ≤ 140737488351232) (k : Nat) (hk : k ≤ n) :
    Calls Tryd.prog 50 #[.slice a n cap, .int .i64 k, .int .i64 (-1), .func (.func f) #[] #[]] w fun e w' => e = .returned (.int .i64 (backF p rs k)) ∧ w' = w := by
  have hcap := hr.room
  go_enter Tryd.func50, Tryd.ntmps50
  go_wp2_with fail
  go_loop [1] (fun v => ∃ j : Nat, j ≤ k ∧ v = .int .i64 j ∧ Hid (backF p rs j = backF p rs k)) (fun v => (intOf v).toNat)
  case atStart => exact ⟨k, Nat.le_refl _, rfl, rfl⟩
  case round =>
    obtain ⟨j, hjk, rfl, hH⟩ := hrel
    cases j with
    | zero =>
      go_wp2_with (go_at_call 49; refine (edge_any _ _ _ _ _).mono ?_; rintro e w' ⟨rfl, rfl⟩)
      go_ret
      rw [← hH.out]
      exact ⟨rfl, rfl⟩
    | succ i =>
      obtain ⟨g, off, rfl, _, hc⟩ := hr.cells i (by omega)
      have ec : ((i + 1 : Nat) : Int) = (i : Int) + 1 := by omega
      rw [ec]
      have EC : Hid (((i + 1 : Nat) : Int) = (i : Int) + 1) := ec
      clear ec
      have h1 := hH.out
      rw [backF] at h1
      have t0 : (((i : Int) + 1) != 0) = true := by simp; omega
      have H1 : Hid ((if p (rs.getD i 0) = true then backF p rs i else i + 1) = backF p rs k) := h1
      clear h1 hH
      generalize rs.getD i 0 = z at *
      cases hz : p z with
      | true =>
        have HZ : Hid (p z = true) := hz
        have H2 : Hid (backF p rs i = backF p rs k) := by have := H1.out; rw [if_pos hz] at this; exact this
        clear H1 hz
        go_wp2_with (first | (go_at_call 49; refine (edge_any _ _ _ _ _).mono ?_; rintro e w' ⟨rfl, rfl⟩) | (go_at_call 65; refine (next_back _ (by omega) _).mono ?_; rintro e w' ⟨rfl, rfl⟩) | (refine (hp _ _).mono ?_; rintro e w' ⟨rfl, rfl⟩; rw [HZ.out]))
        go_round
        case rel => exact ⟨i, by omega, by go_num, H2⟩
        case measure => simp [intOf]; omega
      | false =>
        have HZ : Hid (p z = false) := hz
        have H2 : Hid (i + 1 = backF p rs k) := by have := H1.out; rw [if_neg (by simp [hz])] at this; exact this
        clear H1 hz
        go_wp2_with (first | (go_at_call 49; refine (edge_any _ _ _ _ _).mono ?_; rintro e w' ⟨rfl, rfl⟩) | (go_at_call 65; refine (next_back _ (by omega) _).mono ?_; rintro e w' ⟨rfl, rfl⟩) | (refine (hp _ _).mono ?_; rintro e w' ⟨rfl, rfl⟩; rw [HZ.out]))
        go_ret
        rw [← H2.out]
        exact ⟨congrArg (fun x => Ending.returned (.int .i64 x)) EC.out.symm, rfl⟩

set_option maxHeartbeats 1000000 in
theorem pass_on (f : FuncId) (p : Int → Bool) (hcf : ∀ (args : Array Value) (w : World), Sem.run Tryd.prog (callFunc f args) w = .ok (.enter f args) w) (hp : ∀ (r : Int) (w : World), Calls Tryd.prog f #[.int .i32 r] w fun e w' => e = .returned (.bool (p r)) ∧ w' = w)
    (a : Option Addr) (n cap : Nat) (rs : List Int) (w : World) (hr : Row32 w a n cap rs) (hn : n ≤ 140737488351232) (k : Nat) (hk : k ≤ n) :
    Calls Tryd.prog 50 #[.slice a n cap, .int .i64 k, .int .i64 1, .func (.func f) #[] #[]] w fun e w' => e = .returned (.int .i64 (onF p rs (n - k) k)) ∧ w' = w := by
  have hcap := hr.room
  go_enter Tryd.func50, Tryd.ntmps50
  go_wp2_with fail
  go_loop [1] (fun v => ∃ j : Nat, j ≤ n ∧ v = .int .i64 j ∧ Hid (onF p rs (n - j) j = onF p rs (n - k) k)) (fun v => n - (intOf v).toNat)
  case atStart => exact ⟨k, hk, rfl, rfl⟩
  case round =>
    obtain ⟨j, hjn, rfl, hH⟩ := hrel
    by_cases hj : j < n
    · obtain ⟨g, off, rfl, _, hc⟩ := hr.cells j hj
      have h1 : onF p rs (n - (j + 1) + 1) j = onF p rs (n - k) k := by rw [show n - (j + 1) + 1 = n - j by omega]; exact hH.out
      rw [onF] at h1
      have t0 : ((j : Int) != (n : Int)) = true := by simp; omega
      have H1 : Hid ((if p (rs.getD j 0) = true then onF p rs (n - (j + 1)) (j + 1) else j) = onF p rs (n - k) k) := h1
      clear h1 hH
      generalize rs.getD j 0 = z at *
      cases hz : p z with
      | true =>
        have HZ : Hid (p z = true) := hz
        have H2 : Hid (onF p rs (n - (j + 1)) (j + 1) = onF p rs (n - k) k) := by have := H1.out; rw [if_pos hz] at this; exact this
        clear H1 hz
        go_wp2_with (first | (go_at_call 49; refine (edge_any _ _ _ _ _).mono ?_; rintro e w' ⟨rfl, rfl⟩) | (go_at_call 65; refine (next_on _ _).mono ?_; rintro e w' ⟨rfl, rfl⟩) | (refine (hp _ _).mono ?_; rintro e w' ⟨rfl, rfl⟩; rw [HZ.out]))
        go_round
        case rel => exact ⟨j + 1, by omega, by go_num, H2⟩
        case measure => simp [intOf]; omega
      | false =>
        have HZ : Hid (p z = false) := hz
        have H2 : Hid (j = onF p rs (n - k) k) := by have := H1.out; rw [if_neg (by simp [hz])] at this; exact this
        clear H1 hz
        go_wp2_with (first | (go_at_call 49; refine (edge_any _ _ _ _ _).mono ?_; rintro e w' ⟨rfl, rfl⟩) | (go_at_call 65; refine (next_on _ _).mono ?_; rintro e w' ⟨rfl, rfl⟩) | (refine (hp _ _).mono ?_; rintro e w' ⟨rfl, rfl⟩; rw [HZ.out]))
        go_ret
        rw [← H2.out]
        exact ⟨rfl, rfl⟩
    · have hjn2 : j = n := by omega
      subst hjn2
      have t0 : ((j : Int) != (j : Int)) = false := by simp
      have h1 := hH.out
      rw [Nat.sub_self, onF] at h1
      have H2 : Hid (j = onF p rs (j - k) k) := h1
      clear h1 hH
      go_wp2_with (first | (go_at_call 49; refine (edge_any _ _ _ _ _).mono ?_; rintro e w' ⟨rfl, rfl⟩))
      go_ret
      rw [← H2.out]
      exact ⟨rfl, rfl⟩
theorem enter_inLine (args : Array Value) (w : World) : Sem.run Tryd.prog (callFunc 51 args) w = .ok (.enter 51 args) w := by kernel_rfl
theorem enter_word (args : Array Value) (w : World) : Sem.run Tryd.prog (callFunc 53 args) w = .ok (.enter 53 args) w := by kernel_rfl
theorem enter_noWord (args : Array Value) (w : World) : Sem.run Tryd.prog (callFunc 52 args) w = .ok (.enter 52 args) w := by kernel_rfl
end Go.Proofs.YtaphkaodcdpcaaaDoor
