import Derived.Test.YtaphkaodcdpcaaaDoorStep
import Derived.Deep.QuietTactic
import Derived.BigQuiet
import Derived.Deep.RegionWith
namespace Go.Proofs.YtaphkaodcdpcaaaDoor
open Go.RowKit Go.Lib

theorem backF_home (rs : List Int) : ∀ k, backF (fun r => r != 10) rs k = homeOf rs k
  | 0 => rfl
  | k + 1 => by
    rw [backF, homeOf, backF_home rs k]
    by_cases h : rs.getD k 0 = 10
    · rw [if_neg (by rw [h]; decide), if_pos h]
    · rw [if_pos (bne_iff_ne.2 h), if_neg h]
theorem onF_end (rs : List Int) : ∀ n k, onF (fun r => r != 10) rs n k = endF rs n k
  | 0, k => rfl
  | n + 1, k => by
    rw [onF, endF, onF_end rs n]
    by_cases h : rs.getD k 0 = 10
    · rw [if_neg (by rw [h]; decide), if_pos h]
    · rw [if_pos (bne_iff_ne.2 h), if_neg h]
theorem Row32.drewN {w : World} {a : Option Addr} {n cap : Nat} {rs : List Int} (h : Row32 w a n cap rs) (m : Nat) : Row32 (w.drewN m) a n cap rs := ⟨h.len, h.room, h.cells⟩
theorem below_drewN {B : Nat} {a w : World} (h : Below B a w) (m : Nat) : Below B a (w.drewN m) := h.trans ⟨rfl, rfl, rfl, Nat.le_refl _, fun _ _ => rfl⟩
theorem backF_le (p : Int → Bool) (rs : List Int) : ∀ k, backF p rs k ≤ k
  | 0 => Nat.le_refl _
  | k + 1 => by
    rw [backF]
    have := backF_le p rs k
    split <;> omega
theorem onF_le (p : Int → Bool) (rs : List Int) : ∀ n k, onF p rs n k ≤ k + n
  | 0, k => Nat.le_refl _
  | n + 1, k => by
    rw [onF]
    have := onF_le p rs n (k + 1)
    split <;> omega

set_option maxHeartbeats 1000000 in
theorem stepIn_left (a : Option Addr) (n cap : Nat) (w : World) (hn : n ≤ 140737488351232) (k : Nat) (hk : k ≤ n) :
    Calls Tryd.prog 33 #[.slice a n cap, .int .i64 k, .agg #[.int .i64 0, .int .i64 (-1)]] w fun e w' => e = .returned (.int .i64 ((k - 1 : Nat) : Int)) ∧ Below w.heap.size w w' := by
  go_enter Tryd.func33, Tryd.ntmps33
  go_wp2_with fail
  all_goals go_ret
  all_goals exact ⟨congrArg (fun x => Ending.returned (.int .i64 x)) (by omega), (Below.refl _ _).alloc (Nat.le_refl _) _⟩
set_option maxHeartbeats 1000000 in
theorem stepIn_right (a : Option Addr) (n cap : Nat) (w : World) (hn : n ≤ 140737488351232) (k : Nat) (hk : k ≤ n) :
    Calls Tryd.prog 33 #[.slice a n cap, .int .i64 k, .agg #[.int .i64 0, .int .i64 1]] w fun e w' => e = .returned (.int .i64 ((min (k + 1) n : Nat) : Int)) ∧ Below w.heap.size w w' := by
  go_enter Tryd.func33, Tryd.ntmps33
  go_wp2_with fail
  all_goals go_ret
  all_goals exact ⟨congrArg (fun x => Ending.returned (.int .i64 x)) (by omega), (Below.refl _ _).alloc (Nat.le_refl _) _⟩
set_option maxHeartbeats 1000000 in
theorem stepIn_home (a : Option Addr) (n cap : Nat) (rs : List Int) (w : World) (hr : Row32 w a n cap rs) (hn : n ≤ 140737488351232) (k : Nat) (hk : k ≤ n) :
    Calls Tryd.prog 33 #[.slice a n cap, .int .i64 k, .agg #[.int .i64 1, .int .i64 (-1)]] w fun e w' => e = .returned (.int .i64 (homeOf rs k)) ∧ Below w.heap.size w w' := by
  have hb : Below w.heap.size w (w.alloc (Obj.cells #[.int .i64 1, .int .i64 (-1)] 68)) := (Below.refl _ _).alloc (Nat.le_refl _) _
  have hr2 := hr.below hb
  go_enter Tryd.func33, Tryd.ntmps33
  go_wp2_with fail
  refine (pass_back 51 (fun r => r != 10) enter_inLine inLine_any _ _ _ rs _ hr2 hn k hk).mono ?_
  rintro e w' ⟨rfl, rfl⟩
  go_wp2_with fail
  go_ret
  rw [← backF_home]
  exact ⟨rfl, hb⟩
set_option maxHeartbeats 1000000 in
theorem stepIn_end (a : Option Addr) (n cap : Nat) (rs : List Int) (w : World) (hr : Row32 w a n cap rs) (hn : n ≤ 140737488351232) (k : Nat) (hk : k ≤ n) :
    Calls Tryd.prog 33 #[.slice a n cap, .int .i64 k, .agg #[.int .i64 1, .int .i64 1]] w fun e w' => e = .returned (.int .i64 (endF rs (n - k) k)) ∧ Below w.heap.size w w' := by
  have hb : Below w.heap.size w (w.alloc (Obj.cells #[.int .i64 1, .int .i64 1] 68)) := (Below.refl _ _).alloc (Nat.le_refl _) _
  have hr2 := hr.below hb
  go_enter Tryd.func33, Tryd.ntmps33
  go_wp2_with fail
  refine (pass_on 51 (fun r => r != 10) enter_inLine inLine_any _ _ _ rs _ hr2 hn k hk).mono ?_
  rintro e w' ⟨rfl, rfl⟩
  go_wp2_with fail
  go_ret
  rw [← onF_end]
  exact ⟨rfl, hb⟩
set_option maxHeartbeats 1000000 in
theorem stepIn_wordLeft (a : Option Addr) (n cap : Nat) (rs : List Int) (w : World) (hr : Row32 w a n cap rs) (hn : n ≤ 140737488351232) (k : Nat) (hk : k ≤ n) :
    Calls Tryd.prog 33 #[.slice a n cap, .int .i64 k, .agg #[.int .i64 3, .int .i64 (-1)]] w fun e w' => e = .returned (.int .i64 (backF wordR rs (backF (fun r => !wordR r) rs k))) ∧ Below w.heap.size w w' := by
  have hb : Below w.heap.size w (w.alloc (Obj.cells #[.int .i64 3, .int .i64 (-1)] 68)) := (Below.refl _ _).alloc (Nat.le_refl _) _
  have hr2 := hr.below hb
  go_enter Tryd.func33, Tryd.ntmps33
  have h1 := backF_le (fun r => !wordR r) rs k
  go_wp2_with fail
  go_quiet (first | (go_at_call_of 50 (Value.func (Fn.func (52 : Nat)) #[] #[]); refine Calls.quiet_of_same (pass_back 52 (fun r => !wordR r) enter_noWord noWord_any _ _ _ rs _ (hr2.drewN _) hn k hk)) | (go_at_call_of 50 (Value.func (Fn.func (53 : Nat)) #[] #[]); refine Calls.quiet_of_same (pass_back 53 wordR enter_word wordRune_any _ _ _ rs _ (hr2.drewN _) hn _ (by omega))))
  go_wp2_with fail
  go_ret
  exact ⟨rfl, below_drewN hb _⟩
set_option maxHeartbeats 1000000 in
theorem stepIn_wordRight (a : Option Addr) (n cap : Nat) (rs : List Int) (w : World) (hr : Row32 w a n cap rs) (hn : n ≤ 140737488351232) (k : Nat) (hk : k ≤ n) :
    Calls Tryd.prog 33 #[.slice a n cap, .int .i64 k, .agg #[.int .i64 3, .int .i64 1]] w fun e w' => e = .returned (.int .i64 (onF wordR rs (n - onF (fun r => !wordR r) rs (n - k) k) (onF (fun r => !wordR r) rs (n - k) k))) ∧ Below w.heap.size w w' := by
  have hb : Below w.heap.size w (w.alloc (Obj.cells #[.int .i64 3, .int .i64 1] 68)) := (Below.refl _ _).alloc (Nat.le_refl _) _
  have hr2 := hr.below hb
  go_enter Tryd.func33, Tryd.ntmps33
  have h1 := onF_le (fun r => !wordR r) rs (n - k) k
  go_wp2_with fail
  go_quiet (first | (go_at_call_of 50 (Value.func (Fn.func (52 : Nat)) #[] #[]); refine Calls.quiet_of_same (pass_on 52 (fun r => !wordR r) enter_noWord noWord_any _ _ _ rs _ (hr2.drewN _) hn k hk)) | (go_at_call_of 50 (Value.func (Fn.func (53 : Nat)) #[] #[]); refine Calls.quiet_of_same (pass_on 53 wordR enter_word wordRune_any _ _ _ rs _ (hr2.drewN _) hn _ (by omega))))
  go_wp2_with fail
  go_ret
  exact ⟨rfl, below_drewN hb _⟩
set_option maxHeartbeats 1000000 in
theorem stepIn_top (a : Option Addr) (n cap : Nat) (w : World) (hn : n ≤ 140737488351232) (k : Nat) (hk : k ≤ n) :
    Calls Tryd.prog 33 #[.slice a n cap, .int .i64 k, .agg #[.int .i64 4, .int .i64 (-1)]] w fun e w' => e = .returned (.int .i64 0) ∧ Below w.heap.size w w' := by
  go_enter Tryd.func33, Tryd.ntmps33
  have _r := hn
  have _q := hk
  go_wp2_with (go_at_call 49; refine (edge_any _ _ _ _ _).mono ?_; rintro e w' ⟨rfl, rfl⟩)
  go_ret
  exact ⟨rfl, (Below.refl _ _).alloc (Nat.le_refl _) _⟩
set_option maxHeartbeats 1000000 in
theorem stepIn_bottom (a : Option Addr) (n cap : Nat) (w : World) (hn : n ≤ 140737488351232) (k : Nat) (hk : k ≤ n) :
    Calls Tryd.prog 33 #[.slice a n cap, .int .i64 k, .agg #[.int .i64 4, .int .i64 1]] w fun e w' => e = .returned (.int .i64 n) ∧ Below w.heap.size w w' := by
  go_enter Tryd.func33, Tryd.ntmps33
  have _r := hn
  have _q := hk
  go_wp2_with (go_at_call 49; refine (edge_any _ _ _ _ _).mono ?_; rintro e w' ⟨rfl, rfl⟩)
  go_ret
  exact ⟨rfl, (Below.refl _ _).alloc (Nat.le_refl _) _⟩
end Go.Proofs.YtaphkaodcdpcaaaDoor
