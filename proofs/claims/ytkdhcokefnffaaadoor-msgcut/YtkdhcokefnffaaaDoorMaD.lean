import Derived.Test.YtkdhcokefnffaaaDoorMaC
/-! between, end. -/
namespace Go.Proofs.YtkdhcokefnffaaaDoor
open Go.RowKit Go.Lib Sp
set_option maxRecDepth 100000

/-- A field read as a number from lo to hi. -/
inductive FldR where
  | ok (v k : Nat)
  | bad (at_ why : Int)
def btwP (n i : Nat) (lo hi why : Int) (l : List Nat) : FldR := match numP l with
  | .ok v k => if lo ≤ (v : Int) ∧ (v : Int) ≤ hi then .ok v k else .bad i why
  | .cut => .bad n 102
  | .bad => .bad i 101
def fldPost (w : World) (p : Nat) (a : Option Addr) (n cap : Nat) (bs : List Nat) (i : Nat) : FldR → Ending → World → Prop
  | .ok v k, e, w' => e = .returned (.int .i64 v) ∧ Rdr w' p a n cap bs (i + k) ∧ Chg (fun g => g = p) w w'
  | .bad at_ why, e, w' => e = thrown at_ why ∧ Chg (fun g => g = p) w w'

set_option maxHeartbeats 2000000 in
theorem between_any {w : World} {p n cap i : Nat} {a : Option Addr} {bs : List Nat} (h : Rdr w p a n cap bs i) (lo hi why : Int) :
    Calls Tryd.prog 33 #[.pointer (some ⟨p, 0, none⟩), .int .i64 lo, .int .i64 hi, .int .i64 why] w (fldPost w p a n cap bs i (btwP n i lo hi why (bs.drop i))) := by
  obtain ⟨c0, c1⟩ := box2 h.box
  have HN := number_any h
  unfold btwP
  cases hN : numP (bs.drop i) with
  | ok v k =>
    rw [hN] at HN
    have HWi := fun w => within_any (v : Int) lo hi w
    simp only
    by_cases hb : lo ≤ (v : Int) ∧ (v : Int) ≤ hi
    · rw [if_pos hb]
      rw [decide_eq_true hb] at HWi
      clear hb hN h
      go_enter Tryd.func33, Tryd.ntmps33
      go_wp2_with fail
      refine HN.mono ?_
      rintro e w1 ⟨rfl, hR, hC⟩
      clear HN
      go_wp2_with fail
      refine (HWi _).mono ?_
      rintro e w2 ⟨rfl, rfl⟩
      clear HWi
      go_wp2_with fail
      refine (refuse_no _ _ _ _).mono ?_
      rintro e w3 ⟨rfl, rfl⟩
      go_wp2_with fail
      go_ret
      exact ⟨rfl, hR, hC⟩
    · rw [if_neg hb]
      rw [decide_eq_false hb] at HWi
      clear hb hN h
      go_enter Tryd.func33, Tryd.ntmps33
      go_wp2_with fail
      refine HN.mono ?_
      rintro e w1 ⟨rfl, hR, hC⟩
      clear HN
      go_wp2_with fail
      refine (HWi _).mono ?_
      rintro e w2 ⟨rfl, rfl⟩
      clear HWi
      go_wp2_with fail
      refine (refuse_yes _ _ _ _).mono ?_
      rintro e w3 ⟨rfl, rfl⟩
      unfold thrown
      try dsimp only
      go_wp2_with fail
      exact ⟨rfl, rfl, hC⟩
  | cut =>
    rw [hN] at HN
    simp only
    clear hN h
    go_enter Tryd.func33, Tryd.ntmps33
    go_wp2_with fail
    refine HN.mono ?_
    rintro e w1 ⟨rfl, hC⟩
    clear HN
    unfold thrown
    try dsimp only
    go_wp2_with fail
    exact ⟨rfl, rfl, hC⟩
  | bad =>
    rw [hN] at HN
    simp only
    clear hN h
    go_enter Tryd.func33, Tryd.ntmps33
    go_wp2_with fail
    refine HN.mono ?_
    rintro e w1 ⟨rfl, hC⟩
    clear HN
    unfold thrown
    try dsimp only
    go_wp2_with fail
    exact ⟨rfl, rfl, hC⟩
end Go.Proofs.YtkdhcokefnffaaaDoor
