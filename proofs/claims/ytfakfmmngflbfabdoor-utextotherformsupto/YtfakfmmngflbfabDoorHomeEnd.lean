import Derived.Test.YtfakfmmngflbfabDoorLineWalks
namespace Go.Proofs.YtfakfmmngflbfabDoor
open Go.RowKit Go.Lib

/-- A slice of int32 in the world that reads as rs. -/
structure Row32 (w : World) (a : Option Addr) (n cap : Nat) (rs : List Int) : Prop where
  len : rs.length = n
  room : n ≤ cap ∧ cap ≤ maxLen
  cells : ∀ j, j < n → ∃ g off, a = some ⟨g, off, none⟩ ∧ g < w.heap.size ∧ w.cell? ⟨g, off + j, none⟩ = some (.int .i32 (rs.getD j 0))
theorem Row32.below {w w' : World} {a : Option Addr} {n cap : Nat} {rs : List Int} (h : Row32 w a n cap rs) (hb : Below w.heap.size w w') : Row32 w' a n cap rs :=
  ⟨h.len, h.room, fun j hj => by
    obtain ⟨g, off, ha, hg, hc⟩ := h.cells j hj
    exact ⟨g, off, ha, by have := hb.size; omega, (hb.cell (p := ⟨g, off + j, none⟩) hg).trans hc⟩⟩
theorem row_of_own {w : World} {B n cap : Nat} {a : Option Addr} {zs : List Int} (h : w.ownsRow B 21 1 (.slice a n cap) n (letV zs)) : Row32 w a n cap (zs.map letR) := by
  have hlen : zs.length = n := by simpa [letV] using h.1
  rcases h.2 with ⟨e, h0⟩ | ⟨g, cap', cur, e, _, hh, hn, hm, _⟩
  · simp only [Value.slice.injEq] at e
    obtain ⟨rfl, _, rfl⟩ := e
    exact ⟨by simpa using hlen, by rw [h0]; exact ⟨Nat.le_refl _, Nat.zero_le _⟩, fun j hj => by omega⟩
  · simp only [Value.slice.injEq] at e
    obtain ⟨rfl, _, rfl⟩ := e
    refine ⟨by simpa using hlen, ⟨hn, hm⟩, fun j hj => ⟨g, 0, rfl, (Array.getElem?_eq_some_iff.1 hh).1, ?_⟩⟩
    rw [Nat.zero_add]
    exact own_cell h j hj

set_option maxHeartbeats 1000000 in
theorem home_any (a : Option Addr) (n cap : Nat) (rs : List Int) (w : World) (hr : Row32 w a n cap rs) (hn : n ≤ 140737488351232) (k : Nat) (hk : k ≤ n) :
    Calls Tryd.prog 12 #[.slice a n cap, .int .i64 k] w fun e w' => e = .returned (.int .i64 (homeOf rs k)) ∧ w' = w := by
  have hcap := hr.room
  go_enter Tryd.func12, Tryd.ntmps12
  go_wp2_with fail
  go_loop [1] (fun v => ∃ j : Nat, j ≤ k ∧ v = .int .i64 j ∧ Hid (homeOf rs j = homeOf rs k)) (fun v => (intOf v).toNat)
  case atStart => exact ⟨k, Nat.le_refl _, rfl, rfl⟩
  case round =>
    obtain ⟨j, hjk, rfl, hH⟩ := hrel
    cases j with
    | zero =>
      go_wp2_with fail
      go_ret
      rw [← hH.out]
      exact ⟨rfl, rfl⟩
    | succ i =>
      obtain ⟨g, off, rfl, _, hc⟩ := hr.cells i (by omega)
      have ec : ((i + 1 : Nat) : Int) = (i : Int) + 1 := by omega
      rw [ec]
      have EC : Hid (((i + 1 : Nat) : Int) = (i : Int) + 1) := ec
      clear ec
      have h1 := hH.out
      rw [homeOf] at h1
      by_cases hz : rs.getD i 0 = 10
      · rw [if_pos hz] at h1
        have HZ : Hid (i + 1 = homeOf rs k) := h1
        generalize rs.getD i 0 = z at *
        have t1 : (z != 10) = false := by simp [hz]
        clear h1 hz hH
        go_wp2_with fail
        go_ret
        rw [← HZ.out]
        exact ⟨congrArg (fun x => Ending.returned (.int .i64 x)) EC.out.symm, rfl⟩
      · rw [if_neg hz] at h1
        have HZ : Hid (homeOf rs i = homeOf rs k) := h1
        generalize rs.getD i 0 = z at *
        have t1 : (z != 10) = true := by simp [hz]
        clear h1 hz hH
        go_wp2_with fail
        go_round
        case rel => exact ⟨i, by omega, by go_num, HZ⟩
        case measure => simp [intOf]

set_option maxHeartbeats 1000000 in
theorem end_any (a : Option Addr) (n cap : Nat) (rs : List Int) (w : World) (hr : Row32 w a n cap rs) (hn : n ≤ 140737488351232) (k : Nat) (hk : k ≤ n) :
    Calls Tryd.prog 13 #[.slice a n cap, .int .i64 k] w fun e w' => e = .returned (.int .i64 (endOf rs k)) ∧ w' = w := by
  have hcap := hr.room
  have HL : Hid (rs.length = n) := hr.len
  go_enter Tryd.func13, Tryd.ntmps13
  go_wp2_with fail
  go_loop [1] (fun v => ∃ j : Nat, j ≤ n ∧ v = .int .i64 j ∧ Hid (endF rs (n - j) j = endOf rs k)) (fun v => n - (intOf v).toNat)
  case atStart => exact ⟨k, hk, rfl, by unfold endOf; rw [HL.out]; rfl⟩
  case round =>
    obtain ⟨j, hjn, rfl, hH⟩ := hrel
    by_cases hj : j < n
    · obtain ⟨g, off, rfl, _, hc⟩ := hr.cells j hj
      have h1 : endF rs (n - (j + 1) + 1) j = endOf rs k := by rw [show n - (j + 1) + 1 = n - j by omega]; exact hH.out
      rw [endF] at h1
      clear hH
      by_cases hz : rs.getD j 0 = 10
      · rw [if_pos hz] at h1
        have HZ : Hid (j = endOf rs k) := h1
        generalize rs.getD j 0 = z at *
        have t1 : (z != 10) = false := by simp [hz]
        clear h1 hz
        go_wp2_with fail
        go_ret
        rw [← HZ.out]
        exact ⟨rfl, rfl⟩
      · rw [if_neg hz] at h1
        have HZ : Hid (endF rs (n - (j + 1)) (j + 1) = endOf rs k) := h1
        generalize rs.getD j 0 = z at *
        have t1 : (z != 10) = true := by simp [hz]
        clear h1 hz
        go_wp2_with fail
        go_round
        case rel => exact ⟨j + 1, by omega, by go_num, HZ⟩
        case measure => simp [intOf]; omega
    · have hjn2 : j = n := by omega
      subst hjn2
      have h1 := hH.out
      rw [Nat.sub_self, endF] at h1
      have HZ : Hid (j = endOf rs k) := h1
      clear h1 hH
      go_wp2_with fail
      go_ret
      rw [← HZ.out]
      exact ⟨rfl, rfl⟩
end Go.Proofs.YtfakfmmngflbfabDoor
