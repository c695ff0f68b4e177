import Derived.Test.YtcmefibipoidhaaDoorRuA
import Derived.Test.YtcmefibipoidhaaDoorRrEJ
/-! Leaves, Height; the statement's own digits. -/
namespace Go.Proofs.YtcmefibipoidhaaDoor
open Go.RowKit Go.Lib
set_option maxRecDepth 100000

set_option maxHeartbeats 400000 in
theorem leaves_at {w : World} {t : Tr} {g q : Nat} (h : At w t g) (hq : w.cell? ⟨q, 0, none⟩ = some (.pointer (some ⟨g, 0, none⟩))) : Calls Tryd.prog 10 #[.pointer (some ⟨q, 0, none⟩)] w fun e w' => e = .returned (.int .i64 t.sm.pieces) ∧ w' = w := by
  obtain ⟨an, nn, cn, pl, pr, st, hn⟩ := h.node
  have c0 := hn.cell 1 _ rfl
  clear hn
  go_enter Tryd.func10, Tryd.ntmps10
  go_wp2_with fail
  go_ret
  exact ⟨rfl, rfl⟩
set_option maxHeartbeats 400000 in
theorem height_at {w : World} {t : Tr} {g q : Nat} (h : At w t g) (hq : w.cell? ⟨q, 0, none⟩ = some (.pointer (some ⟨g, 0, none⟩))) : Calls Tryd.prog 12 #[.pointer (some ⟨q, 0, none⟩)] w fun e w' => e = .returned (.int .i64 t.sm.high) ∧ w' = w := by
  obtain ⟨an, nn, cn, pl, pr, st, hn⟩ := h.node
  have c0 := hn.cell 2 _ rfl
  clear hn
  go_enter Tryd.func12, Tryd.ntmps12
  go_wp2_with fail
  go_ret
  exact ⟨rfl, rfl⟩
theorem leaves_any {w : World} {q : Nat} {t : Tr} (h : RopeAt w q t) : Calls Tryd.prog 10 #[ptr q] w fun e w' => e = .returned (.int .i64 (t.lv.length : Int)) ∧ w' = w := by
  obtain ⟨g, h1, h2⟩ := h.cell
  rw [← Tr.pieces_lv]
  exact leaves_at h2 h1
theorem height_any {w : World} {q : Nat} {t : Tr} (h : RopeAt w q t) : Calls Tryd.prog 12 #[ptr q] w fun e w' => e = .returned (.int .i64 t.sm.high) ∧ w' = w := by
  obtain ⟨g, h1, h2⟩ := h.cell
  exact height_at h2 h1
set_option maxHeartbeats 1000000 in
theorem digits_any (n : Nat) (hn : n ≤ 2097152) (w : World) : Calls Tryd.prog 11 #[.int .i64 (n : Int)] w fun e w' => e = .returned (.int .i64 (dgt n : Int)) ∧ w' = w := by
  go_enter Tryd.func11, Tryd.ntmps11
  go_wp2_with fail
  go_loopw [0, 3] (fun v0 v2 W => ∃ (m j : Nat), v0 = .int .i64 (m : Int) ∧ v2 = .int .i64 (j : Int) ∧ m ≤ n ∧ j + m ≤ n ∧ dgt n = j + dgt m ∧ W = w) (fun v _ _ => (RowKit.intOf v).toNat)
  case atStart => exact ⟨n, 0, rfl, rfl, Nat.le_refl _, by omega, by omega, rfl⟩
  case round =>
    obtain ⟨m, j, rfl, rfl, hm, hj, hd, rfl⟩ := hrel
    by_cases h0 : m = 0
    · subst h0
      rw [dgt_zero] at hd
      go_wp2_with fail
      go_ret
      exact ⟨by rw [hd]; rfl, rfl⟩
    · have d0 : decide ((0 : Int) < (m : Int)) = true := decide_eq_true (by omega)
      have e2 : ((m : Int)).tdiv 2 = ((m / 2 : Nat) : Int) := by rw [Int.tdiv_eq_ediv_of_nonneg (by omega)]; omega
      rw [dgt_step m h0] at hd
      go_wp2_with fail
      exact ⟨⟨m / 2, j + 1, by simp, by simp, by omega, by omega, by omega, trivial⟩, by simp [RowKit.intOf]; omega⟩
end Go.Proofs.YtcmefibipoidhaaDoor
