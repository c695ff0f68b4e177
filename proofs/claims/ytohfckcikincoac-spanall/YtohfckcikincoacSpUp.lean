import Derived.Test.YtohfckcikincoacSpSo
import Derived.Test.YtohfckcikincoacSpPc
namespace Go.Proofs.Ytohfckcikincoac
open Go.RowKit Go.Lib
set_option maxRecDepth 100000

set_option maxHeartbeats 1000000 in
theorem refUpTo_any {w : World} {a : Option Addr} {n cap : Nat} {ys : List Int} (h : RngI w a n cap ys) (hs : Asc ys) (x : Int) :
    Calls Try.prog 60 #[.slice a n cap, .int .i64 x] w fun e w' => e = .returned (.int .i64 (atMost ys x)) ∧ w' = w := by
  have hln := h.len
  have hnb : n ≤ 9223372036854775807 := by have := h.room; simp only [maxLen] at this; omega
  obtain ⟨r, hr⟩ : ∃ r, atMost ys x = r := ⟨_, rfl⟩
  have HR : Hid (atMost ys x = r) := hr
  rw [hr]
  clear hr
  go_enter Try.func60, Try.ntmps60
  go_wp2_with fail
  go_loop [5, 6] (fun lo hi => ∃ l k : Nat, l ≤ k ∧ k ≤ n ∧ lo = .int .i64 l ∧ hi = .int .i64 k ∧ Hid ((∀ i, i < l → ys.getD i 0 ≤ x) ∧ ∀ i, k ≤ i → i < n → x < ys.getD i 0)) (fun lo hi => (intOf hi).toNat - (intOf lo).toNat)
  case atStart => exact ⟨0, n, Nat.zero_le _, Nat.le_refl _, rfl, rfl, fun i hi => by omega, fun i h1 h2 => by omega⟩
  case round =>
    obtain ⟨l, k, hlk, hkn, rfl, rfl, HE⟩ := hrel
    by_cases hlt : l < k
    · obtain ⟨g, off, rfl, hg, hc⟩ := h.cells (l + (k - l) / 2) (by omega)
      by_cases hx : ys.getD (l + (k - l) / 2) 0 ≤ x
      · have HE2 : Hid ((∀ i, i < l + (k - l) / 2 + 1 → ys.getD i 0 ≤ x) ∧ ∀ i, k ≤ i → i < n → x < ys.getD i 0) :=
          ⟨fun i hi => Int.le_trans (asc_get hs (by omega) (by omega)) hx, HE.out.2⟩
        generalize ys.getD (l + (k - l) / 2) 0 = y at *
        clear HE
        go_wp2_with fail
        go_round
        case rel => exact ⟨l + (k - l) / 2 + 1, k, by omega, hkn, by go_num, rfl, HE2⟩
        case measure => simp only [intOf]; omega
      · have HE2 : Hid ((∀ i, i < l → ys.getD i 0 ≤ x) ∧ ∀ i, l + (k - l) / 2 ≤ i → i < n → x < ys.getD i 0) :=
          ⟨HE.out.1, fun i h1 h2 => Int.lt_of_lt_of_le (by omega) (asc_get hs h1 (by omega))⟩
        generalize ys.getD (l + (k - l) / 2) 0 = y at *
        clear HE
        go_wp2_with fail
        go_round
        case rel => exact ⟨l, l + (k - l) / 2, by omega, by omega, rfl, by go_num, HE2⟩
        case measure => simp only [intOf]; omega
    · have hr : l = r := by
        rw [← HR.out]
        exact (atMost_asc (by omega) HE.out.1 (fun i h1 h2 => HE.out.2 i (by omega) (by omega))).symm
      subst hr
      clear HE HR
      go_wp2_with fail
      go_ret
      exact ⟨rfl, rfl⟩
end Go.Proofs.Ytohfckcikincoac
