import Derived.Test.YtchkeckblpmehaaWxE
/-! The sentences' sameInts, of equal rows. -/
namespace Go.Proofs.Ytchkeckblpmehaa
open Go.RowKit Go.Lib
set_option maxRecDepth 100000

set_option maxHeartbeats 2000000 in
theorem sameInts_eq {w : World} {a b : Option Addr} {n ca cb : Nat} {l : List Int} (ha : Rw intV 1 w a n ca l) (hb : Rw intV 1 w b n cb l) (hn : n ≤ 4398046511104) :
    Calls Try.prog 19 #[.slice a n ca, .slice b n cb] w fun e w' => e = .returned (.bool true) ∧ ∃ k, w' = w.drewN k := by
  have HA : Hid (Rw intV 1 w a n ca l ∧ Rw intV 1 w b n cb l) := ⟨ha, hb⟩
  have hnc : (n : Int) ≤ 4398046511104 := by omega
  clear ha hb hn
  go_enter Try.func19, Try.ntmps19
  go_wp2_with fail
  go_loopw [5] (fun v wr => ∃ i k : Nat, i ≤ n ∧ v = .int .i64 (i : Int) ∧ wr = w.drewN k) (fun v _ => n - (RowKit.intOf v).toNat)
  case atStart => exact ⟨0, 0, Nat.zero_le _, rfl, rfl⟩
  case round =>
    obtain ⟨i, k, hi, rfl, hwr⟩ := hrel
    subst hwr
    by_cases hlt : i < n
    · have hlt2 : (i : Int) < (n : Int) := by omega
      obtain ⟨g, off, o, hoa, hgl, hoi, hcell⟩ := HA.out.1.at i hlt
      obtain ⟨g', off', o', hoa', hgl', hoi', hcell'⟩ := HA.out.2.at i hlt
      rw [hoi] at hoi'
      obtain rfl : o = o' := by simpa using hoi'
      subst hoa hoa'
      have o0 := hcell 0 _ rfl
      have o1 := hcell' 0 _ rfl
      rw [Nat.add_zero, Nat.mul_one] at o0 o1
      have gi : IntKind.i64.wrap ((i : Int) + 1) = ((i + 1 : Nat) : Int) := by rw [IntWalk.i64_in _ (by omega)]; omega
      clear hcell hcell' hgl hgl' hoi hoi'
      go_wp2_with fail
      go_quiet (fail)
      go_wp2_with fail
      go_roundw
      case rel => exact ⟨i + 1, k + nq, by omega, by first | rfl | go_num, by simp [World.drewN]⟩
      case measure => simp [RowKit.intOf]; omega
    · obtain rfl : i = n := by omega
      have hlt2 : ¬ ((i : Int) < (i : Int)) := by omega
      go_wp2_with fail
      go_ret
      exact ⟨rfl, _, rfl⟩
end Go.Proofs.Ytchkeckblpmehaa
