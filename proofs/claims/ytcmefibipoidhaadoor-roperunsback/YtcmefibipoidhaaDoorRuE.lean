import Derived.Test.YtcmefibipoidhaaDoorRuD
import Derived.Test.YtcmefibipoidhaaDoorRsC
/-! The statement's own EqRuns; a rope's Runs, as a row of runs. -/
namespace Go.Proofs.YtcmefibipoidhaaDoor
open Go.RowKit Go.Lib
set_option maxRecDepth 100000

set_option maxHeartbeats 2000000 in
theorem eqRuns_any {w : World} {a b : Option Addr} {n m capa capb : Nat} {L : List GRun} (h : Rw runV 2 w a n capa L) (g : Rw runV 2 w b m capb L) (hm : n ≤ 1048576) :
    Calls Tryd.prog 24 #[.slice a n capa, .slice b m capb] w fun e w' => e = .returned (.bool true) ∧ Below w.heap.size w w' := by
  have hn : m = n := by rw [← g.len, h.len]
  subst hn
  have q1 : ((m : Int) != (m : Int)) = false := by simp
  go_enter Tryd.func24, Tryd.ntmps24
  go_wp2_with fail
  go_loopw [5] (fun vi wr => ∃ i : Nat, i ≤ m ∧ vi = .int .i64 (i : Int) ∧ Below w.heap.size w wr) (fun i _ => m - (RowKit.intOf i).toNat)
  case atStart => exact ⟨0, Nat.zero_le _, rfl, Below.refl _ _⟩
  case round =>
    obtain ⟨i, hi, rfl, hB⟩ := hrel
    by_cases hlt : i < m
    · obtain ⟨ga, oa, x, rfl, hga, hx, hc⟩ := (h.below hB).at i hlt
      obtain ⟨gb, ob, y, rfl, hgb, hy, hd⟩ := (g.below hB).at i hlt
      rw [hx] at hy
      cases hy
      have c0 := hc 0 _ rfl
      have c1 := hc 1 _ rfl
      have e0 := hd 0 _ rfl
      have e1 := hd 1 _ rfl
      simp only [Nat.add_zero] at c0 e0
      have d1 : decide ((i : Int) < (m : Int)) = true := decide_eq_true (by omega)
      clear hc hd hx
      go_wp2_with fail
      go_quiet (fail)
      have hB2 := below_drewN hB nq
      generalize wr.drewN nq = wn at *
      go_wp2_with fail
      exact ⟨⟨i + 1, by omega, by simp, hB2⟩, by simp [RowKit.intOf]; omega⟩
    · have hd : decide ((i : Int) < (m : Int)) = false := decide_eq_false (by omega)
      go_wp2_with fail
      go_ret
      exact ⟨rfl, hB⟩
end Go.Proofs.YtcmefibipoidhaaDoor
