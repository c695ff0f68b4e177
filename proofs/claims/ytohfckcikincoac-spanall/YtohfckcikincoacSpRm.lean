import Derived.Test.YtohfckcikincoacSpRs
import Derived.Test.YtohfckcikincoacSpPl
namespace Go.Proofs.Ytohfckcikincoac
open Go.RowKit Go.Lib
set_option maxRecDepth 100000

/-- 'few' of a list of one's own. -/
theorem few_res {w w0 : World} {a : Option Addr} {n cap : Nat} {U : List (Int × Int)} {S : Int → Prop} (ho : Own w w0.heap.size (.slice a n cap) U) (hb : Below w0.heap.size w0 w) (hn : n ≤ 8388608) (hN : Norm (-1) U) (hS : ∀ q, Lies U q ↔ S q) :
    Calls Try.prog 49 #[.slice a n cap] w fun e w' => ∃ c V, SpecS 0 S c V ∧ Res w0 e w' c V := by
  have hln := ho.rng.len
  refine (few_any a n cap hn w).mono ?_
  rintro e w' ⟨rfl, rfl⟩
  by_cases h : (n : Int) ≤ 32768
  · rw [if_pos h]
    exact ⟨0, U, .inr ⟨rfl, U, hN, hS, .inl ⟨by omega, rfl, rfl⟩⟩, _, _, _, rfl, ho, hb⟩
  · rw [if_neg h]
    exact ⟨21, [], .inr ⟨rfl, U, hN, hS, .inr ⟨by omega, rfl, rfl⟩⟩, Res.nil hb⟩
set_option maxHeartbeats 4000000 in
theorem refMake_any {w : World} {a : Option Addr} {n cap : Nat} {l : List (Int × Int)} (h : Rng w a n cap l) :
    Calls Try.prog 27 #[.slice a n cap] w fun e w' => ∃ c U, SpecS (makeCode l) (fun q => Lies l q) c U ∧ Res w e w' c U := by
  have hln := h.len
  have hroom := h.room
  by_cases hmany : 32768 < n
  · have e0 : makeCode l = 21 := by unfold makeCode; rw [if_pos (by omega)]
    rw [e0]
    clear e0 hln
    go_enter Try.func27, Try.ntmps27
    go_wp2_with fail
    go_ret2
    exact ⟨21, [], .inl ⟨by decide, rfl, rfl⟩, Res.nil (Below.refl _ _)⟩
  · go_enter Try.func27, Try.ntmps27
    go_wp2_with fail
    go_loopw [4] (fun i w' => ∃ j : Nat, j ≤ n ∧ i = .int .i64 j ∧ Below w.heap.size w w' ∧ Hid (∀ i, i < j → 0 ≤ (l.getD i (0, 0)).1 ∧ (l.getD i (0, 0)).1 ≤ (l.getD i (0, 0)).2 ∧ (l.getD i (0, 0)).2 ≤ 1048576)) (fun i _ => n - (RowKit.intOf i).toNat)
    case atStart => exact ⟨0, Nat.zero_le _, rfl, Below.refl _ _, fun i hi => by omega⟩
    case round =>
      obtain ⟨j, hjn, rfl, hb, HP⟩ := hrel
      have hsz := hb.size
      by_cases hj : j < n
      · obtain ⟨g, off, rfl, hg, hc, hd⟩ := h.cells j hj
        have c0 := (hb.cell (p := ⟨g, off + j * 2, none⟩) hg).trans hc
        have c1 := (hb.cell (p := ⟨g, off + j * 2 + 1, none⟩) hg).trans hd
        clear hc hd
        by_cases hgood : 0 ≤ (l.getD j (0, 0)).1 ∧ (l.getD j (0, 0)).1 ≤ (l.getD j (0, 0)).2 ∧ (l.getD j (0, 0)).2 ≤ 1048576
        · have HP2 : Hid (∀ i, i < j + 1 → 0 ≤ (l.getD i (0, 0)).1 ∧ (l.getD i (0, 0)).1 ≤ (l.getD i (0, 0)).2 ∧ (l.getD i (0, 0)).2 ≤ 1048576) := fun i hi => by
            by_cases e : i = j
            · subst e; exact hgood
            · exact HP.out i (by omega)
          clear HP
          generalize (l.getD j (0, 0)).1 = x at *
          generalize (l.getD j (0, 0)).2 = y at *
          have d1 : decide (x < 0) = false := decide_eq_false (by omega)
          have d2 : decide (1048576 < y) = false := decide_eq_false (by omega)
          have d3 : decide (y < x) = false := decide_eq_false (by omega)
          clear hgood
          go_wp2_with fail
          go_quiet (fail)
          go_wp2_with fail
          go_roundw
          case rel => exact ⟨j + 1, by omega, by go_num, below_drewN hb _, HP2⟩
          case measure => simp [RowKit.intOf]; omega
        · have hnp : ¬ Parts l := fun hp => hgood (hp _ (getD_mem' (by omega)))
          have e0 : makeCode l = 20 := by unfold makeCode; rw [if_neg (by omega), if_neg hnp]
          have E0 : Hid (makeCode l = 20) := e0
          clear HP e0 hnp
          generalize (l.getD j (0, 0)).1 = x at *
          generalize (l.getD j (0, 0)).2 = y at *
          have hcs : x < 0 ∨ (0 ≤ x ∧ 1048576 < y) ∨ (0 ≤ x ∧ y ≤ 1048576 ∧ y < x) := by omega
          clear hgood
          rcases hcs with k1 | ⟨k1, k2⟩ | ⟨k1, k2, k3⟩
          · have d1 : decide (x < 0) = true := decide_eq_true k1
            clear k1
            go_wp2_with fail
            go_quiet (fail)
            go_wp2_with fail
            go_ret2
            exact ⟨20, [], .inl ⟨by rw [E0.out]; decide, E0.out.symm, rfl⟩, Res.nil (below_drewN hb _)⟩
          · have d1 : decide (x < 0) = false := decide_eq_false (by omega)
            have d2 : decide (1048576 < y) = true := decide_eq_true k2
            clear k1 k2
            go_wp2_with fail
            go_quiet (fail)
            go_wp2_with fail
            go_ret2
            exact ⟨20, [], .inl ⟨by rw [E0.out]; decide, E0.out.symm, rfl⟩, Res.nil (below_drewN hb _)⟩
          · have d1 : decide (x < 0) = false := decide_eq_false (by omega)
            have d2 : decide (1048576 < y) = false := decide_eq_false (by omega)
            have d3 : decide (y < x) = true := decide_eq_true k3
            clear k1 k2 k3
            go_wp2_with fail
            go_quiet (fail)
            go_wp2_with fail
            go_ret2
            exact ⟨20, [], .inl ⟨by rw [E0.out]; decide, E0.out.symm, rfl⟩, Res.nil (below_drewN hb _)⟩
      · obtain rfl : j = n := by omega
        have hp : Parts l := fun r hr => by
          obtain ⟨i, hi, rfl⟩ := List.getElem_of_mem hr
          have := HP.out i (by omega)
          rwa [List.getD_eq_getElem?_getD, List.getElem?_eq_getElem hi] at this
        have e0 : makeCode l = 0 := by unfold makeCode; rw [if_neg (by omega), if_pos hp]
        have E0 : Hid (makeCode l = 0) := e0
        have PL := places_any (h.below hb) (by omega) (show Hid (Parts l) from hp)
        clear HP e0 hp
        go_wp2_with fail
        refine PL.mono ?_
        rintro e w2 ⟨o, no, co, L, rfl, ho, hb2, HPL⟩
        have hB2 := hb.trans (hb2.mono hsz)
        have hno := ho.rng.len
        have F := few_res (S := fun q => Lies l q) (ho.mono hsz) hB2 (by have := HPL.out.2.2.2; omega) HPL.out.1 HPL.out.2.2.1
        clear PL HPL
        go_wp2_with fail
        refine F.mono ?_
        rintro e w3 ⟨c, V, hS, a3, n3, c3, rfl, ho3, hb3⟩
        go_wp2_with fail
        go_ret2
        exact ⟨c, V, by rw [E0.out]; exact hS, a3, n3, c3, rfl, ho3, hb3⟩
end Go.Proofs.Ytohfckcikincoac
