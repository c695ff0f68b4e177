import Derived.Test.YtohfckcikincoacSpT
namespace Go.Proofs.Ytohfckcikincoac
open Go.RowKit Go.Lib
set_option maxRecDepth 100000

/-- Nth finds no place just where k is not below the count. -/
theorem nthL_none {l : List (Int × Int)} (h : ∀ r ∈ l, 0 ≤ r.1 ∧ r.1 < r.2 ∧ r.2 ≤ 1048576) (k : Int) : nthL l k = none ↔ belowL l 1048576 ≤ k ∧ (l = [] ∨ 0 ≤ k) ∨ (l = []) := by
  induction l generalizing k with
  | nil => simp [nthL]
  | cons r t ih =>
    have h1 := h r List.mem_cons_self
    have hb := belowL_bounds t 1048576 (fun x hx => h x (List.mem_cons_of_mem _ hx))
    have ih' := ih (fun x hx => h x (List.mem_cons_of_mem _ hx)) (k - (r.2 - r.1))
    simp only [nthL, belowL]
    rw [if_pos (show r.1 < 1048576 by omega), show min r.2 1048576 = r.2 by omega]
    by_cases hk : k < r.2 - r.1
    · rw [if_pos hk]
      simp
      omega
    · rw [if_neg hk, ih']
      simp
      cases t with
      | nil => simp [belowL]; omega
      | cons y u => simp; omega

set_option maxHeartbeats 2000000 in
theorem refBelow_any {w : World} {a : Option Addr} {n cap : Nat} {l : List (Int × Int)} (h : Rng w a n cap l) (hl : Lst l) (p : Int) (hp : 0 ≤ p ∧ p ≤ 1048576) :
    Calls Try.prog 54 #[.slice a n cap, .int .i64 p] w fun e w' => e = .returned (.int .i64 (belowL l p)) ∧ Below w.heap.size w w' := by
  have hlen := h.len
  have HL : Hid (Lst l) := hl
  have hfew := hl.few
  obtain ⟨p1, p2⟩ := hp
  clear hl
  go_enter Try.func54, Try.ntmps54
  go_wp2_with fail
  go_loopw [5, 6] (fun v i w' => ∃ j : Nat, j ≤ n ∧ i = .int .i64 j ∧ v = .int .i64 (belowL (l.take j) p) ∧ Below w.heap.size w w') (fun _ i _ => n - (RowKit.intOf i).toNat)
  case atStart => exact ⟨0, Nat.zero_le _, rfl, rfl, Below.refl _ _⟩
  case round =>
    obtain ⟨j, hjn, rfl, rfl, hb⟩ := hrel
    have hbb := HL.out.belowB j p
    by_cases hj : j < n
    · obtain ⟨g, off, rfl, hg, hc, hd⟩ := h.cells j hj
      have c0 := (hb.cell (p := ⟨g, off + j * 2, none⟩) hg).trans hc
      have c1 := (hb.cell (p := ⟨g, off + j * 2 + 1, none⟩) hg).trans hd
      obtain ⟨r1, r2, r3⟩ := HL.out.nonneg _ (getD_mem (show j < l.length by omega))
      have HS : Hid (belowL (l.take (j + 1)) p = belowL (l.take j) p + (if (l.getD j (0, 0)).1 < p then min (l.getD j (0, 0)).2 p - (l.getD j (0, 0)).1 else 0)) := by
        show _ = _
        rw [take_getD l j (by omega), belowL_snoc]
      clear hc hd
      generalize (l.getD j (0, 0)).1 = x at *
      generalize (l.getD j (0, 0)).2 = y at *
      have hs2 := HS.out
      generalize belowL (l.take j) p = s at *
      obtain ⟨s1, s2⟩ := hbb
      by_cases hy : y ≤ p
      · rw [if_pos (by omega), show min y p = y by omega] at hs2
        have HS2 : Hid (belowL (l.take (j + 1)) p = s + y - x) := hs2.trans (by omega)
        have u1 : IntKind.i64.wrap (s + y) = s + y := IntWalk.i64_in _ (by omega)
        have u2 : IntKind.i64.wrap (s + y - x) = s + y - x := IntWalk.i64_in _ (by omega)
        clear hs2 HS
        go_wp2_with fail
        go_quiet (fail)
        go_wp2_with fail
        go_roundw
        case rel => exact ⟨j + 1, by omega, by go_num, by rw [HS2.out]; try simp [u1, u2], below_drewN hb _⟩
        case measure => simp [RowKit.intOf]; omega
      · by_cases hx : x < p
        · rw [if_pos hx, show min y p = p by omega] at hs2
          have HS2 : Hid (belowL (l.take (j + 1)) p = s + p - x) := hs2.trans (by omega)
          clear hs2 HS
          go_wp2_with fail
          go_roundw
          case rel => exact ⟨j + 1, by omega, by go_num, by rw [HS2.out], hb⟩
          case measure => simp [RowKit.intOf]; omega
        · rw [if_neg hx, Int.add_zero] at hs2
          have HS2 : Hid (belowL (l.take (j + 1)) p = s) := hs2
          clear hs2 HS
          go_wp2_with fail
          go_roundw
          case rel => exact ⟨j + 1, by omega, by go_num, by rw [HS2.out], hb⟩
          case measure => simp [RowKit.intOf]; omega
    · have e1 : l.take j = l := List.take_of_length_le (by omega)
      rw [e1]
      clear hbb
      go_wp2_with fail
      go_ret
      exact ⟨rfl, hb⟩
set_option maxHeartbeats 1000000 in
theorem refCount_any {w : World} {a : Option Addr} {n cap : Nat} {l : List (Int × Int)} (h : Rng w a n cap l) :
    Calls Try.prog 35 #[.slice a n cap] w fun e w' => e = .returned (.tuple #[.int .i64 (rankAns l 1048576).1, .int .i64 (rankAns l 1048576).2]) ∧ Below w.heap.size w w' := by
  have HA := refCheck_any h
  rcases checkL_codes l with hl | ⟨i, c, hc, hcc⟩
  · have e0 : rankAns l 1048576 = (belowL l 1048576, 0) := by unfold rankAns; rw [hl.check, if_pos rfl, if_pos (by omega)]
    rw [e0]
    rw [hl.check] at HA
    simp only at HA ⊢
    have HB : Hid (∀ W, Below w.heap.size w W → Calls Try.prog 54 #[.slice a n cap, .int .i64 1048576] W _) := fun W hb => refBelow_any (h.below hb) hl 1048576 (by omega)
    clear e0 hl h
    go_enter Try.func35, Try.ntmps35
    go_wp2_with fail
    refine HA.mono ?_
    rintro e w1 ⟨rfl, hb1⟩
    go_wp2_with fail
    refine (HB.out _ hb1).mono ?_
    rintro e w2 ⟨rfl, hb2⟩
    go_wp2_with fail
    go_ret2
    exact ⟨rfl, hb1.trans (hb2.mono hb1.size)⟩
  · have h0 : c ≠ 0 := by omega
    have e0 : rankAns l 1048576 = (0, c) := by unfold rankAns; rw [hc]; simp only; rw [if_neg h0]
    rw [e0]
    rw [hc] at HA
    simp only at HA ⊢
    have t1 : (c == 0) = false := by simp [h0]
    clear e0 hc hcc h0 h
    go_enter Try.func35, Try.ntmps35
    go_wp2_with fail
    refine HA.mono ?_
    rintro e w1 ⟨rfl, hb1⟩
    go_wp2_with fail
    go_ret2
    exact ⟨rfl, hb1⟩
set_option maxHeartbeats 1000000 in
theorem refRank_any {w : World} {a : Option Addr} {n cap : Nat} {l : List (Int × Int)} (h : Rng w a n cap l) (p : Int) :
    Calls Try.prog 37 #[.slice a n cap, .int .i64 p] w fun e w' => e = .returned (.tuple #[.int .i64 (rankAns l p).1, .int .i64 (rankAns l p).2]) ∧ Below w.heap.size w w' := by
  have HA := refCheck_any h
  rcases checkL_codes l with hl | ⟨i, c, hc, hcc⟩
  · rw [hl.check] at HA
    simp only at HA
    by_cases hp : 0 ≤ p ∧ p ≤ 1048576
    · have e0 : rankAns l p = (belowL l p, 0) := by unfold rankAns; rw [hl.check, if_pos rfl, if_pos hp]
      rw [e0]
      simp only
      have HB : Hid (∀ W, Below w.heap.size w W → Calls Try.prog 54 #[.slice a n cap, .int .i64 p] W _) := fun W hb => refBelow_any (h.below hb) hl p hp
      obtain ⟨p1, p2⟩ := hp
      clear e0 hl h
      go_enter Try.func37, Try.ntmps37
      go_wp2_with fail
      refine HA.mono ?_
      rintro e w1 ⟨rfl, hb1⟩
      go_wp2_with fail
      refine (HB.out _ hb1).mono ?_
      rintro e w2 ⟨rfl, hb2⟩
      go_wp2_with fail
      go_ret2
      exact ⟨rfl, hb1.trans (hb2.mono hb1.size)⟩
    · have e0 : rankAns l p = (0, 12) := by unfold rankAns; rw [hl.check, if_pos rfl, if_neg hp]
      rw [e0]
      simp only
      have hcs : p < 0 ∨ (0 ≤ p ∧ 1048576 < p) := by omega
      clear e0 hl h hp
      rcases hcs with k1 | ⟨k1, k2⟩
      all_goals
        go_enter Try.func37, Try.ntmps37
        go_wp2_with fail
        refine HA.mono ?_
        rintro e w1 ⟨rfl, hb1⟩
        go_wp2_with fail
        go_ret2
        exact ⟨rfl, hb1⟩
  · have h0 : c ≠ 0 := by omega
    have e0 : rankAns l p = (0, c) := by unfold rankAns; rw [hc]; simp only; rw [if_neg h0]
    rw [e0]
    rw [hc] at HA
    simp only at HA ⊢
    have t1 : (c == 0) = false := by simp [h0]
    clear e0 hc hcc h0 h
    go_enter Try.func37, Try.ntmps37
    go_wp2_with fail
    refine HA.mono ?_
    rintro e w1 ⟨rfl, hb1⟩
    go_wp2_with fail
    go_ret2
    exact ⟨rfl, hb1⟩
set_option maxHeartbeats 2000000 in
theorem refNth_any {w : World} {a : Option Addr} {n cap : Nat} {l : List (Int × Int)} (h : Rng w a n cap l) (k : Int) :
    Calls Try.prog 39 #[.slice a n cap, .int .i64 k] w fun e w' => e = .returned (.tuple #[.int .i64 (nthAns l k).1, .int .i64 (nthAns l k).2]) ∧ Below w.heap.size w w' := by
  have HA := refCount_any h
  have hlen := h.len
  rcases checkL_codes l with hl | ⟨i, c, hc, hcc⟩
  · have e1 : rankAns l 1048576 = (belowL l 1048576, 0) := by unfold rankAns; rw [hl.check, if_pos rfl, if_pos (by omega)]
    rw [e1] at HA
    simp only at HA
    have hbb := hl.belowB l.length 1048576
    rw [List.take_length] at hbb
    by_cases hk : k < 0 ∨ belowL l 1048576 ≤ k
    · have e0 : nthAns l k = (0, 12) := by
        unfold nthAns
        rw [hl.check, if_pos rfl]
        split
        · rfl
        · rw [(nthL_none hl.nonneg k).2 (.inl ⟨by omega, .inr (by omega)⟩)]
          rfl
      rw [e0]
      simp only
      have hcs : k < 0 ∨ (0 ≤ k ∧ belowL l 1048576 ≤ k) := by omega
      generalize belowL l 1048576 = s at *
      clear e0 hl h hk e1
      rcases hcs with k1 | ⟨k1, k2⟩
      all_goals
        go_enter Try.func39, Try.ntmps39
        go_wp2_with fail
        refine HA.mono ?_
        rintro e w1 ⟨rfl, hb1⟩
        go_wp2_with fail
        go_ret2
        exact ⟨rfl, hb1⟩
    · have e0 : nthAns l k = optAns (nthL l k) := by unfold nthAns; rw [hl.check, if_pos rfl, if_neg (by omega)]
      rw [e0]
      obtain ⟨ans, hans⟩ : ∃ z, nthL l k = z := ⟨_, rfl⟩
      rw [hans]
      have HN : Hid (nthL l k = ans) := hans
      have HL : Hid (Lst l) := hl
      have hfew := hl.few
      have k0 : 0 ≤ k := by omega
      have k1 : k < belowL l 1048576 := by omega
      generalize belowL l 1048576 = s at *
      obtain ⟨s1, s2⟩ := hbb
      clear e0 hl hans hk e1
      go_enter Try.func39, Try.ntmps39
      go_wp2_with fail
      refine HA.mono ?_
      rintro e w1 ⟨rfl, hb1⟩
      go_wp2_with fail
      go_loopw [1, 8] (fun v i w' => ∃ (j : Nat) (q : Int), j ≤ n ∧ i = .int .i64 j ∧ v = .int .i64 q ∧ 0 ≤ q ∧ q ≤ 34359738368 ∧ Hid (nthL (l.drop j) q = ans) ∧ Below w.heap.size w w') (fun _ i _ => n - (RowKit.intOf i).toNat)
      case atStart => exact ⟨0, k, Nat.zero_le _, rfl, rfl, by omega, by omega, HN, hb1⟩
      case round =>
        clear HA HN
        obtain ⟨j, q, hjn, rfl, rfl, hq0, hq1, HQ, hb⟩ := hrel
        by_cases hj : j < n
        · obtain ⟨g, off, rfl, hg, hc, hd⟩ := h.cells j hj
          have c0 := (hb.cell (p := ⟨g, off + j * 2, none⟩) hg).trans hc
          have c1 := (hb.cell (p := ⟨g, off + j * 2 + 1, none⟩) hg).trans hd
          obtain ⟨r1, r2, r3⟩ := HL.out.nonneg _ (getD_mem (show j < l.length by omega))
          have hq := HQ.out
          rw [drop_getD l j (by omega), nthL] at hq
          clear hc hd HQ
          generalize (l.getD j (0, 0)).1 = x at *
          generalize (l.getD j (0, 0)).2 = y at *
          have u1 : IntKind.i64.wrap (y - x) = y - x := IntWalk.i64_in _ (by omega)
          by_cases hx : q < y - x
          · rw [if_pos hx] at hq
            subst hq
            go_wp2_with fail
            go_quiet (fail)
            go_wp2_with fail
            go_ret2
            exact ⟨rfl, below_drewN hb _⟩
          · rw [if_neg hx] at hq
            have HQ : Hid (nthL (l.drop (j + 1)) (q - (y - x)) = ans) := hq
            clear hq
            go_wp2_with fail
            go_quiet (fail)
            go_wp2_with fail
            go_roundw
            case rel => exact ⟨j + 1, q - (y - x), by omega, by go_num, by go_num, by omega, by omega, HQ, below_drewN hb _⟩
            case measure => simp [RowKit.intOf]; omega
        · have e1 : l.drop j = [] := List.drop_eq_nil_of_le (by omega)
          have hq := HQ.out
          rw [e1, nthL] at hq
          subst hq
          go_wp2_with fail
          go_ret2
          exact ⟨rfl, hb⟩
  · have h0 : c ≠ 0 := by omega
    have e0 : nthAns l k = (0, c) := by unfold nthAns; rw [hc]; simp only; rw [if_neg h0]
    have e1 : rankAns l 1048576 = (0, c) := by unfold rankAns; rw [hc]; simp only; rw [if_neg h0]
    rw [e0]
    rw [e1] at HA
    simp only at HA ⊢
    have t1 : (c == 0) = false := by simp [h0]
    clear e0 hc hcc h0 h e1
    go_enter Try.func39, Try.ntmps39
    go_wp2_with fail
    refine HA.mono ?_
    rintro e w1 ⟨rfl, hb1⟩
    go_wp2_with fail
    go_ret2
    exact ⟨rfl, hb1⟩
end Go.Proofs.Ytohfckcikincoac
