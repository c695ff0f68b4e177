import Derived.Test.YtjnglghhcbdpmaaSpK
namespace Go.Proofs.Ytjnglghhcbdpmaa
open Go.RowKit Go.Lib
set_option maxRecDepth 100000

def belowL : List (Int × Int) → Int → Int
  | [], _ => 0
  | r :: t, p => (if r.1 < p then min r.2 p - r.1 else 0) + belowL t p
theorem belowL_snoc (l : List (Int × Int)) (x : Int × Int) (p : Int) : belowL (l ++ [x]) p = belowL l p + (if x.1 < p then min x.2 p - x.1 else 0) := by
  induction l with
  | nil => simp [belowL]
  | cons r t ih => simp only [List.cons_append, belowL, ih]; omega
theorem belowL_bounds (l : List (Int × Int)) (p : Int) (h : ∀ r ∈ l, 0 ≤ r.1 ∧ r.1 < r.2 ∧ r.2 ≤ 1048576) : 0 ≤ belowL l p ∧ belowL l p ≤ l.length * 1048576 := by
  induction l with
  | nil => simp [belowL]
  | cons r t ih =>
    have h1 := ih (fun x hx => h x (List.mem_cons_of_mem _ hx))
    have h2 := h r List.mem_cons_self
    simp only [belowL, List.length_cons]
    split <;> omega
theorem Lst.take {l : List (Int × Int)} (h : Lst l) (j : Nat) : ∀ r ∈ l.take j, 0 ≤ r.1 ∧ r.1 < r.2 ∧ r.2 ≤ 1048576 := fun r hr => h.nonneg r (List.mem_of_mem_take hr)
theorem Lst.belowB {l : List (Int × Int)} (h : Lst l) (j : Nat) (p : Int) : 0 ≤ belowL (l.take j) p ∧ belowL (l.take j) p ≤ 34359738368 := by
  have := belowL_bounds (l.take j) p (h.take j)
  have h2 : (l.take j).length ≤ 32768 := by rw [List.length_take]; have := h.few; omega
  omega
def rankAns (l : List (Int × Int)) (p : Int) : Int × Int := if (checkL l).2 = 0 then (if 0 ≤ p ∧ p ≤ 1048576 then (belowL l p, 0) else (0, 12)) else (0, (checkL l).2)
def nthL : List (Int × Int) → Int → Option Int
  | [], _ => none
  | r :: t, k => if k < r.2 - r.1 then some (r.1 + k) else nthL t (k - (r.2 - r.1))
def optAns : Option Int → Int × Int
  | some q => (q, 0)
  | none => (0, 12)
def nthAns (l : List (Int × Int)) (k : Int) : Int × Int := if (checkL l).2 = 0 then (if k < 0 then (0, 12) else optAns (nthL l k)) else (0, (checkL l).2)
theorem getD_mem {l : List (Int × Int)} {j : Nat} (hj : j < l.length) : l.getD j (0, 0) ∈ l := by
  rw [List.getD_eq_getElem?_getD, List.getElem?_eq_getElem hj]
  exact List.getElem_mem _

set_option maxHeartbeats 2000000 in
theorem rank_any {w : World} {a : Option Addr} {n cap : Nat} {l : List (Int × Int)} (h : Rng w a n cap l) (p : Int) :
    Calls Try.prog 24 #[.slice a n cap, .int .i64 p] w fun e w' => e = .returned (.tuple #[.int .i64 (rankAns l p).1, .int .i64 (rankAns l p).2]) ∧ Below w.heap.size w w' := by
  have HA := check_any h
  have hlen := h.len
  have hmn := min_run
  rcases checkL_codes l with hl | ⟨i, c, hc, hcc⟩
  · rw [hl.check] at HA
    simp only at HA
    by_cases hp : 0 ≤ p ∧ p ≤ 1048576
    · have e0 : rankAns l p = (belowL l p, 0) := by unfold rankAns; rw [hl.check, if_pos rfl, if_pos hp]
      rw [e0]
      simp only
      have HG1 : Hid (∀ w, Calls Try.prog 36 #[.int .i64 p] w fun e w' => e = .returned (.bool true) ∧ w' = w) := isGap_yes p hp
      have HL : Hid (Lst l) := hl
      have hfew := hl.few
      obtain ⟨p1, p2⟩ := hp
      clear e0 hl
      go_enter Try.func24, Try.ntmps24
      go_wp2_with fail
      refine HA.mono ?_
      rintro e w1 ⟨rfl, hb1⟩
      go_wp2_with fail
      refine (HG1.out _).mono ?_
      rintro e w2 ⟨rfl, rfl⟩
      go_wp2_with fail
      go_loopw [8, 24] (fun v i w' => ∃ j : Nat, j ≤ n ∧ i = .int .i64 j ∧ v = .int .i64 (belowL (l.take j) p) ∧ Below w.heap.size w w') (fun _ i _ => n - (RowKit.intOf i).toNat)
      case atStart => exact ⟨0, Nat.zero_le _, rfl, rfl, hb1⟩
      case round =>
        clear HA HG1
        obtain ⟨j, hjn, rfl, rfl, hb⟩ := hrel
        have hsz := hb.size
        have hbb := HL.out.belowB j p
        by_cases hj : j < n
        · obtain ⟨g, off, rfl, hg, hc, hd⟩ := h.cells j hj
          have c0 := (hb.cell (p := ⟨g, off + j * 2, none⟩) hg).trans hc
          have c1 := (hb.cell (p := ⟨g, off + j * 2 + 1, none⟩) hg).trans hd
          obtain ⟨r1, r2, r3⟩ := HL.out.nonneg _ (getD_mem (show j < l.length by omega))
          have HS : Hid (belowL (l.take (j + 1)) p = belowL (l.take j) p + (if (l.getD j (0, 0)).1 < p then min (l.getD j (0, 0)).2 p - (l.getD j (0, 0)).1 else 0)) := by
            show _ = _
            rw [take_getD l j (by omega), belowL_snoc]
          clear hc hd
          generalize (l.getD j (0, 0)).1 = x at *
          generalize (l.getD j (0, 0)).2 = y at *
          have hs2 := HS.out
          generalize belowL (l.take j) p = s at *
          by_cases hx : x < p
          · rw [if_pos hx] at hs2
            have HS2 : Hid (belowL (l.take (j + 1)) p = s + (min y p - x)) := hs2
            clear hs2 HS
            go_wp2_with fail
            go_roundw
            case rel => exact ⟨j + 1, by omega, by go_num, by rw [HS2.out], hb.alloc (by omega) _⟩
            case measure => simp [RowKit.intOf]; omega
          · rw [if_neg hx, Int.add_zero] at hs2
            have HS2 : Hid (belowL (l.take (j + 1)) p = s) := hs2
            clear hs2 HS
            go_wp2_with fail
            go_roundw
            case rel => exact ⟨j + 1, by omega, by go_num, by rw [HS2.out], hb.alloc (by omega) _⟩
            case measure => simp [RowKit.intOf]; omega
        · have e1 : l.take j = l := List.take_of_length_le (by omega)
          rw [e1]
          clear hbb
          go_wp2_with fail
          go_ret2
          exact ⟨rfl, hb⟩
    · have e0 : rankAns l p = (0, 12) := by unfold rankAns; rw [hl.check, if_pos rfl, if_neg hp]
      rw [e0]
      simp only
      have HG1 : Hid (∀ w, Calls Try.prog 36 #[.int .i64 p] w fun e w' => e = .returned (.bool false) ∧ w' = w) := isGap_no p hp
      clear e0 hl hp h
      go_enter Try.func24, Try.ntmps24
      go_wp2_with fail
      refine HA.mono ?_
      rintro e w1 ⟨rfl, hb1⟩
      go_wp2_with fail
      refine (HG1.out _).mono ?_
      rintro e w2 ⟨rfl, rfl⟩
      go_wp2_with fail
      go_ret2
      exact ⟨rfl, hb1⟩
  · have h0 : c ≠ 0 := by omega
    have e0 : rankAns l p = (0, c) := by unfold rankAns; rw [hc]; simp only; rw [if_neg h0]
    rw [e0]
    rw [hc] at HA
    simp only at HA ⊢
    have t1 : (c == 0) = false := by simp [h0]
    clear e0 hc hcc h0 h
    go_enter Try.func24, Try.ntmps24
    go_wp2_with fail
    refine HA.mono ?_
    rintro e w1 ⟨rfl, hb1⟩
    go_wp2_with fail
    go_ret2
    exact ⟨rfl, hb1⟩
set_option maxHeartbeats 400000 in
theorem count_any {w : World} {a : Option Addr} {n cap : Nat} {l : List (Int × Int)} (h : Rng w a n cap l) :
    Calls Try.prog 23 #[.slice a n cap] w fun e w' => e = .returned (.tuple #[.int .i64 (rankAns l 1048576).1, .int .i64 (rankAns l 1048576).2]) ∧ Below w.heap.size w w' := by
  have HA := rank_any h 1048576
  generalize rankAns l 1048576 = r at *
  obtain ⟨r1, r2⟩ := r
  simp only at HA ⊢
  go_enter Try.func23, Try.ntmps23
  go_wp2_with fail
  refine HA.mono ?_
  rintro e w1 ⟨rfl, hb1⟩
  go_wp2_with fail
  go_ret2
  exact ⟨rfl, hb1⟩

set_option maxHeartbeats 2000000 in
theorem nth_any {w : World} {a : Option Addr} {n cap : Nat} {l : List (Int × Int)} (h : Rng w a n cap l) (k : Int) (hkb : k ≤ 9223372036854775807) :
    Calls Try.prog 25 #[.slice a n cap, .int .i64 k] w fun e w' => e = .returned (.tuple #[.int .i64 (nthAns l k).1, .int .i64 (nthAns l k).2]) ∧ Below w.heap.size w w' := by
  have HA := check_any h
  have hlen := h.len
  rcases checkL_codes l with hl | ⟨i, c, hc, hcc⟩
  · rw [hl.check] at HA
    simp only at HA
    by_cases hk : k < 0
    · have e0 : nthAns l k = (0, 12) := by unfold nthAns; rw [hl.check, if_pos rfl, if_pos hk]
      rw [e0]
      simp only
      clear e0 hl h
      go_enter Try.func25, Try.ntmps25
      go_wp2_with fail
      refine HA.mono ?_
      rintro e w1 ⟨rfl, hb1⟩
      go_wp2_with fail
      go_ret2
      exact ⟨rfl, hb1⟩
    · have e0 : nthAns l k = optAns (nthL l k) := by unfold nthAns; rw [hl.check, if_pos rfl, if_neg hk]
      rw [e0]
      obtain ⟨ans, hans⟩ : ∃ z, nthL l k = z := ⟨_, rfl⟩
      rw [hans]
      have HN : Hid (nthL l k = ans) := hans
      have HL : Hid (Lst l) := hl
      have hfew := hl.few
      clear e0 hl hans
      go_enter Try.func25, Try.ntmps25
      go_wp2_with fail
      refine HA.mono ?_
      rintro e w1 ⟨rfl, hb1⟩
      go_wp2_with fail
      go_loopw [1, 22] (fun v i w' => ∃ (j : Nat) (q : Int), j ≤ n ∧ i = .int .i64 j ∧ v = .int .i64 q ∧ 0 ≤ q ∧ q ≤ 9223372036854775807 ∧ Hid (nthL (l.drop j) q = ans) ∧ Below w.heap.size w w') (fun _ i _ => n - (RowKit.intOf i).toNat)
      case atStart => exact ⟨0, k, Nat.zero_le _, rfl, rfl, by omega, by omega, HN, hb1⟩
      case round =>
        clear HA HN
        obtain ⟨j, q, hjn, rfl, rfl, hq0, hq1, HQ, hb⟩ := hrel
        have hsz := hb.size
        by_cases hj : j < n
        · obtain ⟨g, off, rfl, hg, hc, hd⟩ := h.cells j hj
          have c0 := (hb.cell (p := ⟨g, off + j * 2, none⟩) hg).trans hc
          have c1 := (hb.cell (p := ⟨g, off + j * 2 + 1, none⟩) hg).trans hd
          obtain ⟨r1, r2, r3⟩ := HL.out.nonneg _ (getD_mem (show j < l.length by omega))
          have hq := HQ.out
          rw [drop_getD l j (by omega), nthL] at hq
          clear hc hd HQ
          generalize (l.getD j (0, 0)).1 = x at *
          generalize (l.getD j (0, 0)).2 = y at *
          by_cases hx : q < y - x
          · rw [if_pos hx] at hq
            subst hq
            go_wp2_with fail
            go_ret2
            exact ⟨rfl, hb.alloc (by omega) _⟩
          · rw [if_neg hx] at hq
            have HQ : Hid (nthL (l.drop (j + 1)) (q - (y - x)) = ans) := hq
            clear hq
            go_wp2_with fail
            go_roundw
            case rel => exact ⟨j + 1, q - (y - x), by omega, by go_num, by go_num, by omega, by omega, HQ, hb.alloc (by omega) _⟩
            case measure => simp [RowKit.intOf]; omega
        · have e1 : l.drop j = [] := List.drop_eq_nil_of_le (by omega)
          have hq := HQ.out
          rw [e1, nthL] at hq
          subst hq
          go_wp2_with fail
          go_ret2
          exact ⟨rfl, hb⟩
  · have h0 : c ≠ 0 := by omega
    have e0 : nthAns l k = (0, c) := by unfold nthAns; rw [hc]; simp only; rw [if_neg h0]
    rw [e0]
    rw [hc] at HA
    simp only at HA ⊢
    have t1 : (c == 0) = false := by simp [h0]
    clear e0 hc hcc h0 h
    go_enter Try.func25, Try.ntmps25
    go_wp2_with fail
    refine HA.mono ?_
    rintro e w1 ⟨rfl, hb1⟩
    go_wp2_with fail
    go_ret2
    exact ⟨rfl, hb1⟩
end Go.Proofs.Ytjnglghhcbdpmaa
