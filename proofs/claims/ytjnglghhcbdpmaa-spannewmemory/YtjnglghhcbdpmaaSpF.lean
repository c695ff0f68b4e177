import Derived.Test.YtjnglghhcbdpmaaSpE
namespace Go.Proofs.Ytjnglghhcbdpmaa
open Go.RowKit Go.Lib
set_option maxRecDepth 100000

theorem takenL_snoc (l a : List (Int × Int)) (x : Int × Int) (lo hi d : Int) : takenL l (a ++ [x]) lo hi d = addedL (takenL l a lo hi d) (max x.1 lo + d) (min x.2 hi + d) := by
  simp [takenL, List.foldl_append]
theorem take_getD (l : List (Int × Int)) (j : Nat) (hj : j < l.length) : l.take (j + 1) = l.take j ++ [l.getD j (0, 0)] := by
  rw [List.getD_eq_getElem?_getD, List.getElem?_eq_getElem hj]
  exact List.take_succ_eq_append_getElem hj

set_option maxHeartbeats 1000000 in
theorem taken_any {w : World} {B : Nat} {a : Option Addr} {n cap : Nat} {l : List (Int × Int)} (h : Own w B (.slice a n cap) l) (hB : B ≤ w.heap.size) {b : Option Addr} {m capb : Nat} {k : List (Int × Int)} (hk : Rng w b m capb k) (hu : Under B b m)
    (lo hi d : Int) (hn : n ≤ 2097152) (hm : m ≤ 2097152) (hr : ∀ r ∈ k, -4611686018427387904 ≤ r.1 ∧ r.1 ≤ 4611686018427387903 ∧ -4611686018427387904 ≤ r.2 ∧ r.2 ≤ 4611686018427387903)
    (hlo : -4611686018427387904 ≤ lo ∧ lo ≤ 4611686018427387903) (hhi : -4611686018427387904 ≤ hi ∧ hi ≤ 4611686018427387903) (hd : -4611686018427387904 ≤ d ∧ d ≤ 4611686018427387903) :
    Calls Try.prog 19 #[.slice a n cap, .slice b m capb, .int .i64 lo, .int .i64 hi, .int .i64 d] w fun e w' => ∃ a' n' cap', e = .returned (.slice a' n' cap') ∧ Own w' B (.slice a' n' cap') (takenL l k lo hi d) ∧ Below B w w' := by
  have hlen := hk.len
  have hroom := hk.room
  have hln := h.rng.len
  have hmx := max_run
  have hmn := min_run
  obtain ⟨l1, l2⟩ := hlo
  obtain ⟨h1, h2⟩ := hhi
  obtain ⟨d1, d2⟩ := hd
  have HR : Hid (∀ r ∈ k, -4611686018427387904 ≤ r.1 ∧ r.1 ≤ 4611686018427387903 ∧ -4611686018427387904 ≤ r.2 ∧ r.2 ≤ 4611686018427387903) := hr
  clear hr
  go_enter Try.func19, Try.ntmps19
  go_wp2_with fail
  go_loopw [0, 15] (fun v i w' => ∃ (j : Nat) (a' : Option Addr) (n' cap' : Nat), j ≤ m ∧ i = .int .i64 j ∧ v = .slice a' n' cap' ∧ Own w' B (.slice a' n' cap') (takenL l (k.take j) lo hi d) ∧ Below B w w') (fun _ i _ => m - (RowKit.intOf i).toNat)
  case atStart => exact ⟨0, a, n, cap, Nat.zero_le _, rfl, rfl, h, Below.refl _ _⟩
  case round =>
    obtain ⟨j, a', n', cap', hjm, rfl, rfl, ho, hb⟩ := hrel
    have hsz := hb.size
    by_cases hj : j < m
    · obtain ⟨g, off, rfl, hg, hc, hd⟩ := hk.cells j hj
      have hgB := hu (by omega) g off rfl
      have c0 := (hb.cell (p := ⟨g, off + j * 2, none⟩) hgB).trans hc
      have c1 := (hb.cell (p := ⟨g, off + j * 2 + 1, none⟩) hgB).trans hd
      have hmem : k.getD j (0, 0) ∈ k := by
        rw [List.getD_eq_getElem?_getD, List.getElem?_eq_getElem (by omega)]
        exact List.getElem_mem _
      obtain ⟨r1, r2, r3, r4⟩ := HR.out _ hmem
      have hnl := ho.rng.len
      have hle := takenL_length l (k.take j) lo hi d
      rw [List.length_take] at hle
      have HT : Hid (takenL l (k.take (j + 1)) lo hi d = addedL (takenL l (k.take j) lo hi d) (max (k.getD j (0, 0)).1 lo + d) (min (k.getD j (0, 0)).2 hi + d)) := by
        show _ = _
        rw [take_getD k j (by omega), takenL_snoc]
      have hn' : n' ≤ 8388608 := by omega
      clear hnl hle hmem hc hd
      generalize (k.getD j (0, 0)).1 = x at *
      generalize (k.getD j (0, 0)).2 = y at *
      have b1 : -9223372036854775808 ≤ max x lo + d ∧ max x lo + d ≤ 9223372036854775807 := by omega
      have b2 : -9223372036854775808 ≤ min y hi + d ∧ min y hi + d ≤ 9223372036854775807 := by omega
      have HA := fun (W : World) (hO : Own W B (.slice a' n' cap') (takenL l (k.take j) lo hi d)) (hBW : B ≤ W.heap.size) => added_any hO hBW (max x lo + d) (min y hi + d) hn'
      go_wp2_with fail
      refine (HA _ ((ho.below ((Below.refl _ _).alloc (Nat.le_refl _) _))) (by simp; omega)).mono ?_
      rintro e w2 ⟨a2, n2, cap2, rfl, ho2, hb2⟩
      rw [← HT.out] at ho2
      have hB2 : Below B w w2 := (hb.alloc (by omega) _).trans hb2
      clear hb2 HA HT
      go_wp2_with fail
      go_roundw
      case rel => exact ⟨j + 1, a2, n2, cap2, by omega, by go_num, rfl, ho2, hB2⟩
      case measure => simp [RowKit.intOf]; omega
    · have e1 : k.take j = k := List.take_of_length_le (by omega)
      rw [e1] at ho
      go_wp2_with fail
      go_ret
      exact ⟨_, _, _, rfl, ho, hb⟩

set_option maxHeartbeats 400000 in
theorem bounded_any {a : Option Addr} {n cap : Nat} {w : World} :
    Calls Try.prog 35 #[.slice a n cap] w fun e w' => e = .returned (.tuple (if 32768 < n then #[.slice none 0 0, .int .i64 21] else #[.slice a n cap, .int .i64 0])) ∧ w' = w := by
  by_cases h : 32768 < n
  · rw [if_pos h]
    go_enter Try.func35, Try.ntmps35
    go_wp2_with fail
    go_ret2
    exact ⟨rfl, rfl⟩
  · rw [if_neg h]
    go_enter Try.func35, Try.ntmps35
    go_wp2_with fail
    go_ret2
    exact ⟨rfl, rfl⟩
set_option maxHeartbeats 400000 in
theorem num_any (e : Int) (w : World) : Calls Try.prog 7 #[.int .i64 e] w fun r w' => r = .returned (.int .i64 e) ∧ w' = w := by
  go_enter Try.func7, Try.ntmps7
  go_wp2_with fail
  go_ret
  exact ⟨rfl, rfl⟩
set_option maxHeartbeats 1000000 in
theorem same_any {w : World} {a : Option Addr} {n cap : Nat} {l : List (Int × Int)} (h : Rng w a n cap l) {b : Option Addr} {m capb : Nat} {k : List (Int × Int)} (hk : Rng w b m capb k) :
    Calls Try.prog 12 #[.slice a n cap, .slice b m capb] w fun e w' => e = .returned (.bool (decide (l = k))) ∧ Below w.heap.size w w' := by
  have hln := h.len
  have hkn := hk.len
  have hnb : n ≤ 9223372036854775807 := by have := h.room; simp only [maxLen] at this; omega
  by_cases hnm : n = m
  · subst hnm
    obtain ⟨r, hr⟩ : ∃ r, decide (l = k) = r := ⟨_, rfl⟩
    have HR : Hid (decide (l = k) = r) := hr
    rw [hr]
    clear hr
    go_enter Try.func12, Try.ntmps12
    go_wp2_with fail
    go_loopw [5] (fun i w' => ∃ j : Nat, j ≤ n ∧ i = .int .i64 j ∧ Below w.heap.size w w' ∧ Hid (∀ i, i < j → l.getD i (0, 0) = k.getD i (0, 0))) (fun i _ => n - (RowKit.intOf i).toNat)
    case atStart => exact ⟨0, Nat.zero_le _, rfl, Below.refl _ _, fun i hi => by omega⟩
    case round =>
      obtain ⟨j, hjn, rfl, hb, HE⟩ := hrel
      by_cases hj : j < n
      · obtain ⟨g, off, rfl, hg, hc, hd⟩ := h.cells j hj
        obtain ⟨g2, off2, rfl, hg2, hc2, hd2⟩ := hk.cells j hj
        have c0 := (hb.cell (p := ⟨g, off + j * 2, none⟩) hg).trans hc
        have c1 := (hb.cell (p := ⟨g, off + j * 2 + 1, none⟩) hg).trans hd
        have c2 := (hb.cell (p := ⟨g2, off2 + j * 2, none⟩) hg2).trans hc2
        have c3 := (hb.cell (p := ⟨g2, off2 + j * 2 + 1, none⟩) hg2).trans hd2
        clear hc hd hc2 hd2
        by_cases he : l.getD j (0, 0) = k.getD j (0, 0)
        · have HE2 : Hid (∀ i, i < j + 1 → l.getD i (0, 0) = k.getD i (0, 0)) := fun i hi => by
            by_cases e : i = j
            · subst e; exact he
            · exact HE.out i (by omega)
          rw [← he] at c2 c3
          generalize (l.getD j (0, 0)).1 = x at *
          generalize (l.getD j (0, 0)).2 = y at *
          clear he HE
          go_wp2_with fail
          go_quiet (fail)
          go_wp2_with fail
          go_roundw
          case rel => exact ⟨j + 1, by omega, by go_num, below_drewN hb _, HE2⟩
          case measure => simp [RowKit.intOf]; omega
        · have hne : r = false := by
            rw [← HR.out]
            exact decide_eq_false (fun e => he (by rw [e]))
          subst hne
          clear HE HR
          obtain ⟨x, y, hxy⟩ : ∃ x y, l.getD j (0, 0) = (x, y) := ⟨_, _, rfl⟩
          obtain ⟨x2, y2, hxy2⟩ : ∃ x y, k.getD j (0, 0) = (x, y) := ⟨_, _, rfl⟩
          rw [hxy] at c0 c1 he
          rw [hxy2] at c2 c3 he
          simp only at c0 c1 c2 c3
          clear hxy hxy2
          by_cases hx : x = x2
          · subst hx
            have t1 : (y == y2) = false := beq_eq_false_iff_ne.2 (fun e => he (by rw [e]))
            clear he
            go_wp2_with fail
            go_quiet (fail)
            go_wp2_with fail
            go_ret
            exact ⟨rfl, below_drewN hb _⟩
          · have t1 : (x == x2) = false := beq_eq_false_iff_ne.2 hx
            clear he hx
            go_wp2_with fail
            go_quiet (fail)
            go_wp2_with fail
            go_ret
            exact ⟨rfl, below_drewN hb _⟩
      · have hr : r = true := by
          rw [← HR.out]
          refine decide_eq_true (List.ext_getElem (by omega) fun i h1 h2 => ?_)
          have := HE.out i (by omega)
          simpa [List.getD_eq_getElem?_getD, h1, h2] using this
        subst hr
        clear HR HE
        go_wp2_with fail
        go_ret
        exact ⟨rfl, hb⟩
  · have e0 : decide (l = k) = false := decide_eq_false (fun e => by subst e; omega)
    rw [e0]
    have t1 : ((n : Int) == (m : Int)) = false := by simp; omega
    clear e0 hln hkn
    go_enter Try.func12, Try.ntmps12
    go_wp2_with fail
    go_ret
    exact ⟨rfl, Below.refl _ _⟩
end Go.Proofs.Ytjnglghhcbdpmaa
