import Derived.Test.YtohfckcikincoaaSpTj
namespace Go.Proofs.Ytohfckcikincoaa
open Go.RowKit Go.Lib
set_option maxRecDepth 100000

theorem getD_memP {l : List (Int × Int)} {i : Nat} (hi : i < l.length) : l.getD i (0, 0) ∈ l := by
  rw [List.getD_eq_getElem?_getD, List.getElem?_eq_getElem hi]; exact List.getElem_mem _
set_option maxHeartbeats 4000000 in
theorem first_any {w : World} {a : Option Addr} {n cap : Nat} {l : List (Int × Int)} (h : Rng w a n cap l) (k : Int) (hk0 : 0 ≤ k) (hk : k ≤ 300) :
    Calls Try.prog 27 #[.slice a n cap, .int .i64 k] w fun e w' => ∃ v, e = .returned v ∧ OwnI w' w.heap.size v ((allPl (heldL l)).take k.toNat) ∧ Below w.heap.size w w' := by
  have HA := refCheck_any h
  have hln := h.len
  rcases checkL_codes l with hl | ⟨i, c, hc, hcc⟩
  · rw [hl.check] at HA
    rw [heldL_ok hl]
    simp only at HA
    have hfew := hl.few
    have HB : Hid (∀ r ∈ l, 0 ≤ r.1 ∧ r.1 < r.2 ∧ r.2 ≤ 1048576) := hl.nonneg
    clear hl
    go_enter Try.func27, Try.ntmps27
    go_wp2_with fail
    refine HA.mono ?_
    rintro e w1 ⟨rfl, hb1⟩
    clear HA
    go_wp2_with fail
    go_loopw [5, 8] (fun v vi w' => ∃ j : Nat, j ≤ n ∧ vi = .int .i64 j ∧ OwnI w' w.heap.size v (allPl (l.take j)) ∧ ((allPl (l.take j)).length : Int) ≤ k ∧ Below w.heap.size w w') (fun _ i _ => n - (RowKit.intOf i).toNat)
    case atStart => exact ⟨0, Nat.zero_le _, rfl, by simpa [allPl] using ownI_nil _ _, by simpa [allPl] using hk0, hb1⟩
    case round =>
      obtain ⟨j, hjn, rfl, ho, hlk, hb⟩ := hrel
      have hsz := hb.size
      by_cases hj : j < n
      · obtain ⟨g, off, rfl, hg, hc, hd⟩ := h.cells j hj
        have hmem := HB.out _ (getD_memP (l := l) (i := j) (by omega))
        have hsu := allPl_succ l j (by omega)
        have hpr := allPl_pre l j (by omega)
        generalize hr : l.getD j (0, 0) = r at *
        obtain ⟨hm1, hm2, hm3⟩ := hmem
        have c0 := (hb.cell (p := ⟨g, off + j * 2, none⟩) hg).trans hc
        obtain ⟨a1, cp1, rfl⟩ := ho.shape
        go_wp2_with fail
        go_loopw [5, 9] (fun v vq w' => ∃ m : Nat, m ≤ (r.2 - r.1).toNat ∧ vq = .int .i64 (r.1 + (m : Int)) ∧ OwnI w' w.heap.size v (allPl (l.take j) ++ (plOf r).take m) ∧ ((allPl (l.take j) ++ (plOf r).take m).length : Int) ≤ k ∧ Below w.heap.size w w') (fun _ q _ => (r.2 - RowKit.intOf q).toNat)
        case atStart => exact ⟨0, Nat.zero_le _, by simp, by simpa using ho, by simpa using hlk, hb⟩
        case round =>
          obtain ⟨m, hm, rfl, ho2, hlk2, hb2⟩ := hrel
          have hsz2 := hb2.size
          have d0 := (hb2.cell (p := ⟨g, off + j * 2 + 1, none⟩) hg).trans hd
          by_cases hq : m < (r.2 - r.1).toNat
          · have htk : (plOf r).take m ++ [r.1 + (m : Int)] = (plOf r).take (m + 1) := (plOf_take_succ r m hq).symm
            obtain ⟨a2, cp2, rfl⟩ := ho2.shape
            have hpm := hpr m
            obtain ⟨xs, hxs⟩ : ∃ xs, allPl (l.take j) ++ (plOf r).take m = xs := ⟨_, rfl⟩
            rw [hxs] at ho2 hlk2 hpm ⊢
            by_cases hge : k ≤ (xs.length : Int)
            · go_wp2_with fail
              all_goals try omega
              go_ret
              refine ⟨_, rfl, ?_, hb2⟩
              rw [show k.toNat = xs.length by omega, ← List.prefix_iff_eq_take.1 hpm]
              exact ho2
            · obtain ⟨a3, c3, w3, hr3, ho3, hb3⟩ := appendI_one ho2 hsz2 (r.1 + (m : Int)) (by omega) 23
              have hB3 := hb2.trans hb3
              have ee : xs ++ [r.1 + (m : Int)] = allPl (l.take j) ++ (plOf r).take (m + 1) := by rw [← htk, ← hxs, List.append_assoc]
              go_wp2_with (at_builtin; refine wpList_append_hr rfl _ _ 23 rfl _ _ rfl rfl hr3 ?_)
              all_goals try omega
              go_roundw
              case rel => exact ⟨m + 1, by omega, by go_num, ee ▸ ho3, by rw [← ee]; simp; omega, hB3⟩
              case measure => simp [RowKit.intOf]; omega
          · have hme : m = (r.2 - r.1).toNat := by omega
            have hpe : (plOf r).take m = plOf r := List.take_of_length_le (by rw [plOf_length]; omega)
            rw [hpe, ← hsu] at ho2 hlk2
            go_wp2_with fail
            all_goals try omega
            exact ⟨⟨j + 1, by omega, by go_num, ho2, hlk2, hb2⟩, by simp [RowKit.intOf]; omega⟩
      · obtain rfl : j = n := by omega
        have e1 : l.take j = l := by rw [← hln]; exact List.take_length
        rw [e1] at ho hlk
        go_wp2_with fail
        all_goals try omega
        go_ret
        refine ⟨_, rfl, ?_, hb⟩
        rw [List.take_of_length_le (by omega)]
        exact ho
  · rw [hc] at HA
    rw [heldL_not (by rw [hc]; rcases hcc with rfl | rfl | rfl <;> simp)]
    simp only at HA
    have hcn : ¬ c = 0 := by rcases hcc with rfl | rfl | rfl <;> simp
    clear h
    go_enter Try.func27, Try.ntmps27
    go_wp2_with fail
    refine HA.mono ?_
    rintro e w1 ⟨rfl, hb1⟩
    clear HA
    go_wp2_with fail
    all_goals try omega
    go_ret
    exact ⟨_, rfl, by simpa [allPl] using ownI_nil _ _, hb1⟩
end Go.Proofs.Ytohfckcikincoaa
