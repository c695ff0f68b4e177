import Derived.Test.YtdmhajlhpieedaaLdC
/-! The reference's Drop. -/
namespace Go.Proofs.Ytdmhajlhpieedaa
open Go.RowKit Go.Lib Go.Shelf
set_option maxRecDepth 100000

theorem rdrop_mem {W wr : World} {r : Nat} {S : Lk} {rv v : Value} {l t : List X} {x : X} (h : RefAt W r S rv (l ++ x :: t)) (hB : Below W.heap.size W wr) (ho : OffF fv 5 73 wr v (l ++ t)) (hg : ∀ g, v.ownBlock = some g → W.heap.size ≤ g) : RNx W (wr.setCell ⟨r, 3, none⟩ v) r rv (l ++ x :: t) (cutS S l t) := by
  have hr := h.rlt
  have hL := h.below hB
  have hbx := heap_setCell_cells hL.box 3 v
  have hC : Chg (fun k => k = r) wr (wr.setCell ⟨r, 3, none⟩ v) := Chg.set (D := fun k => k = r) (q := r) 3 _ _ rfl
  refine ⟨v, l ++ t, ⟨?_, ho.chg hC (fun k hk e => by have := hg k hk; omega), fun y hy => (hL.own y (mem_mid hy)).chg hC (fun k hk e => hL.r_ney (mem_mid hy) hk e.symm), rfl⟩, (Chg.of_below hB).trans (hC.mono (fun k _ e => .inl e)), fun g hgb => ?_⟩
  · rw [hbx]; simp [cutS]
  · rcases hgb with rfl | e | ⟨y, hy, e⟩
    · exact .inl (.inl rfl)
    · exact .inr (hg g e)
    · exact .inl (.inr (.inr ⟨y, mem_mid hy, e⟩))
/-- The row so far. -/
def cutT (ys : List X) (m i : Nat) : List X := (ys.take i).eraseIdx m
theorem cutT_ne {ys : List X} {m i : Nat} {y : X} (hy : ys[i]? = some y) (h : i ≠ m) : cutT ys m (i + 1) = cutT ys m i ++ [y] := by
  have hi : i < ys.length := (List.getElem?_eq_some_iff.1 hy).1
  have hl : (ys.take i).length = i := by rw [List.length_take]; omega
  unfold cutT
  rw [List.take_add_one, hy]
  simp only [Option.toList]
  by_cases hm : m < i
  · rw [List.eraseIdx_append_of_lt_length (by omega)]
  · rw [List.eraseIdx_append_of_length_le (by omega), List.eraseIdx_of_length_le (l := ys.take i) (by omega), List.eraseIdx_of_length_le (by simp; omega)]
theorem cutT_eq {ys : List X} {m : Nat} {y : X} (hy : ys[m]? = some y) : cutT ys m (m + 1) = cutT ys m m := by
  have hi : m < ys.length := (List.getElem?_eq_some_iff.1 hy).1
  have hl : (ys.take m).length = m := by rw [List.length_take]; omega
  unfold cutT
  rw [List.take_add_one, hy]
  simp only [Option.toList]
  rw [List.eraseIdx_append_of_length_le (by omega), List.eraseIdx_of_length_le (l := ys.take m) (by omega), hl]
  simp
theorem cutT_all (l t : List X) (x : X) : cutT (l ++ x :: t) l.length (l ++ x :: t).length = l ++ t := by
  unfold cutT
  rw [List.take_length, List.eraseIdx_append_of_length_le (Nat.le_refl _)]
  simp
theorem cutT_len (ys : List X) (m i : Nat) : (cutT ys m i).length ≤ ys.length := by
  unfold cutT
  refine Nat.le_trans (List.length_eraseIdx_le ..) ?_
  rw [List.length_take]
  exact Nat.min_le_right _ _
/-- Where Drop's loop stands. -/
def RDI (W : World) (ys : List X) (m i : Nat) (v : Value) (wr : World) : Prop := OffF fv 5 73 wr v (cutT ys m i) ∧ (∀ g, v.ownBlock = some g → W.heap.size ≤ g) ∧ Below W.heap.size W wr
section
variable {W : World} {r : Nat} {S : Lk} {rv : Value} {ys : List X}
set_option maxHeartbeats 4000000 in
theorem rdrop_miss (h : RefAt W r S rv ys) (hO : S.Ok) (k : Int) (hl : ∀ y ∈ ys, (y.num : Int) ≠ k) : Calls Try.prog 38 #[.pointer (some ⟨r, 0, none⟩), .int .i64 k] W fun e w' => e = .returned (.int .i64 160) ∧ w' = W := by
  have HA := at_miss h hO k hl
  clear h hO hl
  go_enter Try.func38, Try.ntmps38
  go_wp2_with fail
  refine HA.mono ?_
  rintro e w1 ⟨rfl, hw⟩
  obtain rfl := hw.symm
  clear hw
  go_wp2_with fail
  go_ret
  exact ⟨rfl, rfl⟩
set_option maxHeartbeats 8000000 in
theorem rdrop_hit {l t : List X} {x : X} (h : RefAt W r S rv (l ++ x :: t)) (hO : S.Ok) (k : Int) (hk : (x.num : Int) = k) (hl : ∀ y ∈ l, (y.num : Int) ≠ k) : Calls Try.prog 38 #[.pointer (some ⟨r, 0, none⟩), .int .i64 k] W fun e w' => e = .returned (.int .i64 0) ∧ RNx W w' r rv (l ++ x :: t) (cutS S l t) := by
  have HA := at_hit h hO k hk hl
  obtain ⟨a, cap, erv, _, _⟩ := h.row.shape
  have hle := h.le hO
  obtain ⟨ys, hys⟩ : ∃ ys, l ++ x :: t = ys := ⟨_, rfl⟩
  obtain ⟨n, hn⟩ : ∃ n, ys.length = n := ⟨_, rfl⟩
  obtain ⟨m, hm⟩ : ∃ m, l.length = m := ⟨_, rfl⟩
  have hmn : m < n := by rw [← hn, ← hys, ← hm]; simp
  have HE : Hid (∀ wr v, RDI W ys m n v wr → RNx W (wr.setCell ⟨r, 3, none⟩ v) r rv (l ++ x :: t) (cutS S l t)) := fun wr v hD => by
    refine rdrop_mem h hD.2.2 ?_ hD.2.1
    have h1 := hD.1
    rw [← hn, ← hys, ← hm, cutT_all] at h1
    exact h1
  rw [hys] at hle erv h HE ⊢
  rw [hn] at hle erv
  rw [hm] at HA
  have HL : Hid (RefAt W r S (.slice a n cap) ys ∧ ys.length = n) := ⟨erv ▸ h, hn⟩
  have H0 : Hid (RDI W ys m 0 (.slice none 0 0) W) := ⟨by simpa [cutT] using offF_nil W, fun g hg => by simp [Value.ownBlock] at hg, Below.refl _ _⟩
  have hm0 : ¬ (m : Int) < 0 := by omega
  obtain ⟨R, hR⟩ : ∃ R : World → Prop, (fun w' => RNx W w' r rv ys (cutS S l t)) = R := ⟨_, rfl⟩
  have HRR : Hid (∀ w', RNx W w' r rv ys (cutS S l t) → R w') := fun w' h' => by rw [← hR]; exact h'
  suffices hs : Calls Try.prog 38 #[.pointer (some ⟨r, 0, none⟩), .int .i64 k] W fun e w' => e = .returned (.int .i64 0) ∧ R w' by
    refine hs.mono ?_
    rintro e w' ⟨h1, h2⟩
    rw [← hR] at h2
    exact ⟨h1, h2⟩
  clear h hO hk hl erv hys hn hm hR
  go_enter Try.func38, Try.ntmps38
  go_wp2_with fail
  refine HA.mono ?_
  rintro e w1 ⟨rfl, hw⟩
  obtain rfl := hw.symm
  clear hw HA
  go_wp2_with fail
  go_loopw [6, 7] (fun v6 vi wr => ∃ i : Nat, i ≤ n ∧ vi = .int .i64 (i : Int) ∧ Hid (RDI W ys m i v6 wr)) (fun _ vi _ => n - (RowKit.intOf vi).toNat)
  case atStart => exact ⟨0, Nat.zero_le _, rfl, H0.out⟩
  case round =>
    obtain ⟨i, hi, rfl, hI⟩ := hrel
    have hLr := HL.out.1.below hI.out.2.2
    have q3 := (box4 hLr.box).2.2.2
    by_cases hin : i < n
    · have hin2 : (i : Int) < (n : Int) := by omega
      obtain ⟨g, off, y, ea, _, hy, hc⟩ := (hLr.row.rw_ layV).at i hin
      have ei : IntKind.i64.wrap ((i : Int) + 1) = (i : Int) + 1 := IntWalk.i64_in _ (by omega)
      by_cases him : i = m
      · subst him
        have HN : Hid (RDI W ys i (i + 1) u6 wr) := by
          have h1 := hI.out
          unfold RDI at h1 ⊢
          show _ ∧ _
          rw [cutT_eq hy]
          exact h1
        clear hLr hy hc ea hI HE
        go_wp2_with fail
        exact ⟨⟨i + 1, by omega, by simp, HN.out⟩, by simp [RowKit.intOf]; omega⟩
      · have him2 : ((i : Int) == (m : Int)) = false := by simp; omega
        subst ea
        have c0 := hc 0 _ rfl
        have c1 := hc 1 _ rfl
        have c2 := hc 2 _ rfl
        have c3 := hc 3 _ rfl
        have c4 := hc 4 _ rfl
        simp only [Nat.add_zero] at c0
        have hlen := cutT_len ys m i
        have hn2 := HL.out.2
        obtain ⟨v', W', hap, hof, hCh, hbl⟩ := offF_append kindV layV (W := wr) hI.out.1 y #[.int .i64 (y.num : Int), .int .i64 y.fr, .int .i64 y.tt, .slice y.a y.bs.length y.cap, .bool y.sp] (by simp [fv]) 73 (by omega) (by omega) 52
        have HN : Hid (RDI W ys m (i + 1) v' W') := by
          refine ⟨by rw [cutT_ne hy him]; exact hof, fun g hg => ?_, ?_⟩
          · rcases hbl g hg with h1 | h1
            · exact hI.out.2.1 g h1
            · have := hI.out.2.2.size; omega
          · exact hI.out.2.2.trans (hCh.below (fun g hg => hI.out.2.1 g hg) hI.out.2.2.size)
        obtain ⟨a6, cap6, e6, _, _⟩ := hI.out.1.shape
        obtain ⟨n6, hn6⟩ : ∃ n6, (cutT ys m i).length = n6 := ⟨_, rfl⟩
        rw [hn6] at e6
        obtain ⟨bl, hbl2⟩ : ∃ bl, y.bs.length = bl := ⟨_, rfl⟩
        rw [hbl2] at c3 hap
        obtain ⟨nu, hnu⟩ : ∃ nu : Int, (y.num : Int) = nu := ⟨_, rfl⟩
        rw [hnu] at c0 hap
        subst e6
        clear hLr hy hc hI HE hlen hn2 hof hCh hbl hn6 hbl2 hnu
        go_wp2_with (first | (refine wpList_append_hr rfl _ _ 52 rfl _ _ rfl rfl hap ?_) | fail)
        exact ⟨⟨i + 1, by omega, by simp, HN.out⟩, by simp [RowKit.intOf]; omega⟩
    · have hin2 : ¬ (i : Int) < (n : Int) := by omega
      obtain rfl : i = n := by omega
      have HN := HE.out wr u6 hI.out
      have HN2 : Hid (R (wr.setCell ⟨r, 3, none⟩ u6)) := HRR.out _ HN
      have sf := Lib.frozen_of_heap hLr.box 3
      obtain ⟨a6, cap6, e6, _, _⟩ := hI.out.1.shape
      obtain ⟨n6, hn6⟩ : ∃ n6, (cutT ys m i).length = n6 := ⟨_, rfl⟩
      rw [hn6] at e6
      subst e6
      clear hLr HE HN hI hn6
      go_wp2_with fail
      go_ret
      exact ⟨rfl, HN2.out⟩
end
end Go.Proofs.Ytdmhajlhpieedaa
