import Derived.Test.YtohfckcikincoacSpS
import Derived.Test.YtohfckcikincoacSpU
import Derived.Deep.RegionHeld3
namespace Go.Proofs.Ytohfckcikincoac
open Go.RowKit Go.Lib
set_option maxRecDepth 100000

theorem below_drew {B : Nat} {a w : World} (h : Below B a w) : Below B a w.drew := ⟨h.os, h.tape, h.output, h.size, h.block⟩
set_option maxHeartbeats 1000000 in
theorem counts_count (o : OpR) (w : World) (ho : OpOk w o) (hk : o.kind = 6) :
    Calls Try.prog 23 #[o.val] w fun e w' => e = .returned (.bool true) ∧ Below w.heap.size w w' := by
  obtain ⟨kind, a, na, ca, la, b, nb, cb, lb, n, m⟩ := o
  simp only at hk
  subst hk
  have hra := ho.ra
  have hsa := ho.sa
  simp only at hra hsa
  unfold OpR.val
  simp only
  clear ho
  have HCP : Hid (∀ W, Below w.heap.size w W → Calls Try.prog 19 #[.slice a na ca] W _) := fun W hb => lawCopied_any (hra.below hb) (by omega)
  have HRC : Hid (∀ W, Below w.heap.size w W → Calls Try.prog 35 #[.slice a na ca] W _) := fun W hb => refCount_any (hra.below hb)
  clear hra
  go_enter Try.func23, Try.ntmps23
  go_wp2_with fail
  refine (HCP.out _ ((Below.refl _ _).alloc (Nat.le_refl _) _)).mono ?_
  rintro e w1 ⟨a1, cap1, rfl, ho1, hb1⟩
  have hc1 : w1.cell? ⟨w.heap.size, 1, none⟩ = some (.slice a na ca) := (hb1.cell (p := ⟨w.heap.size, 1, none⟩) (by simp)).trans (World.cell?_alloc_mark _ _ _ _ _)
  have hB1 : Below w.heap.size w w1 := ((Below.refl _ w).alloc (Nat.le_refl _) _).trans (hb1.mono (by simp))
  have hs1 : w.heap.size < w1.heap.size := by have := hb1.size; simp at this; omega
  clear hb1
  go_wp2_with fail
  refine (count_any ho1.rng).mono ?_
  rintro e w2 ⟨rfl, hb2⟩
  have hc2 : w2.cell? ⟨w.heap.size, 1, none⟩ = some (.slice a na ca) := (hb2.cell (p := ⟨w.heap.size, 1, none⟩) hs1).trans hc1
  have hB2 : Below w.heap.size w w2 := hB1.trans (hb2.mono (by omega))
  clear hb2 hB1 ho1 hs1 hc1
  go_wp2_with fail
  refine (HRC.out _ hB2).mono ?_
  rintro e w3 ⟨rfl, hb3⟩
  have hB3 : Below w.heap.size w w3 := hB2.trans (hb3.mono hB2.size)
  clear hb3 hB2 hc2
  go_wp2_with fail
  refine (number_any _ _ _).mono ?_
  rintro e w4 ⟨rfl, rfl⟩
  go_wp2_with fail
  go_ret
  exact ⟨rfl, hB3⟩
set_option maxHeartbeats 2000000 in
theorem counts_rank (o : OpR) (w : World) (ho : OpOk w o) (hk : o.kind = 7) :
    Calls Try.prog 23 #[o.val] w fun e w' => e = .returned (.bool true) ∧ Below w.heap.size w w' := by
  obtain ⟨kind, a, na, ca, la, b, nb, cb, lb, n, m⟩ := o
  simp only at hk
  subst hk
  have hra := ho.ra
  have hsa := ho.sa
  simp only at hra hsa
  unfold OpR.val
  simp only
  clear ho
  have HCP : Hid (∀ W, Below w.heap.size w W → Calls Try.prog 19 #[.slice a na ca] W _) := fun W hb => lawCopied_any (hra.below hb) (by omega)
  have HRC : Hid (∀ W, Below w.heap.size w W → Calls Try.prog 37 #[.slice a na ca, .int .i64 n] W _) := fun W hb => refRank_any (hra.below hb) n
  clear hra
  go_enter Try.func23, Try.ntmps23
  go_upto_region 7 with fail
  go_cut [7, 8] (fun x y wx => x = .int .i64 (rankAns la n).1 ∧ y = .int .i64 (rankAns la n).2 ∧ Below w.heap.size w wx ∧ wx.cell? ⟨w.heap.size, 1, none⟩ = some (.slice a na ca) ∧ wx.cell? ⟨w.heap.size, 3, none⟩ = some (.int .i64 n))
  case first =>
    have c0 : (w.alloc (.cells #[.int .i64 7, .slice a na ca, .slice b nb cb, .int .i64 n, .int .i64 m] 38)).cell? ⟨w.heap.size, 1, none⟩ = some (.slice a na ca) := World.cell?_alloc_mark _ _ _ _ _
    have c1 : (w.alloc (.cells #[.int .i64 7, .slice a na ca, .slice b nb cb, .int .i64 n, .int .i64 m] 38)).cell? ⟨w.heap.size, 3, none⟩ = some (.int .i64 n) := World.cell?_alloc_mark _ _ _ _ _
    go_region_held3 (fun W => W.cell? ⟨w.heap.size, 1, none⟩ = some (.slice a na ca) ∧ W.cell? ⟨w.heap.size, 3, none⟩ = some (.int .i64 n)) (first | exact ⟨c0, c1⟩ | exact ⟨k4, k5⟩ | exact ⟨k2, k3⟩)
      (first
        | (go_at_call 19; refine (HCP.out _ ?_).mono ?_; (exact below_drew ((Below.refl _ _).alloc (Nat.le_refl _) _)); rintro e w1 ⟨a1, cap1, rfl, ho1, hb1⟩; have k2 : w1.cell? ⟨w.heap.size, 1, none⟩ = some (.slice a na ca) := (hb1.cell (p := ⟨w.heap.size, 1, none⟩) (by simp)).trans c0; have k3 : w1.cell? ⟨w.heap.size, 3, none⟩ = some (.int .i64 n) := (hb1.cell (p := ⟨w.heap.size, 3, none⟩) (by simp)).trans c1; have hB1 : Below w.heap.size w w1 := (below_drew ((Below.refl _ w).alloc (Nat.le_refl _) _)).trans (hb1.mono (by simp)); have hs1 : w.heap.size < w1.heap.size := (by have := hb1.size; simp at this; omega))
        | (go_at_call 36; refine (rank_any ho1.rng n).mono ?_; rintro e w2 ⟨rfl, hb2⟩; have k4 : w2.cell? ⟨w.heap.size, 1, none⟩ = some (.slice a na ca) := (hb2.cell (p := ⟨w.heap.size, 1, none⟩) hs1).trans k2; have k5 : w2.cell? ⟨w.heap.size, 3, none⟩ = some (.int .i64 n) := (hb2.cell (p := ⟨w.heap.size, 3, none⟩) hs1).trans k3; have hB2 : Below w.heap.size w w2 := hB1.trans (hb2.mono (by omega))))
    all_goals (go_wp2_with fail; go_meet; case rel => exact ⟨rfl, rfl, hB2, k4, k5⟩)
  case rest =>
    obtain ⟨rfl, rfl, hB2, hc2, hc3⟩ := hcut
    go_wp2_with fail
    refine (HRC.out _ hB2).mono ?_
    rintro e w3 ⟨rfl, hb3⟩
    have hB3 : Below w.heap.size w w3 := hB2.trans (hb3.mono hB2.size)
    clear hb3 hB2 hc2 hc3
    go_wp2_with fail
    refine (number_any _ _ _).mono ?_
    rintro e w4 ⟨rfl, rfl⟩
    go_wp2_with fail
    go_ret
    exact ⟨rfl, hB3⟩
set_option maxHeartbeats 2000000 in
theorem counts_nth (o : OpR) (w : World) (ho : OpOk w o) (hk : o.kind = 8) :
    Calls Try.prog 23 #[o.val] w fun e w' => e = .returned (.bool true) ∧ Below w.heap.size w w' := by
  obtain ⟨kind, a, na, ca, la, b, nb, cb, lb, n, m⟩ := o
  simp only at hk
  subst hk
  have hra := ho.ra
  have hsa := ho.sa
  have hbn := ho.bn.2
  simp only at hra hsa hbn
  unfold OpR.val
  simp only
  clear ho
  have HCP : Hid (∀ W, Below w.heap.size w W → Calls Try.prog 19 #[.slice a na ca] W _) := fun W hb => lawCopied_any (hra.below hb) (by omega)
  have HRC : Hid (∀ W, Below w.heap.size w W → Calls Try.prog 39 #[.slice a na ca, .int .i64 n] W _) := fun W hb => refNth_any (hra.below hb) n
  clear hra
  go_enter Try.func23, Try.ntmps23
  go_upto_region 10 with fail
  go_cut [11, 12] (fun x y wx => x = .int .i64 (nthAns la n).1 ∧ y = .int .i64 (nthAns la n).2 ∧ Below w.heap.size w wx ∧ wx.cell? ⟨w.heap.size, 1, none⟩ = some (.slice a na ca) ∧ wx.cell? ⟨w.heap.size, 3, none⟩ = some (.int .i64 n))
  case first =>
    have c0 : (w.alloc (.cells #[.int .i64 8, .slice a na ca, .slice b nb cb, .int .i64 n, .int .i64 m] 38)).cell? ⟨w.heap.size, 1, none⟩ = some (.slice a na ca) := World.cell?_alloc_mark _ _ _ _ _
    have c1 : (w.alloc (.cells #[.int .i64 8, .slice a na ca, .slice b nb cb, .int .i64 n, .int .i64 m] 38)).cell? ⟨w.heap.size, 3, none⟩ = some (.int .i64 n) := World.cell?_alloc_mark _ _ _ _ _
    go_region_held3 (fun W => W.cell? ⟨w.heap.size, 1, none⟩ = some (.slice a na ca) ∧ W.cell? ⟨w.heap.size, 3, none⟩ = some (.int .i64 n)) (first | exact ⟨c0, c1⟩ | exact ⟨k4, k5⟩ | exact ⟨k2, k3⟩)
      (first
        | (go_at_call 19; refine (HCP.out _ ?_).mono ?_; (exact below_drew ((Below.refl _ _).alloc (Nat.le_refl _) _)); rintro e w1 ⟨a1, cap1, rfl, ho1, hb1⟩; have k2 : w1.cell? ⟨w.heap.size, 1, none⟩ = some (.slice a na ca) := (hb1.cell (p := ⟨w.heap.size, 1, none⟩) (by simp)).trans c0; have k3 : w1.cell? ⟨w.heap.size, 3, none⟩ = some (.int .i64 n) := (hb1.cell (p := ⟨w.heap.size, 3, none⟩) (by simp)).trans c1; have hB1 : Below w.heap.size w w1 := (below_drew ((Below.refl _ w).alloc (Nat.le_refl _) _)).trans (hb1.mono (by simp)); have hs1 : w.heap.size < w1.heap.size := (by have := hb1.size; simp at this; omega))
        | (go_at_call 38; refine (nth_any ho1.rng n hbn).mono ?_; rintro e w2 ⟨rfl, hb2⟩; have k4 : w2.cell? ⟨w.heap.size, 1, none⟩ = some (.slice a na ca) := (hb2.cell (p := ⟨w.heap.size, 1, none⟩) hs1).trans k2; have k5 : w2.cell? ⟨w.heap.size, 3, none⟩ = some (.int .i64 n) := (hb2.cell (p := ⟨w.heap.size, 3, none⟩) hs1).trans k3; have hB2 : Below w.heap.size w w2 := hB1.trans (hb2.mono (by omega))))
    all_goals (go_wp2_with fail; go_meet; case rel => exact ⟨rfl, rfl, hB2, k4, k5⟩)
  case rest =>
    obtain ⟨rfl, rfl, hB2, hc2, hc3⟩ := hcut
    go_wp2_with fail
    refine (HRC.out _ hB2).mono ?_
    rintro e w3 ⟨rfl, hb3⟩
    have hB3 : Below w.heap.size w w3 := hB2.trans (hb3.mono hB2.size)
    clear hb3 hB2 hc2 hc3
    go_wp2_with fail
    refine (number_any _ _ _).mono ?_
    rintro e w4 ⟨rfl, rfl⟩
    go_wp2_with fail
    go_ret
    exact ⟨rfl, hB3⟩
set_option maxHeartbeats 1000000 in
theorem plays_counts (o : OpR) (w : World) (ho : OpOk w o) (hk : o.kind = 6 ∨ o.kind = 7 ∨ o.kind = 8) :
    Calls Try.prog 11 #[o.val] w fun e w' => e = .returned (.bool true) ∧ Below w.heap.size w w' := by
  have HC : Hid (∀ W, Below w.heap.size w W → Calls Try.prog 23 #[o.val] W fun e w' => e = .returned (.bool true) ∧ Below W.heap.size W w') := fun W hb => by
    rcases hk with h | h | h
    · exact counts_count o W (ho.below hb) h
    · exact counts_rank o W (ho.below hb) h
    · exact counts_nth o W (ho.below hb) h
  unfold OpR.val at *
  obtain ⟨kind, a, na, ca, la, b, nb, cb, lb, n, m⟩ := o
  simp only at *
  clear ho
  rcases hk with rfl | rfl | rfl
  all_goals
    go_enter Try.func11, Try.ntmps11
    go_wp2_with fail
    refine (HC.out _ ((Below.refl _ _).alloc (Nat.le_refl _) _)).mono ?_
    rintro e w1 ⟨rfl, hb1⟩
    have hB1 : Below w.heap.size w w1 := ((Below.refl _ w).alloc (Nat.le_refl _) _).trans (hb1.mono (by simp))
    go_wp2_with fail
    go_ret
    exact ⟨rfl, hB1⟩
end Go.Proofs.Ytohfckcikincoac
