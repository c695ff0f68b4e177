import Derived.Test.YtohfckcikincoacSpFi
import Derived.Test.YtohfckcikincoacSpV
namespace Go.Proofs.Ytohfckcikincoac
open Go.RowKit Go.Lib
set_option maxRecDepth 100000

set_option maxHeartbeats 4000000 in
theorem gives_any (o : OpR) (w : World) (ho : OpOk w o) :
    Calls Try.prog 25 #[o.val] w fun e w' => e = .returned (.bool true) ∧ Below w.heap.size w w' := by
  obtain ⟨kind, a, na, ca, la, b, nb, cb, lb, n, m⟩ := o
  have hra := ho.ra
  have hsa := ho.sa
  simp only at hra hsa
  unfold OpR.val
  simp only
  clear ho
  obtain ⟨K, hK⟩ : ∃ K, min (max n 0) 300 = K := ⟨_, rfl⟩
  have hK0 : 0 ≤ K := by omega
  have hK1 : K ≤ 300 := by omega
  have HCP : Hid (∀ W, Below w.heap.size w W → Calls Try.prog 19 #[.slice a na ca] W _) := fun W hb => lawCopied_any (hra.below hb) (by omega)
  have HRC : Hid (∀ W, Below w.heap.size w W → Calls Try.prog 44 #[.slice a na ca, .int .i64 K] W _) := fun W hb => first_any (hra.below hb) K hK0 hK1
  have hmx : ∀ ats ty (w : World), (Builtin.max_ ats ty #[.int .i64 n, .int .i64 0]).run Try.prog w = .ok (.int .i64 (max n 0)) w := fun ats ty w => max_run ats ty n 0 w
  have hmn : ∀ ats ty (w : World), (Builtin.min_ ats ty #[.int .i64 (max n 0), .int .i64 300]).run Try.prog w = .ok (.int .i64 K) w := fun ats ty w => by rw [min_run, hK]
  clear hra
  go_enter Try.func25, Try.ntmps25
  go_wp2_with fail
  refine (HCP.out _ ((Below.refl _ _).alloc (Nat.le_refl _) _)).mono ?_
  rintro e w1 ⟨a1, cap1, rfl, ho1, hb1⟩
  have hc1 : w1.cell? ⟨w.heap.size, 1, none⟩ = some (.slice a na ca) := (hb1.cell (p := ⟨w.heap.size, 1, none⟩) (by simp)).trans (World.cell?_alloc_mark _ _ _ _ _)
  have hB1 : Below w.heap.size w w1 := ((Below.refl _ w).alloc (Nat.le_refl _) _).trans (hb1.mono (by simp))
  have hs1 : w.heap.size < w1.heap.size := by have := hb1.size; simp at this; omega
  clear hb1
  go_wp2_with fail
  refine (lawTaken_any ho1.rng K hK1).mono ?_
  rintro e w2 ⟨v2, rfl, ho2, hb2⟩
  have hc2 : w2.cell? ⟨w.heap.size, 1, none⟩ = some (.slice a na ca) := (hb2.cell (p := ⟨w.heap.size, 1, none⟩) hs1).trans hc1
  have hB2 : Below w.heap.size w w2 := hB1.trans (hb2.mono (by omega))
  clear hb2 hB1 ho1 hs1 hc1
  go_wp2_with fail
  refine (HRC.out _ hB2).mono ?_
  rintro e w3 ⟨v3, rfl, ho3, hb3⟩
  have hB3 : Below w.heap.size w w3 := hB2.trans (hb3.mono hB2.size)
  have ho2' := ho2.below hb3
  obtain ⟨xs, hxs⟩ : ∃ xs, (allPl (heldL la)).take K.toNat = xs := ⟨_, rfl⟩
  have hxl : xs.length ≤ 300 := by rw [← hxs, List.length_take]; omega
  rw [hxs] at ho3 ho2'
  obtain ⟨a2, cp2, rfl⟩ := ho2'.shape
  obtain ⟨a3, cp3, rfl⟩ := ho3.shape
  have r2 := ho2'.rng
  have r3 := ho3.rng
  clear hb3 hB2 hc2 ho2 ho2' ho3 hxs
  go_wp2_with fail
  go_loopw [7] (fun i w' => ∃ j : Nat, j ≤ xs.length ∧ i = .int .i64 j ∧ Below w3.heap.size w3 w') (fun i _ => xs.length - (RowKit.intOf i).toNat)
  case atStart => exact ⟨0, Nat.zero_le _, rfl, Below.refl _ _⟩
  case round =>
    obtain ⟨j, hjn, rfl, hb⟩ := hrel
    by_cases hj : j < xs.length
    · obtain ⟨g, off, rfl, hg, hc⟩ := r2.cells j hj
      obtain ⟨g2, off2, rfl, hg2, hc2⟩ := r3.cells j hj
      have c0 := (hb.cell (p := ⟨g, off + j, none⟩) hg).trans hc
      have c1 := (hb.cell (p := ⟨g2, off2 + j, none⟩) hg2).trans hc2
      generalize xs.getD j 0 = x at *
      clear hc hc2
      go_wp2_with fail
      go_quiet (fail)
      go_wp2_with fail
      go_roundw
      case rel => exact ⟨j + 1, by omega, by go_num, below_drewN hb _⟩
      case measure => simp [RowKit.intOf]; omega
    · obtain rfl : j = xs.length := by omega
      go_wp2_with fail
      go_ret
      exact ⟨rfl, hB3.trans (hb.mono hB3.size)⟩
set_option maxHeartbeats 2000000 in
theorem plays_gives (o : OpR) (w : World) (ho : OpOk w o) (hk : o.kind = 11) :
    Calls Try.prog 11 #[o.val] w fun e w' => e = .returned (.bool true) ∧ Below w.heap.size w w' := by
  have HC : Hid (∀ W, Below w.heap.size w W → Calls Try.prog 25 #[o.val] W fun e w' => e = .returned (.bool true) ∧ Below W.heap.size W w') := fun W hb => gives_any o W (ho.below hb)
  unfold OpR.val at *
  obtain ⟨kind, a, na, ca, la, b, nb, cb, lb, n, m⟩ := o
  simp only at *
  clear ho
  subst hk
  go_enter Try.func11, Try.ntmps11
  go_wp2_with fail
  refine (HC.out _ ((Below.refl _ _).alloc (Nat.le_refl _) _)).mono ?_
  rintro e w1 ⟨rfl, hb1⟩
  have hB1 : Below w.heap.size w w1 := ((Below.refl _ w).alloc (Nat.le_refl _) _).trans (hb1.mono (by simp))
  go_wp2_with fail
  go_ret
  exact ⟨rfl, hB1⟩
end Go.Proofs.Ytohfckcikincoac
