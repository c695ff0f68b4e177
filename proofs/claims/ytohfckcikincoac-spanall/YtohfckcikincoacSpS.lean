import Derived.Test.YtohfckcikincoacSpR
namespace Go.Proofs.Ytohfckcikincoac
open Go.RowKit Go.Lib
set_option maxRecDepth 100000

set_option maxHeartbeats 1000000 in
theorem number_any (n e : Int) (w : World) : Calls Try.prog 21 #[.int .i64 n, .int .i64 e, .int .i64 n, .int .i64 e] w fun r w' => r = .returned (.bool true) ∧ w' = w := by
  have t1 : (e == e) = true := by simp
  have t2 : (n == n) = true := by simp
  go_enter Try.func21, Try.ntmps21
  go_wp2_with fail
  refine (num_any _ _).mono ?_
  rintro r w1 ⟨rfl, rfl⟩
  go_wp2_with fail
  go_ret
  exact ⟨rfl, rfl⟩
set_option maxHeartbeats 1000000 in
theorem plays_check (o : OpR) (w : World) (ho : OpOk w o) (hk : o.kind = 1) :
    Calls Try.prog 11 #[o.val] w fun e w' => e = .returned (.bool true) ∧ Below w.heap.size w w' := by
  obtain ⟨kind, a, na, ca, la, b, nb, cb, lb, n, m⟩ := o
  simp only at hk
  subst hk
  have hra := ho.ra
  have hsa := ho.sa
  simp only at hra hsa
  unfold OpR.val
  simp only
  clear ho
  have HCP : Hid (∀ W, Below w.heap.size w W → Calls Try.prog 19 #[.slice a na ca] W _) := fun W hb => lawCopied_any (hra.below hb) (by omega)
  have HRC : Hid (∀ W, Below w.heap.size w W → Calls Try.prog 20 #[.slice a na ca] W _) := fun W hb => refCheck_any (hra.below hb)
  clear hra
  go_enter Try.func11, Try.ntmps11
  go_wp2_with fail
  refine (HCP.out _ ((Below.refl _ _).alloc (Nat.le_refl _) _)).mono ?_
  rintro e w1 ⟨a1, cap1, rfl, ho1, hb1⟩
  have hc1 : w1.cell? ⟨w.heap.size, 1, none⟩ = some (.slice a na ca) := (hb1.cell (p := ⟨w.heap.size, 1, none⟩) (by simp)).trans (World.cell?_alloc_mark _ _ _ _ _)
  have hB1 : Below w.heap.size w w1 := ((Below.refl _ w).alloc (Nat.le_refl _) _).trans (hb1.mono (by simp))
  have hs1 : w.heap.size < w1.heap.size := by have := hb1.size; simp at this; omega
  clear hb1
  go_wp2_with fail
  refine (check_any ho1.rng).mono ?_
  rintro e w2 ⟨rfl, hb2⟩
  have hc2 : w2.cell? ⟨w.heap.size, 1, none⟩ = some (.slice a na ca) := (hb2.cell (p := ⟨w.heap.size, 1, none⟩) hs1).trans hc1
  have hB2 : Below w.heap.size w w2 := hB1.trans (hb2.mono (by omega))
  clear hb2 hB1 ho1 hs1 hc1
  go_wp2_with fail
  refine (HRC.out _ hB2).mono ?_
  rintro e w3 ⟨rfl, hb3⟩
  have hB3 : Below w.heap.size w w3 := hB2.trans (hb3.mono hB2.size)
  clear hb3 hB2 hc2
  go_wp2_with fail
  refine (number_any _ _ _).mono ?_
  rintro e w4 ⟨rfl, rfl⟩
  go_wp2_with fail
  go_ret
  exact ⟨rfl, hB3⟩
end Go.Proofs.Ytohfckcikincoac
