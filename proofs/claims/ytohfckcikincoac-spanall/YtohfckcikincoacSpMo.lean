import Derived.Test.YtohfckcikincoacSpMv
namespace Go.Proofs.Ytohfckcikincoac
open Go.RowKit Go.Lib
set_option maxRecDepth 100000

set_option maxHeartbeats 4000000 in
theorem moves_through (o : OpR) (w : World) (ho : OpOk w o) (hk : o.kind = 9) :
    Calls Try.prog 24 #[o.val] w fun e w' => e = .returned (.bool true) ∧ Below w.heap.size w w' := by
  obtain ⟨kind, a, na, ca, la, b, nb, cb, lb, n, m⟩ := o
  simp only at hk
  subst hk
  have hra := ho.ra
  have hsa := ho.sa
  simp only at hra hsa
  unfold OpR.val
  simp only
  clear ho
  have HCA : Hid (∀ W, Below w.heap.size w W → Calls Try.prog 19 #[.slice a na ca] W _) := fun W hb => lawCopied_any (hra.below hb) (by omega)
  have HRC : Hid (∀ W, Below w.heap.size w W → Calls Try.prog 40 #[.slice a na ca, .int .i64 n, .int .i64 m] W _) := fun W hb => refThrough_any (hra.below hb) n m
  clear hra
  go_enter Try.func24, Try.ntmps24
  go_upto_region 2 with fail
  go_cut [3, 4] (fun x y wx => ∃ c U a3 n3 cap3, x = .slice a3 n3 cap3 ∧ y = .int .i64 c ∧ Hid (SpecS (throughCode la n m) (throughS la n m) c U) ∧ Own wx w.heap.size (.slice a3 n3 cap3) U ∧ Below w.heap.size w wx ∧ wx.cell? ⟨w.heap.size, 1, none⟩ = some (.slice a na ca) ∧ wx.cell? ⟨w.heap.size, 3, none⟩ = some (.int .i64 n) ∧ wx.cell? ⟨w.heap.size, 4, none⟩ = some (.int .i64 m))
  case first =>
    have c0 : (w.alloc (.cells #[.int .i64 9, .slice a na ca, .slice b nb cb, .int .i64 n, .int .i64 m] 38)).cell? ⟨w.heap.size, 1, none⟩ = some (.slice a na ca) := World.cell?_alloc_mark _ _ _ _ _
    have c1 : (w.alloc (.cells #[.int .i64 9, .slice a na ca, .slice b nb cb, .int .i64 n, .int .i64 m] 38)).cell? ⟨w.heap.size, 3, none⟩ = some (.int .i64 n) := World.cell?_alloc_mark _ _ _ _ _
    have c2 : (w.alloc (.cells #[.int .i64 9, .slice a na ca, .slice b nb cb, .int .i64 n, .int .i64 m] 38)).cell? ⟨w.heap.size, 4, none⟩ = some (.int .i64 m) := World.cell?_alloc_mark _ _ _ _ _
    go_region_held3 (fun W => W.cell? ⟨w.heap.size, 1, none⟩ = some (.slice a na ca) ∧ W.cell? ⟨w.heap.size, 3, none⟩ = some (.int .i64 n) ∧ W.cell? ⟨w.heap.size, 4, none⟩ = some (.int .i64 m)) (first | exact ⟨c0, c1, c2⟩ | exact ⟨k5, k6, k7⟩ | exact ⟨k2, k3, k4⟩)
      (first
        | (go_at_call 19; refine (HCA.out _ ?_).mono ?_; (exact below_drew ((Below.refl _ _).alloc (Nat.le_refl _) _)); rintro e w1 ⟨a1, cap1, rfl, ho1, hb1⟩; have k2 : w1.cell? ⟨w.heap.size, 1, none⟩ = some (.slice a na ca) := (hb1.cell (p := ⟨w.heap.size, 1, none⟩) (by simp)).trans c0; have k3 : w1.cell? ⟨w.heap.size, 3, none⟩ = some (.int .i64 n) := (hb1.cell (p := ⟨w.heap.size, 3, none⟩) (by simp)).trans c1; have k4 : w1.cell? ⟨w.heap.size, 4, none⟩ = some (.int .i64 m) := (hb1.cell (p := ⟨w.heap.size, 4, none⟩) (by simp)).trans c2; have hB1 : Below w.heap.size w w1 := (below_drew ((Below.refl _ w).alloc (Nat.le_refl _) _)).trans (hb1.mono (by simp)); have hs1 : w.heap.size < w1.heap.size := (by have := hb1.size; simp at this; omega))
        | (go_at_call 10; refine (through_res ho1.rng n m).mono ?_; rintro e w3 ⟨c3, U3, S3, a3, n3, cap3, rfl, ho3, hb3⟩; have HS3 : Hid (SpecS (throughCode la n m) (throughS la n m) c3 U3) := S3; have k5 : w3.cell? ⟨w.heap.size, 1, none⟩ = some (.slice a na ca) := (hb3.cell (p := ⟨w.heap.size, 1, none⟩) hs1).trans k2; have k6 : w3.cell? ⟨w.heap.size, 3, none⟩ = some (.int .i64 n) := (hb3.cell (p := ⟨w.heap.size, 3, none⟩) hs1).trans k3; have k7 : w3.cell? ⟨w.heap.size, 4, none⟩ = some (.int .i64 m) := (hb3.cell (p := ⟨w.heap.size, 4, none⟩) hs1).trans k4; have hB3 : Below w.heap.size w w3 := hB1.trans (hb3.mono (by omega)); have hs3 : w.heap.size ≤ w1.heap.size := (by omega)))
    all_goals (go_wp2_with fail; go_meet; case rel => exact ⟨c3, U3, a3, n3, cap3, rfl, rfl, HS3, ho3.mono hs3, hB3, k5, k6, k7⟩)
  case rest =>
    obtain ⟨c2, U2, a2, n2, cp2, rfl, rfl, HS2, ho2, hB2, hc2, hc3, hc4⟩ := hcut
    go_wp2_with fail
    refine (HRC.out _ hB2).mono ?_
    rintro e w3 ⟨c3, U3, S3, a3, n3, cp3, rfl, ho3, hb3⟩
    obtain ⟨rfl, rfl⟩ := HS2.out.unique S3
    have hB3 : Below w.heap.size w w3 := hB2.trans (hb3.mono hB2.size)
    have LA := list_any (ho2.below hb3).rng ho3.rng c2
    clear hb3 hB2 hc2 hc3 hc4 S3 HS2 ho2 ho3
    go_wp2_with fail
    refine LA.mono ?_
    rintro e w4 ⟨rfl, hb4⟩
    have hB4 := hB3.trans (hb4.mono hB3.size)
    go_wp2_with fail
    go_ret
    exact ⟨rfl, hB4⟩
set_option maxHeartbeats 4000000 in
theorem moves_back (o : OpR) (w : World) (ho : OpOk w o) (hk : o.kind = 10) :
    Calls Try.prog 24 #[o.val] w fun e w' => e = .returned (.bool true) ∧ Below w.heap.size w w' := by
  obtain ⟨kind, a, na, ca, la, b, nb, cb, lb, n, m⟩ := o
  simp only at hk
  subst hk
  have hra := ho.ra
  have hsa := ho.sa
  simp only at hra hsa
  unfold OpR.val
  simp only
  clear ho
  have HCA : Hid (∀ W, Below w.heap.size w W → Calls Try.prog 19 #[.slice a na ca] W _) := fun W hb => lawCopied_any (hra.below hb) (by omega)
  have HRC : Hid (∀ W, Below w.heap.size w W → Calls Try.prog 42 #[.slice a na ca, .int .i64 n, .int .i64 m] W _) := fun W hb => refBack_any (hra.below hb) n m
  clear hra
  go_enter Try.func24, Try.ntmps24
  go_upto_region 5 with fail
  go_cut [7, 8, 9] (fun x y z wx => ∃ c U V a3 n3 cap3 b3 m3 capb3, x = .slice a3 n3 cap3 ∧ y = .slice b3 m3 capb3 ∧ z = .int .i64 c ∧ Hid (SpecB (backCode la n m) (backS la n m) (backT la n m) c U V) ∧ Own wx w.heap.size (.slice a3 n3 cap3) U ∧ Own wx w.heap.size (.slice b3 m3 capb3) V ∧ Below w.heap.size w wx ∧ wx.cell? ⟨w.heap.size, 1, none⟩ = some (.slice a na ca) ∧ wx.cell? ⟨w.heap.size, 3, none⟩ = some (.int .i64 n) ∧ wx.cell? ⟨w.heap.size, 4, none⟩ = some (.int .i64 m))
  case first =>
    have c0 : (w.alloc (.cells #[.int .i64 10, .slice a na ca, .slice b nb cb, .int .i64 n, .int .i64 m] 38)).cell? ⟨w.heap.size, 1, none⟩ = some (.slice a na ca) := World.cell?_alloc_mark _ _ _ _ _
    have c1 : (w.alloc (.cells #[.int .i64 10, .slice a na ca, .slice b nb cb, .int .i64 n, .int .i64 m] 38)).cell? ⟨w.heap.size, 3, none⟩ = some (.int .i64 n) := World.cell?_alloc_mark _ _ _ _ _
    have c2 : (w.alloc (.cells #[.int .i64 10, .slice a na ca, .slice b nb cb, .int .i64 n, .int .i64 m] 38)).cell? ⟨w.heap.size, 4, none⟩ = some (.int .i64 m) := World.cell?_alloc_mark _ _ _ _ _
    go_region_held3 (fun W => W.cell? ⟨w.heap.size, 1, none⟩ = some (.slice a na ca) ∧ W.cell? ⟨w.heap.size, 3, none⟩ = some (.int .i64 n) ∧ W.cell? ⟨w.heap.size, 4, none⟩ = some (.int .i64 m)) (first | exact ⟨c0, c1, c2⟩ | exact ⟨k5, k6, k7⟩ | exact ⟨k2, k3, k4⟩)
      (first
        | (go_at_call 19; refine (HCA.out _ ?_).mono ?_; (exact below_drew ((Below.refl _ _).alloc (Nat.le_refl _) _)); rintro e w1 ⟨a1, cap1, rfl, ho1, hb1⟩; have k2 : w1.cell? ⟨w.heap.size, 1, none⟩ = some (.slice a na ca) := (hb1.cell (p := ⟨w.heap.size, 1, none⟩) (by simp)).trans c0; have k3 : w1.cell? ⟨w.heap.size, 3, none⟩ = some (.int .i64 n) := (hb1.cell (p := ⟨w.heap.size, 3, none⟩) (by simp)).trans c1; have k4 : w1.cell? ⟨w.heap.size, 4, none⟩ = some (.int .i64 m) := (hb1.cell (p := ⟨w.heap.size, 4, none⟩) (by simp)).trans c2; have hB1 : Below w.heap.size w w1 := (below_drew ((Below.refl _ w).alloc (Nat.le_refl _) _)).trans (hb1.mono (by simp)); have hs1 : w.heap.size < w1.heap.size := (by have := hb1.size; simp at this; omega))
        | (go_at_call 41; refine (back_res ho1.rng n m).mono ?_; rintro e w3 ⟨c3, U3, V3, S3, a3, n3, cap3, b3, m3, capb3, rfl, ho3, hv3, hb3⟩; have HS3 : Hid (SpecB (backCode la n m) (backS la n m) (backT la n m) c3 U3 V3) := S3; have k5 : w3.cell? ⟨w.heap.size, 1, none⟩ = some (.slice a na ca) := (hb3.cell (p := ⟨w.heap.size, 1, none⟩) hs1).trans k2; have k6 : w3.cell? ⟨w.heap.size, 3, none⟩ = some (.int .i64 n) := (hb3.cell (p := ⟨w.heap.size, 3, none⟩) hs1).trans k3; have k7 : w3.cell? ⟨w.heap.size, 4, none⟩ = some (.int .i64 m) := (hb3.cell (p := ⟨w.heap.size, 4, none⟩) hs1).trans k4; have hB3 : Below w.heap.size w w3 := hB1.trans (hb3.mono (by omega)); have hs3 : w.heap.size ≤ w1.heap.size := (by omega)))
    all_goals (go_wp2_with fail; go_meet; case rel => exact ⟨c3, U3, V3, a3, n3, cap3, b3, m3, capb3, rfl, rfl, rfl, HS3, ho3.mono hs3, hv3.mono hs3, hB3, k5, k6, k7⟩)
  case rest =>
    obtain ⟨c2, U2, V2, a2, n2, cp2, b2, m2, cpb2, rfl, rfl, rfl, HS2, ho2, hv2, hB2, hc2, hc3, hc4⟩ := hcut
    go_wp2_with fail
    refine (HRC.out _ hB2).mono ?_
    rintro e w3 ⟨c3, U3, V3, S3, a3, n3, cp3, b3, m3, cpb3, rfl, ho3, hv3, hb3⟩
    obtain ⟨rfl, rfl, rfl⟩ := HS2.out.unique S3
    have hB3 : Below w.heap.size w w3 := hB2.trans (hb3.mono hB2.size)
    have LA := list_any (ho2.below hb3).rng ho3.rng c2
    have HSM : Hid (∀ W, Below w3.heap.size w3 W → Calls Try.prog 9 #[.slice b2 m2 cpb2, .slice b3 m3 cpb3] W fun e w' => e = .returned (.bool true) ∧ Below W.heap.size W w') := fun W hb => by
      have := same_any ((hv2.below hb3).below hb).rng (hv3.below hb).rng
      simpa only [decide_true] using this
    clear hb3 hB2 hc2 hc3 hc4 S3 HS2 ho2 ho3 hv2 hv3
    go_wp2_with fail
    refine LA.mono ?_
    rintro e w4 ⟨rfl, hb4⟩
    have hB4 := hB3.trans (hb4.mono hB3.size)
    go_wp2_with fail
    refine (HSM.out _ hb4).mono ?_
    rintro e w5 ⟨rfl, hb5⟩
    have hB5 := hB4.trans (hb5.mono hB4.size)
    go_wp2_with fail
    go_ret
    exact ⟨rfl, hB5⟩
set_option maxHeartbeats 2000000 in
theorem plays_moves (o : OpR) (w : World) (ho : OpOk w o) (hk : o.kind = 9 ∨ o.kind = 10) :
    Calls Try.prog 11 #[o.val] w fun e w' => e = .returned (.bool true) ∧ Below w.heap.size w w' := by
  have HC : Hid (∀ W, Below w.heap.size w W → Calls Try.prog 24 #[o.val] W fun e w' => e = .returned (.bool true) ∧ Below W.heap.size W w') := fun W hb => by
    rcases hk with h | h
    · exact moves_through o W (ho.below hb) h
    · exact moves_back o W (ho.below hb) h
  unfold OpR.val at *
  obtain ⟨kind, a, na, ca, la, b, nb, cb, lb, n, m⟩ := o
  simp only at *
  clear ho
  rcases hk with rfl | rfl
  all_goals
    go_enter Try.func11, Try.ntmps11
    go_wp2_with fail
    refine (HC.out _ ((Below.refl _ _).alloc (Nat.le_refl _) _)).mono ?_
    rintro e w1 ⟨rfl, hb1⟩
    have hB1 : Below w.heap.size w w1 := ((Below.refl _ w).alloc (Nat.le_refl _) _).trans (hb1.mono (by simp))
    go_wp2_with fail
    go_ret
    exact ⟨rfl, hB1⟩
end Go.Proofs.Ytohfckcikincoac
