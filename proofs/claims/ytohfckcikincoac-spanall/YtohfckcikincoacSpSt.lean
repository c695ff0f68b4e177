import Derived.Test.YtohfckcikincoacSpCb
import Derived.Test.YtohfckcikincoacSpV
namespace Go.Proofs.Ytohfckcikincoac
open Go.RowKit Go.Lib
set_option maxRecDepth 100000

set_option maxHeartbeats 1000000 in
theorem refUnion_any {w : World} {a : Option Addr} {n cap : Nat} {l : List (Int × Int)} (h : Rng w a n cap l) {b : Option Addr} {m capb : Nat} {k : List (Int × Int)} (hk : Rng w b m capb k) :
    Calls Try.prog 29 #[.slice a n cap, .slice b m capb] w fun e w' => ∃ c U, SpecS (codeOf l k) (fun q => Lies l q ∨ Lies k q) c U ∧ Res w e w' c U := by
  have HC : Hid (Calls Try.prog 51 #[.slice a n cap, .slice b m capb, .int .i64 1] w _) := refComb_any h hk 1 (by omega)
  clear h hk
  go_enter Try.func29, Try.ntmps29
  go_wp2_with fail
  refine HC.out.mono ?_
  rintro e w1 ⟨c, U, hS, a3, n3, c3, rfl, ho3, hb3⟩
  go_wp2_with fail
  go_ret2
  refine ⟨c, U, ?_, a3, n3, c3, rfl, ho3, hb3⟩
  have e : (fun q => combP 1 (Lies l q) (Lies k q)) = (fun q => Lies l q ∨ Lies k q) := by
    funext q
    simp [combP]
  rwa [e] at hS
set_option maxHeartbeats 1000000 in
theorem refMeet_any {w : World} {a : Option Addr} {n cap : Nat} {l : List (Int × Int)} (h : Rng w a n cap l) {b : Option Addr} {m capb : Nat} {k : List (Int × Int)} (hk : Rng w b m capb k) :
    Calls Try.prog 31 #[.slice a n cap, .slice b m capb] w fun e w' => ∃ c U, SpecS (codeOf l k) (fun q => Lies l q ∧ Lies k q) c U ∧ Res w e w' c U := by
  have HC : Hid (Calls Try.prog 51 #[.slice a n cap, .slice b m capb, .int .i64 2] w _) := refComb_any h hk 2 (by omega)
  clear h hk
  go_enter Try.func31, Try.ntmps31
  go_wp2_with fail
  refine HC.out.mono ?_
  rintro e w1 ⟨c, U, hS, a3, n3, c3, rfl, ho3, hb3⟩
  go_wp2_with fail
  go_ret2
  refine ⟨c, U, ?_, a3, n3, c3, rfl, ho3, hb3⟩
  have e : (fun q => combP 2 (Lies l q) (Lies k q)) = (fun q => Lies l q ∧ Lies k q) := by
    funext q
    simp [combP]
  rwa [e] at hS
set_option maxHeartbeats 1000000 in
theorem refMinus_any {w : World} {a : Option Addr} {n cap : Nat} {l : List (Int × Int)} (h : Rng w a n cap l) {b : Option Addr} {m capb : Nat} {k : List (Int × Int)} (hk : Rng w b m capb k) :
    Calls Try.prog 33 #[.slice a n cap, .slice b m capb] w fun e w' => ∃ c U, SpecS (codeOf l k) (fun q => Lies l q ∧ ¬ Lies k q) c U ∧ Res w e w' c U := by
  have HC : Hid (Calls Try.prog 51 #[.slice a n cap, .slice b m capb, .int .i64 3] w _) := refComb_any h hk 3 (by omega)
  clear h hk
  go_enter Try.func33, Try.ntmps33
  go_wp2_with fail
  refine HC.out.mono ?_
  rintro e w1 ⟨c, U, hS, a3, n3, c3, rfl, ho3, hb3⟩
  go_wp2_with fail
  go_ret2
  refine ⟨c, U, ?_, a3, n3, c3, rfl, ho3, hb3⟩
  have e : (fun q => combP 3 (Lies l q) (Lies k q)) = (fun q => Lies l q ∧ ¬ Lies k q) := by
    funext q
    simp [combP]
  rwa [e] at hS
set_option maxHeartbeats 2000000 in
theorem sets_make (o : OpR) (w : World) (ho : OpOk w o) (hk : o.kind = 2) :
    Calls Try.prog 22 #[o.val] w fun e w' => e = .returned (.bool true) ∧ Below w.heap.size w w' := by
  obtain ⟨kind, a, na, ca, la, b, nb, cb, lb, n, m⟩ := o
  simp only at hk
  subst hk
  have hra := ho.ra
  have hsa := ho.sa
  simp only at hra hsa
  unfold OpR.val
  simp only
  clear ho
  have HCP : Hid (∀ W, Below w.heap.size w W → Calls Try.prog 19 #[.slice a na ca] W _) := fun W hb => lawCopied_any (hra.below hb) (by omega)
  have HRC : Hid (∀ W, Below w.heap.size w W → Calls Try.prog 27 #[.slice a na ca] W _) := fun W hb => refMake_any (hra.below hb)
  clear hra
  go_enter Try.func22, Try.ntmps22
  go_wp2_with fail
  refine (HCP.out _ ((Below.refl _ _).alloc (Nat.le_refl _) _)).mono ?_
  rintro e w1 ⟨a1, cap1, rfl, ho1, hb1⟩
  have hc1 : w1.cell? ⟨w.heap.size, 1, none⟩ = some (.slice a na ca) := (hb1.cell (p := ⟨w.heap.size, 1, none⟩) (by simp)).trans (World.cell?_alloc_mark _ _ _ _ _)
  have hB1 : Below w.heap.size w w1 := ((Below.refl _ w).alloc (Nat.le_refl _) _).trans (hb1.mono (by simp))
  have hs1 : w.heap.size < w1.heap.size := by have := hb1.size; simp at this; omega
  clear hb1
  go_wp2_with fail
  refine (make_res ho1.rng).mono ?_
  rintro e w2 ⟨c2, U2, S2, a2, n2, cp2, rfl, ho2, hb2⟩
  have HS2 : Hid (SpecS (makeCode la) (fun q => Lies la q) c2 U2) := S2
  have hc2 : w2.cell? ⟨w.heap.size, 1, none⟩ = some (.slice a na ca) := (hb2.cell (p := ⟨w.heap.size, 1, none⟩) hs1).trans hc1
  have hB2 : Below w.heap.size w w2 := hB1.trans (hb2.mono (by omega))
  clear hb2 hB1 ho1 hs1 hc1 S2
  go_wp2_with fail
  refine (HRC.out _ hB2).mono ?_
  rintro e w3 ⟨c3, U3, S3, a3, n3, cp3, rfl, ho3, hb3⟩
  obtain ⟨rfl, rfl⟩ := HS2.out.unique S3
  have hB3 : Below w.heap.size w w3 := hB2.trans (hb3.mono hB2.size)
  have LA := list_any (ho2.below hb3).rng ho3.rng c2
  clear hb3 hB2 hc2 S3 HS2 ho2 ho3
  go_wp2_with fail
  refine LA.mono ?_
  rintro e w4 ⟨rfl, hb4⟩
  have hB4 := hB3.trans (hb4.mono hB3.size)
  go_wp2_with fail
  go_ret
  exact ⟨rfl, hB4⟩
set_option maxHeartbeats 4000000 in
theorem sets_union (o : OpR) (w : World) (ho : OpOk w o) (hk : o.kind = 3) :
    Calls Try.prog 22 #[o.val] w fun e w' => e = .returned (.bool true) ∧ Below w.heap.size w w' := by
  obtain ⟨kind, a, na, ca, la, b, nb, cb, lb, n, m⟩ := o
  simp only at hk
  subst hk
  have hra := ho.ra
  have hsa := ho.sa
  have hrb := ho.rb
  have hsb := ho.sb
  simp only at hra hsa hrb hsb
  unfold OpR.val
  simp only
  clear ho
  have HCA : Hid (∀ W, Below w.heap.size w W → Calls Try.prog 19 #[.slice a na ca] W _) := fun W hb => lawCopied_any (hra.below hb) (by omega)
  have HCB : Hid (∀ W, Below w.heap.size w W → Calls Try.prog 19 #[.slice b nb cb] W _) := fun W hb => lawCopied_any (hrb.below hb) (by omega)
  have HRC : Hid (∀ W, Below w.heap.size w W → Calls Try.prog 29 #[.slice a na ca, .slice b nb cb] W _) := fun W hb => refUnion_any (hra.below hb) (hrb.below hb)
  clear hra hrb
  go_enter Try.func22, Try.ntmps22
  go_upto_region 7 with fail
  go_cut [7, 8] (fun x y wx => ∃ c U a3 n3 cap3, x = .slice a3 n3 cap3 ∧ y = .int .i64 c ∧ Hid (SpecS (codeOf la lb) (fun q => Lies la q ∨ Lies lb q) c U) ∧ Own wx w.heap.size (.slice a3 n3 cap3) U ∧ Below w.heap.size w wx ∧ wx.cell? ⟨w.heap.size, 1, none⟩ = some (.slice a na ca) ∧ wx.cell? ⟨w.heap.size, 2, none⟩ = some (.slice b nb cb))
  case first =>
    have c0 : (w.alloc (.cells #[.int .i64 3, .slice a na ca, .slice b nb cb, .int .i64 n, .int .i64 m] 38)).cell? ⟨w.heap.size, 1, none⟩ = some (.slice a na ca) := World.cell?_alloc_mark _ _ _ _ _
    have c1 : (w.alloc (.cells #[.int .i64 3, .slice a na ca, .slice b nb cb, .int .i64 n, .int .i64 m] 38)).cell? ⟨w.heap.size, 2, none⟩ = some (.slice b nb cb) := World.cell?_alloc_mark _ _ _ _ _
    go_region_held3 (fun W => W.cell? ⟨w.heap.size, 1, none⟩ = some (.slice a na ca) ∧ W.cell? ⟨w.heap.size, 2, none⟩ = some (.slice b nb cb)) (first | exact ⟨c0, c1⟩ | exact ⟨k6, k7⟩ | exact ⟨k4, k5⟩ | exact ⟨k2, k3⟩)
      (first
        | (go_at_call_of 19 (Value.slice a na ca); refine (HCA.out _ ?_).mono ?_; (exact below_drew ((Below.refl _ _).alloc (Nat.le_refl _) _)); rintro e w1 ⟨a1, cap1, rfl, ho1, hb1⟩; have k2 : w1.cell? ⟨w.heap.size, 1, none⟩ = some (.slice a na ca) := (hb1.cell (p := ⟨w.heap.size, 1, none⟩) (by simp)).trans c0; have k3 : w1.cell? ⟨w.heap.size, 2, none⟩ = some (.slice b nb cb) := (hb1.cell (p := ⟨w.heap.size, 2, none⟩) (by simp)).trans c1; have hB1 : Below w.heap.size w w1 := (below_drew ((Below.refl _ w).alloc (Nat.le_refl _) _)).trans (hb1.mono (by simp)); have hs1 : w.heap.size < w1.heap.size := (by have := hb1.size; simp at this; omega))
        | (go_at_call_of 19 (Value.slice b nb cb); refine (HCB.out _ hB1).mono ?_; rintro e w2 ⟨a2, cap2, rfl, ho2, hb2⟩; have k4 : w2.cell? ⟨w.heap.size, 1, none⟩ = some (.slice a na ca) := (hb2.cell (p := ⟨w.heap.size, 1, none⟩) hs1).trans k2; have k5 : w2.cell? ⟨w.heap.size, 2, none⟩ = some (.slice b nb cb) := (hb2.cell (p := ⟨w.heap.size, 2, none⟩) hs1).trans k3; have hB2 : Below w.heap.size w w2 := hB1.trans (hb2.mono (by omega)); have ho1' := ho1.below hb2; have hs2 : w.heap.size < w2.heap.size := (by have := hb2.size; omega))
        | (go_at_call 8; refine (union_res ho1'.rng ho2.rng).mono ?_; rintro e w3 ⟨c3, U3, S3, a3, n3, cap3, rfl, ho3, hb3⟩; have HS3 : Hid (SpecS (codeOf la lb) (fun q => Lies la q ∨ Lies lb q) c3 U3) := S3; have k6 : w3.cell? ⟨w.heap.size, 1, none⟩ = some (.slice a na ca) := (hb3.cell (p := ⟨w.heap.size, 1, none⟩) hs2).trans k4; have k7 : w3.cell? ⟨w.heap.size, 2, none⟩ = some (.slice b nb cb) := (hb3.cell (p := ⟨w.heap.size, 2, none⟩) hs2).trans k5; have hB3 : Below w.heap.size w w3 := hB2.trans (hb3.mono (by omega)); have hs3 : w.heap.size ≤ w2.heap.size := (by omega)))
    all_goals (go_wp2_with fail; go_meet; case rel => exact ⟨c3, U3, a3, n3, cap3, rfl, rfl, HS3, ho3.mono hs3, hB3, k6, k7⟩)
  case rest =>
    obtain ⟨c2, U2, a2, n2, cp2, rfl, rfl, HS2, ho2, hB2, hc2, hc3⟩ := hcut
    go_wp2_with fail
    refine (HRC.out _ hB2).mono ?_
    rintro e w3 ⟨c3, U3, S3, a3, n3, cp3, rfl, ho3, hb3⟩
    obtain ⟨rfl, rfl⟩ := HS2.out.unique S3
    have hB3 : Below w.heap.size w w3 := hB2.trans (hb3.mono hB2.size)
    have LA := list_any (ho2.below hb3).rng ho3.rng c2
    clear hb3 hB2 hc2 hc3 S3 HS2 ho2 ho3
    go_wp2_with fail
    refine LA.mono ?_
    rintro e w4 ⟨rfl, hb4⟩
    have hB4 := hB3.trans (hb4.mono hB3.size)
    go_wp2_with fail
    go_ret
    exact ⟨rfl, hB4⟩
set_option maxHeartbeats 4000000 in
theorem sets_meet (o : OpR) (w : World) (ho : OpOk w o) (hk : o.kind = 4) :
    Calls Try.prog 22 #[o.val] w fun e w' => e = .returned (.bool true) ∧ Below w.heap.size w w' := by
  obtain ⟨kind, a, na, ca, la, b, nb, cb, lb, n, m⟩ := o
  simp only at hk
  subst hk
  have hra := ho.ra
  have hsa := ho.sa
  have hrb := ho.rb
  have hsb := ho.sb
  simp only at hra hsa hrb hsb
  unfold OpR.val
  simp only
  clear ho
  have HCA : Hid (∀ W, Below w.heap.size w W → Calls Try.prog 19 #[.slice a na ca] W _) := fun W hb => lawCopied_any (hra.below hb) (by omega)
  have HCB : Hid (∀ W, Below w.heap.size w W → Calls Try.prog 19 #[.slice b nb cb] W _) := fun W hb => lawCopied_any (hrb.below hb) (by omega)
  have HRC : Hid (∀ W, Below w.heap.size w W → Calls Try.prog 31 #[.slice a na ca, .slice b nb cb] W _) := fun W hb => refMeet_any (hra.below hb) (hrb.below hb)
  clear hra hrb
  go_enter Try.func22, Try.ntmps22
  go_upto_region 11 with fail
  go_cut [11, 12] (fun x y wx => ∃ c U a3 n3 cap3, x = .slice a3 n3 cap3 ∧ y = .int .i64 c ∧ Hid (SpecS (codeOf la lb) (fun q => Lies la q ∧ Lies lb q) c U) ∧ Own wx w.heap.size (.slice a3 n3 cap3) U ∧ Below w.heap.size w wx ∧ wx.cell? ⟨w.heap.size, 1, none⟩ = some (.slice a na ca) ∧ wx.cell? ⟨w.heap.size, 2, none⟩ = some (.slice b nb cb))
  case first =>
    have c0 : (w.alloc (.cells #[.int .i64 4, .slice a na ca, .slice b nb cb, .int .i64 n, .int .i64 m] 38)).cell? ⟨w.heap.size, 1, none⟩ = some (.slice a na ca) := World.cell?_alloc_mark _ _ _ _ _
    have c1 : (w.alloc (.cells #[.int .i64 4, .slice a na ca, .slice b nb cb, .int .i64 n, .int .i64 m] 38)).cell? ⟨w.heap.size, 2, none⟩ = some (.slice b nb cb) := World.cell?_alloc_mark _ _ _ _ _
    go_region_held3 (fun W => W.cell? ⟨w.heap.size, 1, none⟩ = some (.slice a na ca) ∧ W.cell? ⟨w.heap.size, 2, none⟩ = some (.slice b nb cb)) (first | exact ⟨c0, c1⟩ | exact ⟨k6, k7⟩ | exact ⟨k4, k5⟩ | exact ⟨k2, k3⟩)
      (first
        | (go_at_call_of 19 (Value.slice a na ca); refine (HCA.out _ ?_).mono ?_; (exact below_drew ((Below.refl _ _).alloc (Nat.le_refl _) _)); rintro e w1 ⟨a1, cap1, rfl, ho1, hb1⟩; have k2 : w1.cell? ⟨w.heap.size, 1, none⟩ = some (.slice a na ca) := (hb1.cell (p := ⟨w.heap.size, 1, none⟩) (by simp)).trans c0; have k3 : w1.cell? ⟨w.heap.size, 2, none⟩ = some (.slice b nb cb) := (hb1.cell (p := ⟨w.heap.size, 2, none⟩) (by simp)).trans c1; have hB1 : Below w.heap.size w w1 := (below_drew ((Below.refl _ w).alloc (Nat.le_refl _) _)).trans (hb1.mono (by simp)); have hs1 : w.heap.size < w1.heap.size := (by have := hb1.size; simp at this; omega))
        | (go_at_call_of 19 (Value.slice b nb cb); refine (HCB.out _ hB1).mono ?_; rintro e w2 ⟨a2, cap2, rfl, ho2, hb2⟩; have k4 : w2.cell? ⟨w.heap.size, 1, none⟩ = some (.slice a na ca) := (hb2.cell (p := ⟨w.heap.size, 1, none⟩) hs1).trans k2; have k5 : w2.cell? ⟨w.heap.size, 2, none⟩ = some (.slice b nb cb) := (hb2.cell (p := ⟨w.heap.size, 2, none⟩) hs1).trans k3; have hB2 : Below w.heap.size w w2 := hB1.trans (hb2.mono (by omega)); have ho1' := ho1.below hb2; have hs2 : w.heap.size < w2.heap.size := (by have := hb2.size; omega))
        | (go_at_call 30; refine (meet_res ho1'.rng ho2.rng).mono ?_; rintro e w3 ⟨c3, U3, S3, a3, n3, cap3, rfl, ho3, hb3⟩; have HS3 : Hid (SpecS (codeOf la lb) (fun q => Lies la q ∧ Lies lb q) c3 U3) := S3; have k6 : w3.cell? ⟨w.heap.size, 1, none⟩ = some (.slice a na ca) := (hb3.cell (p := ⟨w.heap.size, 1, none⟩) hs2).trans k4; have k7 : w3.cell? ⟨w.heap.size, 2, none⟩ = some (.slice b nb cb) := (hb3.cell (p := ⟨w.heap.size, 2, none⟩) hs2).trans k5; have hB3 : Below w.heap.size w w3 := hB2.trans (hb3.mono (by omega)); have hs3 : w.heap.size ≤ w2.heap.size := (by omega)))
    all_goals (go_wp2_with fail; go_meet; case rel => exact ⟨c3, U3, a3, n3, cap3, rfl, rfl, HS3, ho3.mono hs3, hB3, k6, k7⟩)
  case rest =>
    obtain ⟨c2, U2, a2, n2, cp2, rfl, rfl, HS2, ho2, hB2, hc2, hc3⟩ := hcut
    go_wp2_with fail
    refine (HRC.out _ hB2).mono ?_
    rintro e w3 ⟨c3, U3, S3, a3, n3, cp3, rfl, ho3, hb3⟩
    obtain ⟨rfl, rfl⟩ := HS2.out.unique S3
    have hB3 : Below w.heap.size w w3 := hB2.trans (hb3.mono hB2.size)
    have LA := list_any (ho2.below hb3).rng ho3.rng c2
    clear hb3 hB2 hc2 hc3 S3 HS2 ho2 ho3
    go_wp2_with fail
    refine LA.mono ?_
    rintro e w4 ⟨rfl, hb4⟩
    have hB4 := hB3.trans (hb4.mono hB3.size)
    go_wp2_with fail
    go_ret
    exact ⟨rfl, hB4⟩
set_option maxHeartbeats 4000000 in
theorem sets_minus (o : OpR) (w : World) (ho : OpOk w o) (hk : o.kind = 5) :
    Calls Try.prog 22 #[o.val] w fun e w' => e = .returned (.bool true) ∧ Below w.heap.size w w' := by
  obtain ⟨kind, a, na, ca, la, b, nb, cb, lb, n, m⟩ := o
  simp only at hk
  subst hk
  have hra := ho.ra
  have hsa := ho.sa
  have hrb := ho.rb
  have hsb := ho.sb
  simp only at hra hsa hrb hsb
  unfold OpR.val
  simp only
  clear ho
  have HCA : Hid (∀ W, Below w.heap.size w W → Calls Try.prog 19 #[.slice a na ca] W _) := fun W hb => lawCopied_any (hra.below hb) (by omega)
  have HCB : Hid (∀ W, Below w.heap.size w W → Calls Try.prog 19 #[.slice b nb cb] W _) := fun W hb => lawCopied_any (hrb.below hb) (by omega)
  have HRC : Hid (∀ W, Below w.heap.size w W → Calls Try.prog 33 #[.slice a na ca, .slice b nb cb] W _) := fun W hb => refMinus_any (hra.below hb) (hrb.below hb)
  clear hra hrb
  go_enter Try.func22, Try.ntmps22
  go_upto_region 14 with fail
  go_cut [15, 16] (fun x y wx => ∃ c U a3 n3 cap3, x = .slice a3 n3 cap3 ∧ y = .int .i64 c ∧ Hid (SpecS (codeOf la lb) (fun q => Lies la q ∧ ¬ Lies lb q) c U) ∧ Own wx w.heap.size (.slice a3 n3 cap3) U ∧ Below w.heap.size w wx ∧ wx.cell? ⟨w.heap.size, 1, none⟩ = some (.slice a na ca) ∧ wx.cell? ⟨w.heap.size, 2, none⟩ = some (.slice b nb cb))
  case first =>
    have c0 : (w.alloc (.cells #[.int .i64 5, .slice a na ca, .slice b nb cb, .int .i64 n, .int .i64 m] 38)).cell? ⟨w.heap.size, 1, none⟩ = some (.slice a na ca) := World.cell?_alloc_mark _ _ _ _ _
    have c1 : (w.alloc (.cells #[.int .i64 5, .slice a na ca, .slice b nb cb, .int .i64 n, .int .i64 m] 38)).cell? ⟨w.heap.size, 2, none⟩ = some (.slice b nb cb) := World.cell?_alloc_mark _ _ _ _ _
    go_region_held3 (fun W => W.cell? ⟨w.heap.size, 1, none⟩ = some (.slice a na ca) ∧ W.cell? ⟨w.heap.size, 2, none⟩ = some (.slice b nb cb)) (first | exact ⟨c0, c1⟩ | exact ⟨k6, k7⟩ | exact ⟨k4, k5⟩ | exact ⟨k2, k3⟩)
      (first
        | (go_at_call_of 19 (Value.slice a na ca); refine (HCA.out _ ?_).mono ?_; (exact below_drew ((Below.refl _ _).alloc (Nat.le_refl _) _)); rintro e w1 ⟨a1, cap1, rfl, ho1, hb1⟩; have k2 : w1.cell? ⟨w.heap.size, 1, none⟩ = some (.slice a na ca) := (hb1.cell (p := ⟨w.heap.size, 1, none⟩) (by simp)).trans c0; have k3 : w1.cell? ⟨w.heap.size, 2, none⟩ = some (.slice b nb cb) := (hb1.cell (p := ⟨w.heap.size, 2, none⟩) (by simp)).trans c1; have hB1 : Below w.heap.size w w1 := (below_drew ((Below.refl _ w).alloc (Nat.le_refl _) _)).trans (hb1.mono (by simp)); have hs1 : w.heap.size < w1.heap.size := (by have := hb1.size; simp at this; omega))
        | (go_at_call_of 19 (Value.slice b nb cb); refine (HCB.out _ hB1).mono ?_; rintro e w2 ⟨a2, cap2, rfl, ho2, hb2⟩; have k4 : w2.cell? ⟨w.heap.size, 1, none⟩ = some (.slice a na ca) := (hb2.cell (p := ⟨w.heap.size, 1, none⟩) hs1).trans k2; have k5 : w2.cell? ⟨w.heap.size, 2, none⟩ = some (.slice b nb cb) := (hb2.cell (p := ⟨w.heap.size, 2, none⟩) hs1).trans k3; have hB2 : Below w.heap.size w w2 := hB1.trans (hb2.mono (by omega)); have ho1' := ho1.below hb2; have hs2 : w.heap.size < w2.heap.size := (by have := hb2.size; omega))
        | (go_at_call 32; refine (minus_res ho1'.rng ho2.rng).mono ?_; rintro e w3 ⟨c3, U3, S3, a3, n3, cap3, rfl, ho3, hb3⟩; have HS3 : Hid (SpecS (codeOf la lb) (fun q => Lies la q ∧ ¬ Lies lb q) c3 U3) := S3; have k6 : w3.cell? ⟨w.heap.size, 1, none⟩ = some (.slice a na ca) := (hb3.cell (p := ⟨w.heap.size, 1, none⟩) hs2).trans k4; have k7 : w3.cell? ⟨w.heap.size, 2, none⟩ = some (.slice b nb cb) := (hb3.cell (p := ⟨w.heap.size, 2, none⟩) hs2).trans k5; have hB3 : Below w.heap.size w w3 := hB2.trans (hb3.mono (by omega)); have hs3 : w.heap.size ≤ w2.heap.size := (by omega)))
    all_goals (go_wp2_with fail; go_meet; case rel => exact ⟨c3, U3, a3, n3, cap3, rfl, rfl, HS3, ho3.mono hs3, hB3, k6, k7⟩)
  case rest =>
    obtain ⟨c2, U2, a2, n2, cp2, rfl, rfl, HS2, ho2, hB2, hc2, hc3⟩ := hcut
    go_wp2_with fail
    refine (HRC.out _ hB2).mono ?_
    rintro e w3 ⟨c3, U3, S3, a3, n3, cp3, rfl, ho3, hb3⟩
    obtain ⟨rfl, rfl⟩ := HS2.out.unique S3
    have hB3 : Below w.heap.size w w3 := hB2.trans (hb3.mono hB2.size)
    have LA := list_any (ho2.below hb3).rng ho3.rng c2
    clear hb3 hB2 hc2 hc3 S3 HS2 ho2 ho3
    go_wp2_with fail
    refine LA.mono ?_
    rintro e w4 ⟨rfl, hb4⟩
    have hB4 := hB3.trans (hb4.mono hB3.size)
    go_wp2_with fail
    go_ret
    exact ⟨rfl, hB4⟩
set_option maxHeartbeats 2000000 in
theorem plays_sets (o : OpR) (w : World) (ho : OpOk w o) (hk : o.kind = 2 ∨ o.kind = 3 ∨ o.kind = 4 ∨ o.kind = 5) :
    Calls Try.prog 11 #[o.val] w fun e w' => e = .returned (.bool true) ∧ Below w.heap.size w w' := by
  have HC : Hid (∀ W, Below w.heap.size w W → Calls Try.prog 22 #[o.val] W fun e w' => e = .returned (.bool true) ∧ Below W.heap.size W w') := fun W hb => by
    rcases hk with h | h | h | h
    · exact sets_make o W (ho.below hb) h
    · exact sets_union o W (ho.below hb) h
    · exact sets_meet o W (ho.below hb) h
    · exact sets_minus o W (ho.below hb) h
  unfold OpR.val at *
  obtain ⟨kind, a, na, ca, la, b, nb, cb, lb, n, m⟩ := o
  simp only at *
  clear ho
  rcases hk with rfl | rfl | rfl | rfl
  all_goals
    go_enter Try.func11, Try.ntmps11
    go_wp2_with fail
    refine (HC.out _ ((Below.refl _ _).alloc (Nat.le_refl _) _)).mono ?_
    rintro e w1 ⟨rfl, hb1⟩
    have hB1 : Below w.heap.size w w1 := ((Below.refl _ w).alloc (Nat.le_refl _) _).trans (hb1.mono (by simp))
    go_wp2_with fail
    go_ret
    exact ⟨rfl, hB1⟩
end Go.Proofs.Ytohfckcikincoac
