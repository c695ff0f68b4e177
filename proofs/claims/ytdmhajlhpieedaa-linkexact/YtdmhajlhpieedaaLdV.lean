import Derived.Test.YtdmhajlhpieedaaLdSU
/-! take: the walk. -/
namespace Go.Proofs.Ytdmhajlhpieedaa
open Go.RowKit Go.Lib Go.Shelf
set_option maxRecDepth 100000

set_option maxHeartbeats 8000000 in
theorem take_any {C : Nat → Prop} {W : World} {h : Nat} {gv wv lv : Value} {gs : List Br} {ls : List Fs} {a : Option Addr} {n cap : Nat} (hb : Bk C W h gv wv lv gs ls) (hh : Hnd W a n cap) (hn : n + 2 ≤ 140737488355328) (hg : gs.length ≤ 1099511627776)
    (hd : ∀ b ∈ gs, ∀ p, b.a = some p → ∀ q, a = some q → p.block = q.block → b.bs.length = 0 ∨ p.off + b.bs.length ≤ q.off ∨ q.off + cap ≤ p.off) : Calls Try.prog 37 #[.pointer (some ⟨h, 0, none⟩), .slice a n cap] W fun e w' => e = .returned (.tuple #[]) ∧ TakP C W h lv gs ls a n cap w' := by
  obtain ⟨a1, c1, e1, _, _⟩ := hb.at_.got.shape
  obtain ⟨a2, c2, e2, _, _⟩ := hb.at_.want.shape
  subst e1 e2
  have q0 := (box3 hb.at_.box).1
  have HF0 : Hid (Fil W a n cap (mkB gs.length) 0 W) := hh.fil _
  have HK : Hid ((mkB gs.length).toNat = gs.length % 250 + 1) := mkB_nat _
  obtain ⟨mb, hmb⟩ : ∃ mb, mkB gs.length = mb := ⟨_, rfl⟩
  rw [hmb] at HF0 HK
  have HM : Hid (∀ w1, Fil W a n cap mb n w1 → TakM C W h (.slice a1 gs.length c1) (.slice a2 gs.length c2) lv gs ls a n cap mb (mb.toNat : Int) w1) := fun w1 hF => take_mem hmb hb hh hF hn hg hd
  have HX : Hid (∀ w', TakP C W h lv gs ls a n cap w' → TakP C W h lv gs ls a n cap w') := fun _ x => x
  obtain ⟨ng, hng⟩ : ∃ ng, gs.length = ng := ⟨_, rfl⟩
  have HM2 : Hid (∀ w1, Fil W a n cap mb n w1 → TakM C W h (.slice a1 ng c1) (.slice a2 ng c2) lv gs ls a n cap mb (mb.toNat : Int) w1) := by rw [← hng]; exact HM.out
  rw [hng] at q0 hg HK
  clear HM HX
  have d1 : (ng : Int).tmod 250 = ((ng % 250 : Nat) : Int) := by rw [Int.tmod_eq_emod_of_nonneg (by omega)]; simp
  have d2 : IntKind.i64.wrap ((ng % 250 : Nat) : Int) = ((ng % 250 : Nat) : Int) := IntWalk.i64_in _ (by omega)
  obtain ⟨m0, hm0⟩ : ∃ m0 : Int, ((ng % 250 : Nat) : Int) = m0 := ⟨_, rfl⟩
  obtain ⟨mi, hmi⟩ : ∃ mi : Int, (mb.toNat : Int) = mi := ⟨_, rfl⟩
  have hmm : m0 + 1 = mi := by rw [← hm0, ← hmi, HK.out]; simp
  have hr1 : 1 ≤ mi ∧ mi ≤ 250 := by omega
  have d3 : IntKind.i64.wrap (m0 + 1) = mi := by rw [hmm]; exact IntWalk.i64_in _ (by omega)
  have d4 : IntKind.u8.wrap mi = mi := by
    have := hr1.1
    have := hr1.2
    first | exact IntWalk.u8_in _ (by omega) | (simp [IntKind.wrap]; omega)
  rw [hm0] at d1 d2
  rw [hmi] at HM2
  have HMI : Hid ((mb.toNat : Int) = mi) := hmi
  have hn2 : n ≤ 140737488355326 := by omega
  clear hb hh hd hmb hng hm0 hmi hmm hr1 HK hn
  go_enter Try.func37, Try.ntmps37
  go_wp2_with fail
  go_loopw [5] (fun vi wr => ∃ i : Nat, i ≤ n ∧ vi = .int .i64 (i : Int) ∧ Hid (Fil W a n cap mb i wr)) (fun vi _ => n - (RowKit.intOf vi).toNat)
  case atStart => exact ⟨0, Nat.zero_le _, rfl, HF0.out⟩
  case round =>
    obtain ⟨i, hi, rfl, hI⟩ := hrel
    by_cases hin : i < n
    · have hin2 : (i : Int) < (n : Int) := by omega
      have ei : IntKind.i64.wrap ((i : Int) + 1) = (i : Int) + 1 := IntWalk.i64_in _ (by omega)
      obtain ⟨g, o, u, ea, hc, hz, hN⟩ := hI.out.step hin
      rw [HMI.out] at hN
      have HN : Hid (Fil W a n cap mb (i + 1) (wr.setCell ⟨g, o + i, none⟩ (.int .u8 mi))) := hN
      subst ea
      clear hN
      go_wp2_with fail
      exact ⟨⟨i + 1, by omega, by simp, HN.out⟩, by simp [RowKit.intOf]; omega⟩
    · have hin2 : ¬ (i : Int) < (n : Int) := by omega
      obtain rfl : i = n := by omega
      obtain ⟨a', cap', V1, gv', V2, ⟨a3, n3, c3, rfl⟩, hap1, hap2, ⟨x0, x1, x2⟩, hNext⟩ := HM2.out wr hI.out
      obtain ⟨V3, hV3⟩ : ∃ V3, V2.setCell ⟨h, 0, none⟩ (.slice a3 n3 c3) = V3 := ⟨_, rfl⟩
      obtain ⟨V4, hV4⟩ : ∃ V4, V3.drew.alloc (.cells #[.int .u8 mi, .int .u8 mi] 5) = V4 := ⟨_, rfl⟩
      obtain ⟨wv', V5, ⟨a4, n4, c4, rfl⟩, x3, r3, hap3, r4, r5, x4, x5, rm, hP⟩ := hNext V3 V4 hV3 hV4
      have HP : Hid (TakP C W h lv gs ls a i cap (V5.setCell ⟨h, 1, none⟩ (.slice a4 n4 c4))) := hP
      have b0 : Below wr.drew.heap.size wr.drew (wr.drew.alloc (.cells #[.int .u8 mi, .int .u8 mi] 5)) := (Below.refl _ _).alloc (Nat.le_refl _) _
      have b1 : Below V1.heap.size V1 (V1.alloc (.cells #[.slice a i cap, .slice a' (i + 2) cap'] 34)) := (Below.refl _ _).alloc (Nat.le_refl _) _
      have k0 : wr.drew.cell? ⟨h, 0, none⟩ = some (.slice a1 ng c1) := (box3 (W := wr.drew) x0).1
      have k1 := (box3 ((b0.block h (Array.getElem?_eq_some_iff.1 x0).1).trans x0)).1
      have k2 := (box3 x1).1
      have k3 := (box3 ((b1.block h (Array.getElem?_eq_some_iff.1 x1).1).trans x1)).1
      have k4 := (box3 x2).1
      have f0 := Lib.frozen_of_heap x2 0
      have f1 := Lib.frozen_of_heap x5 1
      have y1 := (box3 x5).2.1
      have bd : Below V3.heap.size V3 V3.drew := (Below.refl _ _).drew
      have t3 := conv_bytes (r3.below bd)
      have t4 := conv_bytes r4
      have t5 := conv_bytes r5
      have tm := conv_bytes rm
      have hcat : (⟨(List.replicate i mb).toArray⟩ : ByteArray) ++ ⟨[mb, mb].toArray⟩ = ⟨(List.replicate (i + 2) mb).toArray⟩ := cat_mk i mb
      have n1 : ¬ (9223372036854775807 < i + 2) := by omega
      have n2 : ¬ ((⟨(List.replicate i mb).toArray⟩ : ByteArray).size + (⟨[mb, mb].toArray⟩ : ByteArray).size > 9223372036854775807) := by simpa [ByteArray.size] using (by omega : i + 2 ≤ 9223372036854775807)
      obtain ⟨s1, hs1⟩ : ∃ s1 : ByteArray, ⟨(List.replicate i mb).toArray⟩ = s1 := ⟨_, rfl⟩
      obtain ⟨sm, hsm⟩ : ∃ sm : ByteArray, ⟨[mb, mb].toArray⟩ = sm := ⟨_, rfl⟩
      obtain ⟨s2, hs2⟩ : ∃ s2 : ByteArray, ⟨(List.replicate (i + 2) mb).toArray⟩ = s2 := ⟨_, rfl⟩
      have b4 : Below V4.heap.size V4 (V4.alloc (.cells #[.string s1, .string s2] 9)) := (Below.refl _ _).alloc (Nat.le_refl _) _
      have t4' := conv_bytes (r4.below b4)
      rw [hs1] at t3 t4 t5 t4' hcat n2 hap3
      rw [hsm] at tm hcat n2
      rw [hs2] at hcat hap3
      have j0 : V3.drew.cell? ⟨h, 1, none⟩ = some (.slice a2 ng c2) ∧ (convert 34 9 (.slice a i cap)).run Try.prog V3.drew = .ok (.string s1) V3.drew := ⟨(box3 (W := V3.drew) x3).2.1, t3⟩
      have j1 : V4.cell? ⟨h, 1, none⟩ = some (.slice a2 ng c2) ∧ (convert 34 9 (.slice a i cap)).run Try.prog V4 = .ok (.string s1) V4 := ⟨(box3 x4).2.1, t4⟩
      have j3 : (V4.alloc (.cells #[.string s1, .string s2] 9)).cell? ⟨h, 1, none⟩ = some (.slice a2 ng c2) ∧ (convert 34 9 (.slice a i cap)).run Try.prog (V4.alloc (.cells #[.string s1, .string s2] 9)) = .ok (.string s1) (V4.alloc (.cells #[.string s1, .string s2] 9)) := ⟨(box3 ((b4.block h (Array.getElem?_eq_some_iff.1 x4).1).trans x4)).2.1, t4'⟩
      have j4 : V5.cell? ⟨h, 1, none⟩ = some (.slice a2 ng c2) ∧ (convert 34 9 (.slice a i cap)).run Try.prog V5 = .ok (.string s1) V5 := ⟨y1, t5⟩
      clear hNext x0 x1 x2 x3 x4 x5 r3 r4 r5 rm hP b0 b1 b4 bd t3 t4 t5 t4' hs1 hsm hs2 HM2 HMI HF0 hI d1 d2 d3 d4
      go_wp2_with fail
      refine wp_region_E (S := (fun w => w.cell? ⟨h, 0, none⟩ = some (.slice a1 ng c1))) (E := [13, 14, 15]) (by kernel_rfl) ?_
      refine takeE (i := 0) (d := some 24) (v := ?vT1) rfl rfl (by kernel_rfl) (by kernel_rfl) (by kernel_rfl) (by kernel_rfl) (fun _ _ _ h => h) (Or.inl ⟨by rfl, ?hyT1⟩) k0 ?rstT1
      case hyT1 => (intro w hSw; (try dsimp only at hSw); skip; go_simp; (try with_reducible rfl))
      try simp only [Act.put, List.setIfInBounds_toArray, List.set_cons_zero, List.set_cons_succ]
      refine takeE (i := 1) (d := some 25) (v := ?vT2) rfl rfl (by kernel_rfl) (by kernel_rfl) (by kernel_rfl) (by kernel_rfl) (fun _ _ _ h => h) (Or.inl ⟨by rfl, ?hyT2⟩) k0 ?rstT2
      case hyT2 => (intro w hSw; (try dsimp only at hSw); skip; go_simp; (try with_reducible rfl))
      try simp only [Act.put, List.setIfInBounds_toArray, List.set_cons_zero, List.set_cons_succ]
      refine takeE (i := 2) (d := some 26) (v := ?vT3) rfl rfl (by kernel_rfl) (by kernel_rfl) (by kernel_rfl) (by kernel_rfl) (fun _ _ _ h => h) (Or.inl ⟨by rfl, ?hyT3⟩) k0 ?rstT3
      case hyT3 => (intro w hSw; (try dsimp only at hSw); skip; go_simp; (try with_reducible rfl))
      try simp only [Act.put, List.setIfInBounds_toArray, List.set_cons_zero, List.set_cons_succ]
      refine takeE (i := 3) (d := some 27) (v := ?vT4) rfl rfl (by kernel_rfl) (by kernel_rfl) (by kernel_rfl) (by kernel_rfl) (fun _ _ _ h => h) (Or.inl ⟨by rfl, ?hyT4⟩) k0 ?rstT4
      case hyT4 => (intro w hSw; (try dsimp only at hSw); skip; go_simp; (try with_reducible rfl))
      try simp only [Act.put, List.setIfInBounds_toArray, List.set_cons_zero, List.set_cons_succ]
      refine takeE (i := 4) (d := some 28) (v := ?vT5) rfl rfl (by kernel_rfl) (by kernel_rfl) (by kernel_rfl) (by kernel_rfl) (fun _ _ _ h => h) (Or.inl ⟨by rfl, ?hyT5⟩) k0 ?rstT5
      case hyT5 => (intro w hSw; (try dsimp only at hSw); skip; go_simp; (try with_reducible rfl))
      try simp only [Act.put, List.setIfInBounds_toArray, List.set_cons_zero, List.set_cons_succ]
      refine takeE (i := 5) (d := some 29) (v := ?vT6) rfl rfl (by kernel_rfl) (by kernel_rfl) (by kernel_rfl) (by kernel_rfl) (fun _ _ _ h => h) (Or.inl ⟨by rfl, ?hyT6⟩) k0 ?rstT6
      case hyT6 => (intro w hSw; (try dsimp only at hSw); skip; go_simp; (try with_reducible rfl))
      try simp only [Act.put, List.setIfInBounds_toArray, List.set_cons_zero, List.set_cons_succ]
      refine takeE (i := 6) (d := some 30) (v := ?vT7) rfl rfl (by kernel_rfl) (by kernel_rfl) (by kernel_rfl) (by kernel_rfl) (fun _ _ _ h => h) (Or.inl ⟨by rfl, ?hyT7⟩) k0 ?rstT7
      case hyT7 => (intro w hSw; (try dsimp only at hSw); skip; go_simp; (try with_reducible rfl))
      try simp only [Act.put, List.setIfInBounds_toArray, List.set_cons_zero, List.set_cons_succ]
      refine takeE (i := 7) (d := some 31) (v := ?vT8) rfl rfl (by kernel_rfl) (by kernel_rfl) (by kernel_rfl) (by kernel_rfl) (fun _ _ _ h => h) (Or.inl ⟨by rfl, ?hyT8⟩) k0 ?rstT8
      case hyT8 => (intro w hSw; (try dsimp only at hSw); skip; go_simp; (try with_reducible rfl))
      try simp only [Act.put, List.setIfInBounds_toArray, List.set_cons_zero, List.set_cons_succ]
      refine takeE (i := 8) (d := some 32) (v := ?vT9) rfl rfl (by kernel_rfl) (by kernel_rfl) (by kernel_rfl) (by kernel_rfl) (fun _ _ _ h => h) (Or.inl ⟨by rfl, ?hyT9⟩) k0 ?rstT9
      case hyT9 => (intro w hSw; (try dsimp only at hSw); skip; go_simp; (try with_reducible rfl))
      try simp only [Act.put, List.setIfInBounds_toArray, List.set_cons_zero, List.set_cons_succ]
      refine oneE (i := 9) (by kernel_rfl) rfl (fun K hK => ?_)
      go_simp
      refine hK.out _ _ ?hS10 ?rest10
      case hS10 => exact fun _ => k1
      clear hK K
      try simp only [Act.put, List.setIfInBounds_toArray, List.set_cons_zero, List.set_cons_succ]
      refine oneE (i := 10) (by kernel_rfl) rfl (fun K hK => ?_)
      rw [if_pos (by rfl)]
      refine wp_append_hr (.tmp 30) (.tmp 33) 34 (some 34) rfl rfl _ _ rfl rfl hap1 ?_
      refine hK.out _ _ ?hS11 ?rest11
      case hS11 => exact fun _ => k2
      clear hK K
      try simp only [Act.put, List.setIfInBounds_toArray, List.set_cons_zero, List.set_cons_succ]
      refine oneE (i := 11) (by kernel_rfl) rfl (fun K hK => ?_)
      go_simp
      refine hK.out _ _ ?hS12 ?rest12
      case hS12 => exact fun _ => k3
      clear hK K
      try simp only [Act.put, List.setIfInBounds_toArray, List.set_cons_zero, List.set_cons_succ]
      refine oneE (i := 12) (by kernel_rfl) rfl (fun K hK => ?_)
      rw [if_pos (by rfl)]
      refine wp_append_hr (.tmp 28) (.tmp 35) 57 (some 36) rfl rfl _ _ rfl rfl hap2 ?_
      refine hK.out _ _ ?hS13 ?rest13
      case hS13 => exact fun _ => k4
      clear hK K
      try simp only [Act.put, List.setIfInBounds_toArray, List.set_cons_zero, List.set_cons_succ]
      refine oneE (i := 13) (by kernel_rfl) rfl (fun K hK => ?_)
      go_simp
      refine hK.out _ _ ?hS14 ?rest14
      case hS14 => exact fun e => absurd e (by decide)
      clear hK K
      try simp only [Act.put, List.setIfInBounds_toArray, List.set_cons_zero, List.set_cons_succ]
      refine oneE (i := 14) (by kernel_rfl) rfl (fun K hK => ?_)
      go_simp
      refine hK.out _ _ ?hS15 ?rest15
      case hS15 => exact fun e => absurd e (by decide)
      clear hK K
      try simp only [Act.put, List.setIfInBounds_toArray, List.set_cons_zero, List.set_cons_succ]
      refine oneE (i := 15) (by kernel_rfl) rfl (fun K hK => ?_)
      go_simp
      refine hK.out _ _ ?hS16 ?rest16
      case hS16 => exact fun e => absurd e (by decide)
      clear hK K
      try simp only [Act.put, List.setIfInBounds_toArray, List.set_cons_zero, List.set_cons_succ]
      refine doneE (by kernel_rfl) ?_ _
      go_wp2_with fail
      refine wp_region_E (S := (fun w => w.cell? ⟨h, 1, none⟩ = some (.slice a2 ng c2) ∧ (convert 34 9 (.slice a i cap)).run Try.prog w = .ok (.string s1) w)) (E := [16, 17, 18]) (by kernel_rfl) ?_
      refine takeE (i := 0) (d := some 39) (v := ?vT17) rfl rfl (by kernel_rfl) (by kernel_rfl) (by kernel_rfl) (by kernel_rfl) (fun _ _ _ h => h) (Or.inl ⟨by rfl, ?hyT17⟩) j0 ?rstT17
      case hyT17 => (intro w hSw; (try dsimp only at hSw); obtain ⟨y0, y1⟩ := hSw; go_simp; (try with_reducible rfl))
      try simp only [Act.put, List.setIfInBounds_toArray, List.set_cons_zero, List.set_cons_succ]
      refine takeE (i := 1) (d := some 40) (v := ?vT18) rfl rfl (by kernel_rfl) (by kernel_rfl) (by kernel_rfl) (by kernel_rfl) (fun _ _ _ h => h) (Or.inl ⟨by rfl, ?hyT18⟩) j0 ?rstT18
      case hyT18 => (intro w hSw; (try dsimp only at hSw); obtain ⟨y0, y1⟩ := hSw; go_simp; (try with_reducible rfl))
      try simp only [Act.put, List.setIfInBounds_toArray, List.set_cons_zero, List.set_cons_succ]
      refine takeE (i := 2) (d := some 41) (v := ?vT19) rfl rfl (by kernel_rfl) (by kernel_rfl) (by kernel_rfl) (by kernel_rfl) (fun _ _ _ h => h) (Or.inl ⟨by rfl, ?hyT19⟩) j0 ?rstT19
      case hyT19 => (intro w hSw; (try dsimp only at hSw); obtain ⟨y0, y1⟩ := hSw; go_simp; (try with_reducible rfl))
      try simp only [Act.put, List.setIfInBounds_toArray, List.set_cons_zero, List.set_cons_succ]
      refine takeE (i := 3) (d := some 42) (v := ?vT20) rfl rfl (by kernel_rfl) (by kernel_rfl) (by kernel_rfl) (by kernel_rfl) (fun _ _ _ h => h) (Or.inl ⟨by rfl, ?hyT20⟩) j0 ?rstT20
      case hyT20 => (intro w hSw; (try dsimp only at hSw); obtain ⟨y0, y1⟩ := hSw; go_simp; (try with_reducible rfl))
      try simp only [Act.put, List.setIfInBounds_toArray, List.set_cons_zero, List.set_cons_succ]
      refine takeE (i := 4) (d := some 43) (v := ?vT21) rfl rfl (by kernel_rfl) (by kernel_rfl) (by kernel_rfl) (by kernel_rfl) (fun _ _ _ h => h) (Or.inl ⟨by rfl, ?hyT21⟩) j0 ?rstT21
      case hyT21 => (intro w hSw; (try dsimp only at hSw); obtain ⟨y0, y1⟩ := hSw; go_simp; (try with_reducible rfl))
      try simp only [Act.put, List.setIfInBounds_toArray, List.set_cons_zero, List.set_cons_succ]
      refine takeE (i := 5) (d := some 44) (v := ?vT22) rfl rfl (by kernel_rfl) (by kernel_rfl) (by kernel_rfl) (by kernel_rfl) (fun _ _ _ h => h) (Or.inl ⟨by rfl, ?hyT22⟩) j0 ?rstT22
      case hyT22 => (intro w hSw; (try dsimp only at hSw); obtain ⟨y0, y1⟩ := hSw; go_simp; (try with_reducible rfl))
      try simp only [Act.put, List.setIfInBounds_toArray, List.set_cons_zero, List.set_cons_succ]
      refine takeE (i := 6) (d := some 45) (v := ?vT23) rfl rfl (by kernel_rfl) (by kernel_rfl) (by kernel_rfl) (by kernel_rfl) (fun _ _ _ h => h) (Or.inl ⟨by rfl, ?hyT23⟩) j0 ?rstT23
      case hyT23 => (intro w hSw; (try dsimp only at hSw); obtain ⟨y0, y1⟩ := hSw; go_simp; (try with_reducible rfl))
      try simp only [Act.put, List.setIfInBounds_toArray, List.set_cons_zero, List.set_cons_succ]
      refine takeE (i := 7) (d := some 46) (v := ?vT24) rfl rfl (by kernel_rfl) (by kernel_rfl) (by kernel_rfl) (by kernel_rfl) (fun _ _ _ h => h) (Or.inl ⟨by rfl, ?hyT24⟩) j0 ?rstT24
      case hyT24 => (intro w hSw; (try dsimp only at hSw); obtain ⟨y0, y1⟩ := hSw; go_simp; (try with_reducible rfl))
      try simp only [Act.put, List.setIfInBounds_toArray, List.set_cons_zero, List.set_cons_succ]
      refine takeE (i := 8) (d := some 47) (v := ?vT25) rfl rfl (by kernel_rfl) (by kernel_rfl) (by kernel_rfl) (by kernel_rfl) (fun _ _ _ h => h) (Or.inl ⟨by rfl, ?hyT25⟩) j0 ?rstT25
      case hyT25 => (intro w hSw; (try dsimp only at hSw); obtain ⟨y0, y1⟩ := hSw; go_simp; (try with_reducible rfl))
      try simp only [Act.put, List.setIfInBounds_toArray, List.set_cons_zero, List.set_cons_succ]
      refine takeE (i := 9) (d := some 48) (v := ?vT26) rfl rfl (by kernel_rfl) (by kernel_rfl) (by kernel_rfl) (by kernel_rfl) (fun _ _ _ h => h) (Or.inl ⟨by rfl, ?hyT26⟩) j0 ?rstT26
      case hyT26 => (intro w hSw; (try dsimp only at hSw); obtain ⟨y0, y1⟩ := hSw; go_simp; (try with_reducible rfl))
      try simp only [Act.put, List.setIfInBounds_toArray, List.set_cons_zero, List.set_cons_succ]
      refine takeE (i := 10) (d := some 49) (v := ?vT27) rfl rfl (by kernel_rfl) (by kernel_rfl) (by kernel_rfl) (by kernel_rfl) (fun _ _ _ h => h) (Or.inl ⟨by rfl, ?hyT27⟩) j0 ?rstT27
      case hyT27 => (intro w hSw; (try dsimp only at hSw); obtain ⟨y0, y1⟩ := hSw; go_simp; (try with_reducible rfl))
      try simp only [Act.put, List.setIfInBounds_toArray, List.set_cons_zero, List.set_cons_succ]
      refine oneE (i := 11) (by kernel_rfl) rfl (fun K hK => ?_)
      go_simp
      refine hK.out _ _ ?hS28 ?rest28
      case hS28 => exact fun _ => j1
      clear hK K
      try simp only [Act.put, List.setIfInBounds_toArray, List.set_cons_zero, List.set_cons_succ]
      refine oneE (i := 12) (by kernel_rfl) rfl (fun K hK => ?_)
      go_simp
      refine hK.out _ _ ?hS29 ?rest29
      case hS29 => exact fun _ => j1
      clear hK K
      try simp only [Act.put, List.setIfInBounds_toArray, List.set_cons_zero, List.set_cons_succ]
      refine takeE (i := 13) (d := some 52) (v := ?vT30) rfl rfl (by kernel_rfl) (by kernel_rfl) (by kernel_rfl) (by kernel_rfl) (fun _ _ _ h => h) (Or.inl ⟨by rfl, ?hyT30⟩) j1 ?rstT30
      case hyT30 => (intro w hSw; (try dsimp only at hSw); skip; go_simp; (try with_reducible rfl))
      try simp only [Act.put, List.setIfInBounds_toArray, List.set_cons_zero, List.set_cons_succ]
      refine oneE (i := 14) (by kernel_rfl) rfl (fun K hK => ?_)
      go_simp
      refine hK.out _ _ ?hS31 ?rest31
      case hS31 => exact fun _ => j3
      clear hK K
      try simp only [Act.put, List.setIfInBounds_toArray, List.set_cons_zero, List.set_cons_succ]
      refine oneE (i := 15) (by kernel_rfl) rfl (fun K hK => ?_)
      rw [if_pos (by rfl)]
      refine wp_append_hr (.tmp 43) (.tmp 53) 58 (some 54) rfl rfl _ _ rfl rfl hap3 ?_
      refine hK.out _ _ ?hS32 ?rest32
      case hS32 => exact fun _ => j4
      clear hK K
      try simp only [Act.put, List.setIfInBounds_toArray, List.set_cons_zero, List.set_cons_succ]
      refine oneE (i := 16) (by kernel_rfl) rfl (fun K hK => ?_)
      go_simp
      refine hK.out _ _ ?hS33 ?rest33
      case hS33 => exact fun e => absurd e (by decide)
      clear hK K
      try simp only [Act.put, List.setIfInBounds_toArray, List.set_cons_zero, List.set_cons_succ]
      refine oneE (i := 17) (by kernel_rfl) rfl (fun K hK => ?_)
      go_simp
      refine hK.out _ _ ?hS34 ?rest34
      case hS34 => exact fun e => absurd e (by decide)
      clear hK K
      try simp only [Act.put, List.setIfInBounds_toArray, List.set_cons_zero, List.set_cons_succ]
      refine oneE (i := 18) (by kernel_rfl) rfl (fun K hK => ?_)
      go_simp
      refine hK.out _ _ ?hS35 ?rest35
      case hS35 => exact fun e => absurd e (by decide)
      clear hK K
      try simp only [Act.put, List.setIfInBounds_toArray, List.set_cons_zero, List.set_cons_succ]
      refine doneE (by kernel_rfl) ?_ _
      go_wp2_with fail
      refine bodyPost_end (v := .tuple #[]) (by simp [results, Try.results37, go_sem]) rfl ?_
      exact ⟨rfl, HP.out⟩
end Go.Proofs.Ytdmhajlhpieedaa
