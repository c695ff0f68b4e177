import Derived.Test.YtdmhajlhpieedaaLcC
/-! brought: a packet that is here. -/
namespace Go.Proofs.Ytdmhajlhpieedaa
open Go.RowKit Go.Lib Go.Shelf
set_option maxRecDepth 100000

set_option maxHeartbeats 8000000 in
theorem brought_yes {W0 W : World} {q : Nat} {v : Value} {L : List Sn} (h : Bg W0 W q (bagS L) v L) (k : Nat) (s : Sn) (hs : L[k]? = some s) (hh : s.here = true) : Calls Try.prog 20 #[.pointer (some ⟨q, 0, none⟩), v, .int .i64 (k : Int)] W fun e w' => e = .returned (.bool true) ∧ Bg W0 w' q (bagS (L.set k (hide s))) v (L.set k (hide s)) := by
  have hf : hitF (bagS L) (k : Int) = some (s.fg k) := by rw [bag_hit, hs]; simp [hh]
  have hd : delS (bagS L) (k : Int) = bagS (L.set k (hide s)) := by rw [bag_del, modify_set hide L k s hs]
  have HD : Hid (Calls Try.prog 33 #[.pointer (some ⟨q, 0, none⟩), .int .i64 (k : Int)] W fun e w' => ∃ x : X, x.fg = s.fg k ∧ e = .returned (.tuple #[x.val, .int .i64 0]) ∧ ∃ K, Bx K W0 w' q (bagS (L.set k (hide s))) v L x) := by rw [← hd]; exact h.deliver _ _ hf
  have hk0 : (L.set k (hide s))[k]? = some (hide s) := by
    have hk : k < L.length := (List.getElem?_eq_some_iff.1 hs).1
    simp [hk]
  have hf2 : hitF (bagS (L.set k (hide s))) (k : Int) = none := by rw [bag_hit, hk0]; rfl
  obtain ⟨g, c, ev, hkl, _⟩ := h.at hs
  obtain ⟨n, hn⟩ : ∃ n, L.length = n := ⟨_, rfl⟩
  have g0 : ¬ (k : Int) < 0 := by omega
  rw [hn] at ev hkl
  have g1 : ¬ (n : Int) ≤ (k : Int) := by omega
  have g2 : (k : Int) < (n : Int) := by omega
  subst ev
  have HK : Hid (L[k]? = some s ∧ s.here = true ∧ (L.set k (hide s))[k]? = some (hide s) ∧ hitF (bagS (L.set k (hide s))) (k : Int) = none ∧ L.length = n) := ⟨hs, hh, hk0, hf2, hn⟩
  obtain ⟨L2, hL2⟩ : ∃ L2, L.set k (hide s) = L2 := ⟨_, rfl⟩
  have HL2 : Hid (L.set k (hide s) = L2) := hL2
  rw [hL2] at HD ⊢
  clear h hs hh hf hd hk0 hf2 hn hL2
  go_enter Try.func20, Try.ntmps20
  go_wp2_with fail
  refine HD.out.mono ?_
  rintro e w1 ⟨x, hx, rfl, K1, h1⟩
  obtain ⟨num, fr, tt, xa, xc, bs, sp⟩ := x
  simp only [X.fg, Sn.fg, Fg.mk.injEq] at hx
  obtain ⟨rfl, rfl, rfl, rfl, rfl⟩ := hx
  simp only [X.val]
  obtain ⟨m, hm⟩ : ∃ m, s.bs.length = m := ⟨_, rfl⟩
  rw [hm]
  obtain ⟨V, hV⟩ : ∃ V, w1.alloc (.cells #[.int .i64 (num : Int), .int .i64 s.fr, .int .i64 s.tt, .slice xa m xc, .bool s.sp] 73) = V := ⟨_, rfl⟩
  have hVB : Below w1.heap.size w1 V := by rw [← hV]; exact (Below.refl _ _).alloc (Nat.le_refl _) _
  have hVx : V.heap[w1.heap.size]? = some (.cells #[.int .i64 (num : Int), .int .i64 s.fr, .int .i64 s.tt, .slice xa m xc, .bool s.sp] 73) := by rw [← hV]; exact heap_alloc_new w1 _
  have h2 := h1.below hVB
  obtain ⟨g', c', e', _, ⟨_, _, _, _, _, k5⟩, kf, kg, cur, hcur⟩ := h2.bg.at HK.out.1
  simp only [Value.slice.injEq, Option.some.injEq, Addr.mk.injEq, and_true] at e'
  obtain ⟨rfl, -, rfl⟩ := e'
  rw [HK.out.2.1] at k5
  have kf5 := kf (num * 6 + 5)
  obtain ⟨V2, hV2⟩ : ∃ V2, V.setCell ⟨g, num * 6 + 5, none⟩ (.bool false) = V2 := ⟨_, rfl⟩
  have h3 := h2.set (j := 5) (s' := hide s) HK.out.1 (by decide) (by simp [snv, hide]) hV2
  rw [HL2.out] at h3
  have hb7 : w1.heap.size ≠ g := fun e => by rw [← e, hVx] at hcur; simp at hcur
  have hV2x : V2.heap[w1.heap.size]? = some (.cells #[.int .i64 (num : Int), .int .i64 s.fr, .int .i64 s.tt, .slice xa m xc, .bool s.sp] 73) := by
    rw [← hV2]
    exact (Chg.set (D := fun k => k = g) (q := g) _ _ _ rfl).block hVx hb7
  have HD2 : Hid (Calls Try.prog 33 #[.pointer (some ⟨q, 0, none⟩), .int .i64 (num : Int)] V2 fun e w' => e = .returned (.tuple #[.agg #[.int .i64 0, .int .i64 0, .int .i64 0, .slice none 0 0, .bool false], .int .i64 160]) ∧ (∃ K', Bx K' W0 w' q (bagS L2) (.slice (some ⟨g, 0, none⟩) n c) L2 ⟨num, s.fr, s.tt, xa, xc, s.bs, s.sp⟩) ∧ w'.heap[w1.heap.size]? = some (.cells #[.int .i64 (num : Int), .int .i64 s.fr, .int .i64 s.tt, .slice xa m xc, .bool s.sp] 73)) := by
    have hno := HK.out.2.2.2.1
    rw [HL2.out] at hno
    refine (h3.deliverNo (num : Int) hno).mono ?_
    rintro e w' ⟨e1, e2, e3⟩
    exact ⟨e1, e2, e3.block hV2x (fun e => by have := (h1.st.new _ e).2; omega)⟩
  have HM : Hid (s.bs.length = m) := hm
  clear h1 hVB hVx h2 kf kg hcur h3 hb7 hV2x hm HD
  go_wp2_with fail
  refine HD2.out.mono ?_
  rintro e w2 ⟨rfl, ⟨K2, h4⟩, hx4⟩
  have hVB2 : Below w2.heap.size w2 (w2.alloc (.cells #[.int .i64 0, .int .i64 0, .int .i64 0, .slice none 0 0, .bool false] 73)) := (Below.refl _ _).alloc (Nat.le_refl _) _
  have h5 := h4.below hVB2
  have hx5 := (hVB2.block _ (Array.getElem?_eq_some_iff.1 hx4).1).trans hx4
  have hk2 := HK.out.2.2.1
  rw [HL2.out] at hk2
  obtain ⟨g', c', e', _, ⟨j0, j1, _, j3, j4, _⟩, _⟩ := h5.bg.at hk2
  simp only [Value.slice.injEq, Option.some.injEq, Addr.mk.injEq, and_true] at e'
  obtain ⟨rfl, -, rfl⟩ := e'
  obtain ⟨i0, i1, i2, i3, i4⟩ := box5 hx5
  have hRw : Rw byU 1 (w2.alloc (.cells #[.int .i64 0, .int .i64 0, .int .i64 0, .slice none 0 0, .bool false] 73)) xa m xc s.bs := by
    have := h5.xown.rw_ layU
    rw [HM.out] at this
    exact this
  obtain ⟨b7, hb7⟩ : ∃ b7, w1.heap.size = b7 := ⟨_, rfl⟩
  rw [hb7] at i0 i1 i2 i3 i4
  obtain ⟨k, hk⟩ : ∃ k, num = k := ⟨_, rfl⟩
  rw [hk] at i0 j0 j1 j3 j4 g0 g1 g2 hkl
  have HHS : Hid ((fun w => (w.cell? ⟨b7, 0, none⟩ = some (.int .i64 (k : Int)) ∧ w.cell? ⟨b7, 1, none⟩ = some (.int .i64 s.fr) ∧ w.cell? ⟨b7, 2, none⟩ = some (.int .i64 s.tt) ∧ w.cell? ⟨b7, 3, none⟩ = some (.slice xa m xc) ∧ w.cell? ⟨b7, 4, none⟩ = some (.bool s.sp)) ∧ (w.cell? ⟨g, k * 6, none⟩ = some (.int .i64 s.fr) ∧ w.cell? ⟨g, k * 6 + 1, none⟩ = some (.int .i64 s.tt) ∧ w.cell? ⟨g, k * 6 + 3, none⟩ = some (.string ⟨s.bs.toArray⟩) ∧ w.cell? ⟨g, k * 6 + 4, none⟩ = some (.bool s.sp)) ∧ Rw byU 1 w xa m xc s.bs) (w2.alloc (.cells #[.int .i64 0, .int .i64 0, .int .i64 0, .slice none 0 0, .bool false] 73)).drew) := ⟨⟨i0, i1, i2, i3, i4⟩, ⟨j0, j1, j3, j4⟩, hRw.below ((Below.refl _ (w2.alloc (.cells #[.int .i64 0, .int .i64 0, .int .i64 0, .slice none 0 0, .bool false] 73))).drew)⟩
  have HB5 : Hid (Bg W0 (w2.alloc (.cells #[.int .i64 0, .int .i64 0, .int .i64 0, .slice none 0 0, .bool false] 73)).drew q (bagS L2) (.slice (some ⟨g, 0, none⟩) n c) L2) := h5.bg.below ((Below.refl _ (w2.alloc (.cells #[.int .i64 0, .int .i64 0, .int .i64 0, .slice none 0 0, .bool false] 73))).drew)
  have b0 : ((k : Int) == (k : Int)) = true := by simp
  have b1 : (s.fr == s.fr) = true := by simp
  have b2 : (s.tt == s.tt) = true := by simp
  have b3 : ((⟨s.bs.toArray⟩ : ByteArray) == ⟨s.bs.toArray⟩) = true := (MapKept.bytes_beq _ _).2 rfl
  have b4 : (s.sp == s.sp) = true := by simp
  clear h4 hx4 hVB2 h5 hx5 hk2 hRw i0 i1 i2 i3 i4 j0 j1 j3 j4 HK HL2 HM HD2
  go_wp2_with fail
  refine wp_region_held_drew (S := (fun w => (w.cell? ⟨b7, 0, none⟩ = some (.int .i64 (k : Int)) ∧ w.cell? ⟨b7, 1, none⟩ = some (.int .i64 s.fr) ∧ w.cell? ⟨b7, 2, none⟩ = some (.int .i64 s.tt) ∧ w.cell? ⟨b7, 3, none⟩ = some (.slice xa m xc) ∧ w.cell? ⟨b7, 4, none⟩ = some (.bool s.sp)) ∧ (w.cell? ⟨g, k * 6, none⟩ = some (.int .i64 s.fr) ∧ w.cell? ⟨g, k * 6 + 1, none⟩ = some (.int .i64 s.tt) ∧ w.cell? ⟨g, k * 6 + 3, none⟩ = some (.string ⟨s.bs.toArray⟩) ∧ w.cell? ⟨g, k * 6 + 4, none⟩ = some (.bool s.sp)) ∧ Rw byU 1 w xa m xc s.bs)) (by kernel_rfl) ?hSx (fun hHeld => ?restx)
  case hSx => exact HHS.out
  refine takeD (i := 0) (d := some 52) (v := ?vT1) rfl rfl (by kernel_rfl) (by kernel_rfl) (by kernel_rfl) (fun _ _ _ h => h) (Or.inl ⟨by rfl, ?hyT1⟩) (by assumption) ?rstT1
  case hyT1 => (intro w hSw; (try dsimp only at hSw); obtain ⟨⟨s0, s1, s2, s3, s4⟩, ⟨s5, s6, s7, s8⟩, s9⟩ := hSw; have s10 := conv_bytes s9; go_simp; (try with_reducible rfl))
  try simp only [Act.put, List.setIfInBounds_toArray, List.set_cons_zero, List.set_cons_succ]
  refine takeD (i := 1) (d := some 53) (v := ?vT2) rfl rfl (by kernel_rfl) (by kernel_rfl) (by kernel_rfl) (fun _ _ _ h => h) (Or.inl ⟨by rfl, ?hyT2⟩) (by assumption) ?rstT2
  case hyT2 => (intro w hSw; (try dsimp only at hSw); obtain ⟨⟨s0, s1, s2, s3, s4⟩, ⟨s5, s6, s7, s8⟩, s9⟩ := hSw; have s10 := conv_bytes s9; go_simp; (try with_reducible rfl))
  try simp only [Act.put, List.setIfInBounds_toArray, List.set_cons_zero, List.set_cons_succ]
  refine takeD (i := 2) (d := some 54) (v := ?vT3) rfl rfl (by kernel_rfl) (by kernel_rfl) (by kernel_rfl) (fun _ _ _ h => h) (Or.inl ⟨by rfl, ?hyT3⟩) (by assumption) ?rstT3
  case hyT3 => (intro w hSw; (try dsimp only at hSw); obtain ⟨⟨s0, s1, s2, s3, s4⟩, ⟨s5, s6, s7, s8⟩, s9⟩ := hSw; have s10 := conv_bytes s9; go_simp; (try with_reducible rfl))
  try simp only [Act.put, List.setIfInBounds_toArray, List.set_cons_zero, List.set_cons_succ]
  refine takeD (i := 3) (d := some 55) (v := ?vT4) rfl rfl (by kernel_rfl) (by kernel_rfl) (by kernel_rfl) (fun _ _ _ h => h) (Or.inl ⟨by rfl, ?hyT4⟩) (by assumption) ?rstT4
  case hyT4 => (intro w hSw; (try dsimp only at hSw); obtain ⟨⟨s0, s1, s2, s3, s4⟩, ⟨s5, s6, s7, s8⟩, s9⟩ := hSw; have s10 := conv_bytes s9; go_simp; (try with_reducible rfl))
  try simp only [Act.put, List.setIfInBounds_toArray, List.set_cons_zero, List.set_cons_succ]
  refine takeD (i := 4) (d := some 56) (v := ?vT5) rfl rfl (by kernel_rfl) (by kernel_rfl) (by kernel_rfl) (fun _ _ _ h => h) (Or.inl ⟨by rfl, ?hyT5⟩) (by assumption) ?rstT5
  case hyT5 => (intro w hSw; (try dsimp only at hSw); obtain ⟨⟨s0, s1, s2, s3, s4⟩, ⟨s5, s6, s7, s8⟩, s9⟩ := hSw; have s10 := conv_bytes s9; go_simp; (try with_reducible rfl))
  try simp only [Act.put, List.setIfInBounds_toArray, List.set_cons_zero, List.set_cons_succ]
  refine takeD (i := 5) (d := some 57) (v := ?vT6) rfl rfl (by kernel_rfl) (by kernel_rfl) (by kernel_rfl) (fun _ _ _ h => h) (Or.inl ⟨by rfl, ?hyT6⟩) (by assumption) ?rstT6
  case hyT6 => (intro w hSw; (try dsimp only at hSw); obtain ⟨⟨s0, s1, s2, s3, s4⟩, ⟨s5, s6, s7, s8⟩, s9⟩ := hSw; have s10 := conv_bytes s9; go_simp; (try with_reducible rfl))
  try simp only [Act.put, List.setIfInBounds_toArray, List.set_cons_zero, List.set_cons_succ]
  refine takeD (i := 6) (d := some 58) (v := ?vT7) rfl rfl (by kernel_rfl) (by kernel_rfl) (by kernel_rfl) (fun _ _ _ h => h) (Or.inl ⟨by rfl, ?hyT7⟩) (by assumption) ?rstT7
  case hyT7 => (intro w hSw; (try dsimp only at hSw); obtain ⟨⟨s0, s1, s2, s3, s4⟩, ⟨s5, s6, s7, s8⟩, s9⟩ := hSw; have s10 := conv_bytes s9; go_simp; (try with_reducible rfl))
  try simp only [Act.put, List.setIfInBounds_toArray, List.set_cons_zero, List.set_cons_succ]
  refine takeD (i := 7) (d := some 59) (v := ?vT8) rfl rfl (by kernel_rfl) (by kernel_rfl) (by kernel_rfl) (fun _ _ _ h => h) (Or.inl ⟨by rfl, ?hyT8⟩) (by assumption) ?rstT8
  case hyT8 => (intro w hSw; (try dsimp only at hSw); obtain ⟨⟨s0, s1, s2, s3, s4⟩, ⟨s5, s6, s7, s8⟩, s9⟩ := hSw; have s10 := conv_bytes s9; go_simp; (try with_reducible rfl))
  try simp only [Act.put, List.setIfInBounds_toArray, List.set_cons_zero, List.set_cons_succ]
  refine takeD (i := 8) (d := some 60) (v := ?vT9) rfl rfl (by kernel_rfl) (by kernel_rfl) (by kernel_rfl) (fun _ _ _ h => h) (Or.inl ⟨by rfl, ?hyT9⟩) (by assumption) ?rstT9
  case hyT9 => (intro w hSw; (try dsimp only at hSw); obtain ⟨⟨s0, s1, s2, s3, s4⟩, ⟨s5, s6, s7, s8⟩, s9⟩ := hSw; have s10 := conv_bytes s9; go_simp; (try with_reducible rfl))
  try simp only [Act.put, List.setIfInBounds_toArray, List.set_cons_zero, List.set_cons_succ]
  refine takeD (i := 9) (d := some 61) (v := ?vT10) rfl rfl (by kernel_rfl) (by kernel_rfl) (by kernel_rfl) (fun _ _ _ h => h) (Or.inl ⟨by rfl, ?hyT10⟩) (by assumption) ?rstT10
  case hyT10 => (intro w hSw; (try dsimp only at hSw); obtain ⟨⟨s0, s1, s2, s3, s4⟩, ⟨s5, s6, s7, s8⟩, s9⟩ := hSw; have s10 := conv_bytes s9; go_simp; (try with_reducible rfl))
  try simp only [Act.put, List.setIfInBounds_toArray, List.set_cons_zero, List.set_cons_succ]
  refine takeD (i := 10) (d := some 62) (v := ?vT11) rfl rfl (by kernel_rfl) (by kernel_rfl) (by kernel_rfl) (fun _ _ _ h => h) (Or.inl ⟨by rfl, ?hyT11⟩) (by assumption) ?rstT11
  case hyT11 => (intro w hSw; (try dsimp only at hSw); obtain ⟨⟨s0, s1, s2, s3, s4⟩, ⟨s5, s6, s7, s8⟩, s9⟩ := hSw; have s10 := conv_bytes s9; go_simp; (try with_reducible rfl))
  try simp only [Act.put, List.setIfInBounds_toArray, List.set_cons_zero, List.set_cons_succ]
  refine takeD (i := 11) (d := some 63) (v := ?vT12) rfl rfl (by kernel_rfl) (by kernel_rfl) (by kernel_rfl) (fun _ _ _ h => h) (Or.inl ⟨by rfl, ?hyT12⟩) (by assumption) ?rstT12
  case hyT12 => (intro w hSw; (try dsimp only at hSw); obtain ⟨⟨s0, s1, s2, s3, s4⟩, ⟨s5, s6, s7, s8⟩, s9⟩ := hSw; have s10 := conv_bytes s9; go_simp; (try with_reducible rfl))
  try simp only [Act.put, List.setIfInBounds_toArray, List.set_cons_zero, List.set_cons_succ]
  refine takeD (i := 12) (d := some 64) (v := ?vT13) rfl rfl (by kernel_rfl) (by kernel_rfl) (by kernel_rfl) (fun _ _ _ h => h) (Or.inl ⟨by rfl, ?hyT13⟩) (by assumption) ?rstT13
  case hyT13 => (intro w hSw; (try dsimp only at hSw); obtain ⟨⟨s0, s1, s2, s3, s4⟩, ⟨s5, s6, s7, s8⟩, s9⟩ := hSw; have s10 := conv_bytes s9; go_simp; (try with_reducible rfl))
  try simp only [Act.put, List.setIfInBounds_toArray, List.set_cons_zero, List.set_cons_succ]
  refine takeD (i := 13) (d := some 65) (v := ?vT14) rfl rfl (by kernel_rfl) (by kernel_rfl) (by kernel_rfl) (fun _ _ _ h => h) (Or.inl ⟨by rfl, ?hyT14⟩) (by assumption) ?rstT14
  case hyT14 => (intro w hSw; (try dsimp only at hSw); obtain ⟨⟨s0, s1, s2, s3, s4⟩, ⟨s5, s6, s7, s8⟩, s9⟩ := hSw; have s10 := conv_bytes s9; go_simp; (try with_reducible rfl))
  try simp only [Act.put, List.setIfInBounds_toArray, List.set_cons_zero, List.set_cons_succ]
  refine takeD (i := 14) (d := some 66) (v := ?vT15) rfl rfl (by kernel_rfl) (by kernel_rfl) (by kernel_rfl) (fun _ _ _ h => h) (Or.inl ⟨by rfl, ?hyT15⟩) (by assumption) ?rstT15
  case hyT15 => (intro w hSw; (try dsimp only at hSw); obtain ⟨⟨s0, s1, s2, s3, s4⟩, ⟨s5, s6, s7, s8⟩, s9⟩ := hSw; have s10 := conv_bytes s9; go_simp; (try with_reducible rfl))
  try simp only [Act.put, List.setIfInBounds_toArray, List.set_cons_zero, List.set_cons_succ]
  refine takeD (i := 15) (d := some 67) (v := ?vT16) rfl rfl (by kernel_rfl) (by kernel_rfl) (by kernel_rfl) (fun _ _ _ h => h) (Or.inl ⟨by rfl, ?hyT16⟩) (by assumption) ?rstT16
  case hyT16 => (intro w hSw; (try dsimp only at hSw); obtain ⟨⟨s0, s1, s2, s3, s4⟩, ⟨s5, s6, s7, s8⟩, s9⟩ := hSw; have s10 := conv_bytes s9; go_simp; (try with_reducible rfl))
  try simp only [Act.put, List.setIfInBounds_toArray, List.set_cons_zero, List.set_cons_succ]
  refine takeD (i := 16) (d := some 68) (v := ?vT17) rfl rfl (by kernel_rfl) (by kernel_rfl) (by kernel_rfl) (fun _ _ _ h => h) (Or.inl ⟨by rfl, ?hyT17⟩) (by assumption) ?rstT17
  case hyT17 => (intro w hSw; (try dsimp only at hSw); obtain ⟨⟨s0, s1, s2, s3, s4⟩, ⟨s5, s6, s7, s8⟩, s9⟩ := hSw; have s10 := conv_bytes s9; go_simp; (try with_reducible rfl))
  try simp only [Act.put, List.setIfInBounds_toArray, List.set_cons_zero, List.set_cons_succ]
  refine takeD (i := 17) (d := some 69) (v := ?vT18) rfl rfl (by kernel_rfl) (by kernel_rfl) (by kernel_rfl) (fun _ _ _ h => h) (Or.inl ⟨by rfl, ?hyT18⟩) (by assumption) ?rstT18
  case hyT18 => (intro w hSw; (try dsimp only at hSw); obtain ⟨⟨s0, s1, s2, s3, s4⟩, ⟨s5, s6, s7, s8⟩, s9⟩ := hSw; have s10 := conv_bytes s9; go_simp; (try with_reducible rfl))
  try simp only [Act.put, List.setIfInBounds_toArray, List.set_cons_zero, List.set_cons_succ]
  refine takeD (i := 18) (d := some 70) (v := ?vT19) rfl rfl (by kernel_rfl) (by kernel_rfl) (by kernel_rfl) (fun _ _ _ h => h) (Or.inl ⟨by rfl, ?hyT19⟩) (by assumption) ?rstT19
  case hyT19 => (intro w hSw; (try dsimp only at hSw); obtain ⟨⟨s0, s1, s2, s3, s4⟩, ⟨s5, s6, s7, s8⟩, s9⟩ := hSw; have s10 := conv_bytes s9; go_simp; (try with_reducible rfl))
  try simp only [Act.put, List.setIfInBounds_toArray, List.set_cons_zero, List.set_cons_succ]
  refine takeD (i := 19) (d := some 71) (v := ?vT20) rfl rfl (by kernel_rfl) (by kernel_rfl) (by kernel_rfl) (fun _ _ _ h => h) (Or.inl ⟨by rfl, ?hyT20⟩) (by assumption) ?rstT20
  case hyT20 => (intro w hSw; (try dsimp only at hSw); obtain ⟨⟨s0, s1, s2, s3, s4⟩, ⟨s5, s6, s7, s8⟩, s9⟩ := hSw; have s10 := conv_bytes s9; go_simp; (try with_reducible rfl))
  try simp only [Act.put, List.setIfInBounds_toArray, List.set_cons_zero, List.set_cons_succ]
  refine takeD (i := 20) (d := some 72) (v := ?vT21) rfl rfl (by kernel_rfl) (by kernel_rfl) (by kernel_rfl) (fun _ _ _ h => h) (Or.inl ⟨by rfl, ?hyT21⟩) (by assumption) ?rstT21
  case hyT21 => (intro w hSw; (try dsimp only at hSw); obtain ⟨⟨s0, s1, s2, s3, s4⟩, ⟨s5, s6, s7, s8⟩, s9⟩ := hSw; have s10 := conv_bytes s9; go_simp; (try with_reducible rfl))
  try simp only [Act.put, List.setIfInBounds_toArray, List.set_cons_zero, List.set_cons_succ]
  refine takeD (i := 21) (d := some 73) (v := ?vT22) rfl rfl (by kernel_rfl) (by kernel_rfl) (by kernel_rfl) (fun _ _ _ h => h) (Or.inl ⟨by rfl, ?hyT22⟩) (by assumption) ?rstT22
  case hyT22 => (intro w hSw; (try dsimp only at hSw); obtain ⟨⟨s0, s1, s2, s3, s4⟩, ⟨s5, s6, s7, s8⟩, s9⟩ := hSw; have s10 := conv_bytes s9; go_simp; (try with_reducible rfl))
  try simp only [Act.put, List.setIfInBounds_toArray, List.set_cons_zero, List.set_cons_succ]
  refine takeD (i := 22) (d := some 74) (v := ?vT23) rfl rfl (by kernel_rfl) (by kernel_rfl) (by kernel_rfl) (fun _ _ _ h => h) (Or.inl ⟨by rfl, ?hyT23⟩) (by assumption) ?rstT23
  case hyT23 => (intro w hSw; (try dsimp only at hSw); obtain ⟨⟨s0, s1, s2, s3, s4⟩, ⟨s5, s6, s7, s8⟩, s9⟩ := hSw; have s10 := conv_bytes s9; go_simp; (try with_reducible rfl))
  try simp only [Act.put, List.setIfInBounds_toArray, List.set_cons_zero, List.set_cons_succ]
  refine takeD (i := 23) (d := some 75) (v := ?vT24) rfl rfl (by kernel_rfl) (by kernel_rfl) (by kernel_rfl) (fun _ _ _ h => h) (Or.inl ⟨by rfl, ?hyT24⟩) (by assumption) ?rstT24
  case hyT24 => (intro w hSw; (try dsimp only at hSw); obtain ⟨⟨s0, s1, s2, s3, s4⟩, ⟨s5, s6, s7, s8⟩, s9⟩ := hSw; have s10 := conv_bytes s9; go_simp; (try with_reducible rfl))
  try simp only [Act.put, List.setIfInBounds_toArray, List.set_cons_zero, List.set_cons_succ]
  refine takeD (i := 24) (d := some 76) (v := ?vT25) rfl rfl (by kernel_rfl) (by kernel_rfl) (by kernel_rfl) (fun _ _ _ h => h) (Or.inl ⟨by rfl, ?hyT25⟩) (by assumption) ?rstT25
  case hyT25 => (intro w hSw; (try dsimp only at hSw); obtain ⟨⟨s0, s1, s2, s3, s4⟩, ⟨s5, s6, s7, s8⟩, s9⟩ := hSw; have s10 := conv_bytes s9; go_simp; (try with_reducible rfl))
  try simp only [Act.put, List.setIfInBounds_toArray, List.set_cons_zero, List.set_cons_succ]
  refine takeD (i := 25) (d := some 77) (v := ?vT26) rfl rfl (by kernel_rfl) (by kernel_rfl) (by kernel_rfl) (fun _ _ _ h => h) (Or.inl ⟨by rfl, ?hyT26⟩) (by assumption) ?rstT26
  case hyT26 => (intro w hSw; (try dsimp only at hSw); obtain ⟨⟨s0, s1, s2, s3, s4⟩, ⟨s5, s6, s7, s8⟩, s9⟩ := hSw; have s10 := conv_bytes s9; go_simp; (try with_reducible rfl))
  try simp only [Act.put, List.setIfInBounds_toArray, List.set_cons_zero, List.set_cons_succ]
  refine takeD (i := 26) (d := some 78) (v := ?vT27) rfl rfl (by kernel_rfl) (by kernel_rfl) (by kernel_rfl) (fun _ _ _ h => h) (Or.inl ⟨by rfl, ?hyT27⟩) (by assumption) ?rstT27
  case hyT27 => (intro w hSw; (try dsimp only at hSw); obtain ⟨⟨s0, s1, s2, s3, s4⟩, ⟨s5, s6, s7, s8⟩, s9⟩ := hSw; have s10 := conv_bytes s9; go_simp; (try with_reducible rfl))
  try simp only [Act.put, List.setIfInBounds_toArray, List.set_cons_zero, List.set_cons_succ]
  refine takeD (i := 27) (d := some 79) (v := ?vT28) rfl rfl (by kernel_rfl) (by kernel_rfl) (by kernel_rfl) (fun _ _ _ h => h) (Or.inl ⟨by rfl, ?hyT28⟩) (by assumption) ?rstT28
  case hyT28 => (intro w hSw; (try dsimp only at hSw); obtain ⟨⟨s0, s1, s2, s3, s4⟩, ⟨s5, s6, s7, s8⟩, s9⟩ := hSw; have s10 := conv_bytes s9; go_simp; (try with_reducible rfl))
  try simp only [Act.put, List.setIfInBounds_toArray, List.set_cons_zero, List.set_cons_succ]
  refine takeD (i := 28) (d := some 80) (v := ?vT29) rfl rfl (by kernel_rfl) (by kernel_rfl) (by kernel_rfl) (fun _ _ _ h => h) (Or.inl ⟨by rfl, ?hyT29⟩) (by assumption) ?rstT29
  case hyT29 => (intro w hSw; (try dsimp only at hSw); obtain ⟨⟨s0, s1, s2, s3, s4⟩, ⟨s5, s6, s7, s8⟩, s9⟩ := hSw; have s10 := conv_bytes s9; go_simp; (try with_reducible rfl))
  try simp only [Act.put, List.setIfInBounds_toArray, List.set_cons_zero, List.set_cons_succ]
  refine takeD (i := 29) (d := some 81) (v := ?vT30) rfl rfl (by kernel_rfl) (by kernel_rfl) (by kernel_rfl) (fun _ _ _ h => h) (Or.inl ⟨by rfl, ?hyT30⟩) (by assumption) ?rstT30
  case hyT30 => (intro w hSw; (try dsimp only at hSw); obtain ⟨⟨s0, s1, s2, s3, s4⟩, ⟨s5, s6, s7, s8⟩, s9⟩ := hSw; have s10 := conv_bytes s9; go_simp; (try with_reducible rfl))
  try simp only [Act.put, List.setIfInBounds_toArray, List.set_cons_zero, List.set_cons_succ]
  refine takeD (i := 30) (d := some 82) (v := ?vT31) rfl rfl (by kernel_rfl) (by kernel_rfl) (by kernel_rfl) (fun _ _ _ h => h) (Or.inl ⟨by rfl, ?hyT31⟩) (by assumption) ?rstT31
  case hyT31 => (intro w hSw; (try dsimp only at hSw); obtain ⟨⟨s0, s1, s2, s3, s4⟩, ⟨s5, s6, s7, s8⟩, s9⟩ := hSw; have s10 := conv_bytes s9; go_simp; (try with_reducible rfl))
  try simp only [Act.put, List.setIfInBounds_toArray, List.set_cons_zero, List.set_cons_succ]
  refine takeD (i := 31) (d := some 83) (v := ?vT32) rfl rfl (by kernel_rfl) (by kernel_rfl) (by kernel_rfl) (fun _ _ _ h => h) (Or.inl ⟨by rfl, ?hyT32⟩) (by assumption) ?rstT32
  case hyT32 => (intro w hSw; (try dsimp only at hSw); obtain ⟨⟨s0, s1, s2, s3, s4⟩, ⟨s5, s6, s7, s8⟩, s9⟩ := hSw; have s10 := conv_bytes s9; go_simp; (try with_reducible rfl))
  try simp only [Act.put, List.setIfInBounds_toArray, List.set_cons_zero, List.set_cons_succ]
  refine takeD (i := 32) (d := some 84) (v := ?vT33) rfl rfl (by kernel_rfl) (by kernel_rfl) (by kernel_rfl) (fun _ _ _ h => h) (Or.inl ⟨by rfl, ?hyT33⟩) (by assumption) ?rstT33
  case hyT33 => (intro w hSw; (try dsimp only at hSw); obtain ⟨⟨s0, s1, s2, s3, s4⟩, ⟨s5, s6, s7, s8⟩, s9⟩ := hSw; have s10 := conv_bytes s9; go_simp; (try with_reducible rfl))
  try simp only [Act.put, List.setIfInBounds_toArray, List.set_cons_zero, List.set_cons_succ]
  refine takeD (i := 33) (d := some 85) (v := ?vT34) rfl rfl (by kernel_rfl) (by kernel_rfl) (by kernel_rfl) (fun _ _ _ h => h) (Or.inl ⟨by rfl, ?hyT34⟩) (by assumption) ?rstT34
  case hyT34 => (intro w hSw; (try dsimp only at hSw); obtain ⟨⟨s0, s1, s2, s3, s4⟩, ⟨s5, s6, s7, s8⟩, s9⟩ := hSw; have s10 := conv_bytes s9; go_simp; (try with_reducible rfl))
  try simp only [Act.put, List.setIfInBounds_toArray, List.set_cons_zero, List.set_cons_succ]
  refine takeD (i := 34) (d := some 86) (v := ?vT35) rfl rfl (by kernel_rfl) (by kernel_rfl) (by kernel_rfl) (fun _ _ _ h => h) (Or.inl ⟨by rfl, ?hyT35⟩) (by assumption) ?rstT35
  case hyT35 => (intro w hSw; (try dsimp only at hSw); obtain ⟨⟨s0, s1, s2, s3, s4⟩, ⟨s5, s6, s7, s8⟩, s9⟩ := hSw; have s10 := conv_bytes s9; go_simp; (try with_reducible rfl))
  try simp only [Act.put, List.setIfInBounds_toArray, List.set_cons_zero, List.set_cons_succ]
  refine takeD (i := 35) (d := some 87) (v := ?vT36) rfl rfl (by kernel_rfl) (by kernel_rfl) (by kernel_rfl) (fun _ _ _ h => h) (Or.inl ⟨by rfl, ?hyT36⟩) (by assumption) ?rstT36
  case hyT36 => (intro w hSw; (try dsimp only at hSw); obtain ⟨⟨s0, s1, s2, s3, s4⟩, ⟨s5, s6, s7, s8⟩, s9⟩ := hSw; have s10 := conv_bytes s9; go_simp; (try with_reducible rfl))
  try simp only [Act.put, List.setIfInBounds_toArray, List.set_cons_zero, List.set_cons_succ]
  refine takeD (i := 36) (d := some 88) (v := ?vT37) rfl rfl (by kernel_rfl) (by kernel_rfl) (by kernel_rfl) (fun _ _ _ h => h) (Or.inl ⟨by rfl, ?hyT37⟩) (by assumption) ?rstT37
  case hyT37 => (intro w hSw; (try dsimp only at hSw); obtain ⟨⟨s0, s1, s2, s3, s4⟩, ⟨s5, s6, s7, s8⟩, s9⟩ := hSw; have s10 := conv_bytes s9; go_simp; (try with_reducible rfl))
  try simp only [Act.put, List.setIfInBounds_toArray, List.set_cons_zero, List.set_cons_succ]
  refine takeD (i := 37) (d := some 89) (v := ?vT38) rfl rfl (by kernel_rfl) (by kernel_rfl) (by kernel_rfl) (fun _ _ _ h => h) (Or.inl ⟨by rfl, ?hyT38⟩) (by assumption) ?rstT38
  case hyT38 => (intro w hSw; (try dsimp only at hSw); obtain ⟨⟨s0, s1, s2, s3, s4⟩, ⟨s5, s6, s7, s8⟩, s9⟩ := hSw; have s10 := conv_bytes s9; go_simp; (try with_reducible rfl))
  try simp only [Act.put, List.setIfInBounds_toArray, List.set_cons_zero, List.set_cons_succ]
  refine takeD (i := 38) (d := some 90) (v := ?vT39) rfl rfl (by kernel_rfl) (by kernel_rfl) (by kernel_rfl) (fun _ _ _ h => h) (Or.inl ⟨by rfl, ?hyT39⟩) (by assumption) ?rstT39
  case hyT39 => (intro w hSw; (try dsimp only at hSw); obtain ⟨⟨s0, s1, s2, s3, s4⟩, ⟨s5, s6, s7, s8⟩, s9⟩ := hSw; have s10 := conv_bytes s9; go_simp; (try with_reducible rfl))
  try simp only [Act.put, List.setIfInBounds_toArray, List.set_cons_zero, List.set_cons_succ]
  refine takeD (i := 39) (d := some 91) (v := ?vT40) rfl rfl (by kernel_rfl) (by kernel_rfl) (by kernel_rfl) (fun _ _ _ h => h) (Or.inl ⟨by rfl, ?hyT40⟩) (by assumption) ?rstT40
  case hyT40 => (intro w hSw; (try dsimp only at hSw); obtain ⟨⟨s0, s1, s2, s3, s4⟩, ⟨s5, s6, s7, s8⟩, s9⟩ := hSw; have s10 := conv_bytes s9; go_simp; (try with_reducible rfl))
  try simp only [Act.put, List.setIfInBounds_toArray, List.set_cons_zero, List.set_cons_succ]
  refine takeD (i := 40) (d := some 92) (v := ?vT41) rfl rfl (by kernel_rfl) (by kernel_rfl) (by kernel_rfl) (fun _ _ _ h => h) (Or.inl ⟨by rfl, ?hyT41⟩) (by assumption) ?rstT41
  case hyT41 => (intro w hSw; (try dsimp only at hSw); obtain ⟨⟨s0, s1, s2, s3, s4⟩, ⟨s5, s6, s7, s8⟩, s9⟩ := hSw; have s10 := conv_bytes s9; go_simp; (try with_reducible rfl))
  try simp only [Act.put, List.setIfInBounds_toArray, List.set_cons_zero, List.set_cons_succ]
  refine takeD (i := 41) (d := some 93) (v := ?vT42) rfl rfl (by kernel_rfl) (by kernel_rfl) (by kernel_rfl) (fun _ _ _ h => h) (Or.inl ⟨by rfl, ?hyT42⟩) (by assumption) ?rstT42
  case hyT42 => (intro w hSw; (try dsimp only at hSw); obtain ⟨⟨s0, s1, s2, s3, s4⟩, ⟨s5, s6, s7, s8⟩, s9⟩ := hSw; have s10 := conv_bytes s9; go_simp; (try with_reducible rfl))
  try simp only [Act.put, List.setIfInBounds_toArray, List.set_cons_zero, List.set_cons_succ]
  refine takeD (i := 42) (d := some 94) (v := ?vT43) rfl rfl (by kernel_rfl) (by kernel_rfl) (by kernel_rfl) (fun _ _ _ h => h) (Or.inl ⟨by rfl, ?hyT43⟩) (by assumption) ?rstT43
  case hyT43 => (intro w hSw; (try dsimp only at hSw); obtain ⟨⟨s0, s1, s2, s3, s4⟩, ⟨s5, s6, s7, s8⟩, s9⟩ := hSw; have s10 := conv_bytes s9; go_simp; (try with_reducible rfl))
  try simp only [Act.put, List.setIfInBounds_toArray, List.set_cons_zero, List.set_cons_succ]
  refine takeD (i := 43) (d := some 95) (v := ?vT44) rfl rfl (by kernel_rfl) (by kernel_rfl) (by kernel_rfl) (fun _ _ _ h => h) (Or.inl ⟨by rfl, ?hyT44⟩) (by assumption) ?rstT44
  case hyT44 => (intro w hSw; (try dsimp only at hSw); obtain ⟨⟨s0, s1, s2, s3, s4⟩, ⟨s5, s6, s7, s8⟩, s9⟩ := hSw; have s10 := conv_bytes s9; go_simp; (try with_reducible rfl))
  try simp only [Act.put, List.setIfInBounds_toArray, List.set_cons_zero, List.set_cons_succ]
  refine takeD (i := 44) (d := some 96) (v := ?vT45) rfl rfl (by kernel_rfl) (by kernel_rfl) (by kernel_rfl) (fun _ _ _ h => h) (Or.inl ⟨by rfl, ?hyT45⟩) (by assumption) ?rstT45
  case hyT45 => (intro w hSw; (try dsimp only at hSw); obtain ⟨⟨s0, s1, s2, s3, s4⟩, ⟨s5, s6, s7, s8⟩, s9⟩ := hSw; have s10 := conv_bytes s9; go_simp; (try with_reducible rfl))
  try simp only [Act.put, List.setIfInBounds_toArray, List.set_cons_zero, List.set_cons_succ]
  refine takeD (i := 45) (d := some 97) (v := ?vT46) rfl rfl (by kernel_rfl) (by kernel_rfl) (by kernel_rfl) (fun _ _ _ h => h) (Or.inl ⟨by rfl, ?hyT46⟩) (by assumption) ?rstT46
  case hyT46 => (intro w hSw; (try dsimp only at hSw); obtain ⟨⟨s0, s1, s2, s3, s4⟩, ⟨s5, s6, s7, s8⟩, s9⟩ := hSw; have s10 := conv_bytes s9; go_simp; (try with_reducible rfl))
  try simp only [Act.put, List.setIfInBounds_toArray, List.set_cons_zero, List.set_cons_succ]
  refine takeD (i := 46) (d := some 98) (v := ?vT47) rfl rfl (by kernel_rfl) (by kernel_rfl) (by kernel_rfl) (fun _ _ _ h => h) (Or.inl ⟨by rfl, ?hyT47⟩) (by assumption) ?rstT47
  case hyT47 => (intro w hSw; (try dsimp only at hSw); obtain ⟨⟨s0, s1, s2, s3, s4⟩, ⟨s5, s6, s7, s8⟩, s9⟩ := hSw; have s10 := conv_bytes s9; go_simp; (try with_reducible rfl))
  try simp only [Act.put, List.setIfInBounds_toArray, List.set_cons_zero, List.set_cons_succ]
  refine takeD (i := 47) (d := some 99) (v := ?vT48) rfl rfl (by kernel_rfl) (by kernel_rfl) (by kernel_rfl) (fun _ _ _ h => h) (Or.inl ⟨by rfl, ?hyT48⟩) (by assumption) ?rstT48
  case hyT48 => (intro w hSw; (try dsimp only at hSw); obtain ⟨⟨s0, s1, s2, s3, s4⟩, ⟨s5, s6, s7, s8⟩, s9⟩ := hSw; have s10 := conv_bytes s9; go_simp; (try with_reducible rfl))
  try simp only [Act.put, List.setIfInBounds_toArray, List.set_cons_zero, List.set_cons_succ]
  refine takeD (i := 48) (d := some 100) (v := ?vT49) rfl rfl (by kernel_rfl) (by kernel_rfl) (by kernel_rfl) (fun _ _ _ h => h) (Or.inl ⟨by rfl, ?hyT49⟩) (by assumption) ?rstT49
  case hyT49 => (intro w hSw; (try dsimp only at hSw); obtain ⟨⟨s0, s1, s2, s3, s4⟩, ⟨s5, s6, s7, s8⟩, s9⟩ := hSw; have s10 := conv_bytes s9; go_simp; (try with_reducible rfl))
  try simp only [Act.put, List.setIfInBounds_toArray, List.set_cons_zero, List.set_cons_succ]
  refine takeD (i := 49) (d := some 101) (v := ?vT50) rfl rfl (by kernel_rfl) (by kernel_rfl) (by kernel_rfl) (fun _ _ _ h => h) (Or.inl ⟨by rfl, ?hyT50⟩) (by assumption) ?rstT50
  case hyT50 => (intro w hSw; (try dsimp only at hSw); obtain ⟨⟨s0, s1, s2, s3, s4⟩, ⟨s5, s6, s7, s8⟩, s9⟩ := hSw; have s10 := conv_bytes s9; go_simp; (try with_reducible rfl))
  try simp only [Act.put, List.setIfInBounds_toArray, List.set_cons_zero, List.set_cons_succ]
  refine takeD (i := 50) (d := some 102) (v := ?vT51) rfl rfl (by kernel_rfl) (by kernel_rfl) (by kernel_rfl) (fun _ _ _ h => h) (Or.inl ⟨by rfl, ?hyT51⟩) (by assumption) ?rstT51
  case hyT51 => (intro w hSw; (try dsimp only at hSw); obtain ⟨⟨s0, s1, s2, s3, s4⟩, ⟨s5, s6, s7, s8⟩, s9⟩ := hSw; have s10 := conv_bytes s9; go_simp; (try with_reducible rfl))
  try simp only [Act.put, List.setIfInBounds_toArray, List.set_cons_zero, List.set_cons_succ]
  refine takeD (i := 51) (d := some 103) (v := ?vT52) rfl rfl (by kernel_rfl) (by kernel_rfl) (by kernel_rfl) (fun _ _ _ h => h) (Or.inl ⟨by rfl, ?hyT52⟩) (by assumption) ?rstT52
  case hyT52 => (intro w hSw; (try dsimp only at hSw); obtain ⟨⟨s0, s1, s2, s3, s4⟩, ⟨s5, s6, s7, s8⟩, s9⟩ := hSw; have s10 := conv_bytes s9; go_simp; (try with_reducible rfl))
  try simp only [Act.put, List.setIfInBounds_toArray, List.set_cons_zero, List.set_cons_succ]
  refine takeD (i := 52) (d := some 104) (v := ?vT53) rfl rfl (by kernel_rfl) (by kernel_rfl) (by kernel_rfl) (fun _ _ _ h => h) (Or.inl ⟨by rfl, ?hyT53⟩) (by assumption) ?rstT53
  case hyT53 => (intro w hSw; (try dsimp only at hSw); obtain ⟨⟨s0, s1, s2, s3, s4⟩, ⟨s5, s6, s7, s8⟩, s9⟩ := hSw; have s10 := conv_bytes s9; go_simp; (try with_reducible rfl))
  try simp only [Act.put, List.setIfInBounds_toArray, List.set_cons_zero, List.set_cons_succ]
  refine takeD (i := 53) (d := some 105) (v := ?vT54) rfl rfl (by kernel_rfl) (by kernel_rfl) (by kernel_rfl) (fun _ _ _ h => h) (Or.inl ⟨by rfl, ?hyT54⟩) (by assumption) ?rstT54
  case hyT54 => (intro w hSw; (try dsimp only at hSw); obtain ⟨⟨s0, s1, s2, s3, s4⟩, ⟨s5, s6, s7, s8⟩, s9⟩ := hSw; have s10 := conv_bytes s9; go_simp; (try with_reducible rfl))
  try simp only [Act.put, List.setIfInBounds_toArray, List.set_cons_zero, List.set_cons_succ]
  refine takeD (i := 54) (d := some 106) (v := ?vT55) rfl rfl (by kernel_rfl) (by kernel_rfl) (by kernel_rfl) (fun _ _ _ h => h) (Or.inl ⟨by rfl, ?hyT55⟩) (by assumption) ?rstT55
  case hyT55 => (intro w hSw; (try dsimp only at hSw); obtain ⟨⟨s0, s1, s2, s3, s4⟩, ⟨s5, s6, s7, s8⟩, s9⟩ := hSw; have s10 := conv_bytes s9; go_simp; (try with_reducible rfl))
  try simp only [Act.put, List.setIfInBounds_toArray, List.set_cons_zero, List.set_cons_succ]
  refine takeD (i := 55) (d := some 107) (v := ?vT56) rfl rfl (by kernel_rfl) (by kernel_rfl) (by kernel_rfl) (fun _ _ _ h => h) (Or.inl ⟨by rfl, ?hyT56⟩) (by assumption) ?rstT56
  case hyT56 => (intro w hSw; (try dsimp only at hSw); obtain ⟨⟨s0, s1, s2, s3, s4⟩, ⟨s5, s6, s7, s8⟩, s9⟩ := hSw; have s10 := conv_bytes s9; go_simp; (try with_reducible rfl))
  try simp only [Act.put, List.setIfInBounds_toArray, List.set_cons_zero, List.set_cons_succ]
  refine takeD (i := 56) (d := some 108) (v := ?vT57) rfl rfl (by kernel_rfl) (by kernel_rfl) (by kernel_rfl) (fun _ _ _ h => h) (Or.inl ⟨by rfl, ?hyT57⟩) (by assumption) ?rstT57
  case hyT57 => (intro w hSw; (try dsimp only at hSw); obtain ⟨⟨s0, s1, s2, s3, s4⟩, ⟨s5, s6, s7, s8⟩, s9⟩ := hSw; have s10 := conv_bytes s9; go_simp; (try with_reducible rfl))
  try simp only [Act.put, List.setIfInBounds_toArray, List.set_cons_zero, List.set_cons_succ]
  refine takeD (i := 57) (d := some 109) (v := ?vT58) rfl rfl (by kernel_rfl) (by kernel_rfl) (by kernel_rfl) (fun _ _ _ h => h) (Or.inl ⟨by rfl, ?hyT58⟩) (by assumption) ?rstT58
  case hyT58 => (intro w hSw; (try dsimp only at hSw); obtain ⟨⟨s0, s1, s2, s3, s4⟩, ⟨s5, s6, s7, s8⟩, s9⟩ := hSw; have s10 := conv_bytes s9; go_simp; (try with_reducible rfl))
  try simp only [Act.put, List.setIfInBounds_toArray, List.set_cons_zero, List.set_cons_succ]
  refine takeD (i := 58) (d := some 6) (v := ?vT59) rfl rfl (by kernel_rfl) (by kernel_rfl) (by kernel_rfl) (fun _ _ _ h => h) (Or.inl ⟨by rfl, ?hyT59⟩) (by assumption) ?rstT59
  case hyT59 => (intro w hSw; (try dsimp only at hSw); obtain ⟨⟨s0, s1, s2, s3, s4⟩, ⟨s5, s6, s7, s8⟩, s9⟩ := hSw; have s10 := conv_bytes s9; go_simp; (try with_reducible rfl))
  try simp only [Act.put, List.setIfInBounds_toArray, List.set_cons_zero, List.set_cons_succ]
  refine wpAnyH_done (by kernel_rfl) ?_ _
  go_wp2_with fail
  go_ret
  exact ⟨rfl, HB5.out⟩
end Go.Proofs.Ytdmhajlhpieedaa
