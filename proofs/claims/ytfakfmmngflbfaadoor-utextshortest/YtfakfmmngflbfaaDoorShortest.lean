import Derived.Test.YtfakfmmngflbfaaDoorDiffAll
import Derived.Deep.DeepCutAuto
import Derived.WalkSpells
namespace Go.Proofs.YtfakfmmngflbfaaDoor
open Go.RowKit Go.Lib

theorem headF_alike (xs ys : List Int) : ∀ f k, (∀ j, j < k → xs.getD j 0 = ys.getD j 0) → ∀ j, j < headF xs ys f k → xs.getD j 0 = ys.getD j 0
  | 0, k, h, j, hj => h j hj
  | f + 1, k, h, j, hj => by
    rw [headF] at hj
    split at hj
    · rename_i hc
      refine headF_alike xs ys f (k + 1) (fun i hi => ?_) j hj
      by_cases e : i = k
      · rw [e]; exact hc.2.2
      · exact h i (by omega)
    · exact h j hj
theorem head_alike (xs ys : List Int) (j : Nat) (hj : j < headOf xs ys) : xs.getD j 0 = ys.getD j 0 := headF_alike xs ys _ 0 (fun _ h => absurd h (Nat.not_lt_zero _)) j hj
theorem headF_unlike (xs ys : List Int) : ∀ f k, xs.length ≤ k + f → headF xs ys f k < xs.length → headF xs ys f k < ys.length → xs.getD (headF xs ys f k) 0 ≠ ys.getD (headF xs ys f k) 0
  | 0, k, h, h1, h2 => by
    rw [headF] at h1
    omega
  | f + 1, k, h, h1, h2 => by
    rw [headF] at h1 h2 ⊢
    split at h1
    · rename_i hc
      rw [if_pos hc] at h2 ⊢
      exact headF_unlike xs ys f (k + 1) (by omega) h1 h2
    · rename_i hc
      rw [if_neg hc] at h2 ⊢
      exact fun e => hc ⟨h1, h2, e⟩
theorem head_unlike (xs ys : List Int) (h1 : headOf xs ys < xs.length) (h2 : headOf xs ys < ys.length) : xs.getD (headOf xs ys) 0 ≠ ys.getD (headOf xs ys) 0 := headF_unlike xs ys _ 0 (by omega) h1 h2
theorem tailF_unlike (xs ys : List Int) (a : Nat) : ∀ f t, xs.length ≤ a + t + f → a + tailF xs ys a f t < xs.length → a + tailF xs ys a f t < ys.length → xs.getD (xs.length - 1 - tailF xs ys a f t) 0 ≠ ys.getD (ys.length - 1 - tailF xs ys a f t) 0
  | 0, t, h, h1, h2 => by
    rw [tailF] at h1
    omega
  | f + 1, t, h, h1, h2 => by
    rw [tailF] at h1 h2 ⊢
    split at h1
    · rename_i hc
      rw [if_pos hc] at h2 ⊢
      exact tailF_unlike xs ys a f (t + 1) (by omega) h1 h2
    · rename_i hc
      rw [if_neg hc] at h2 ⊢
      exact fun e => hc ⟨h1, h2, e⟩
theorem tail_unlike (xs ys : List Int) (h1 : headOf xs ys + tailOf xs ys < xs.length) (h2 : headOf xs ys + tailOf xs ys < ys.length) : xs.getD (xs.length - 1 - tailOf xs ys) 0 ≠ ys.getD (ys.length - 1 - tailOf xs ys) 0 := tailF_unlike xs ys _ _ 0 (by omega) h1 h2
theorem ins_text {t : ByteArray} {ys : List Int} (h : IsText t ys) (a b : Nat) : IsText ⟨(encs ((ys.take b).drop a)).toArray⟩ ((ys.take b).drop a) :=
  ⟨by simp, fun r hr => h.ok r (List.mem_of_mem_take (List.mem_of_mem_drop hr))⟩
theorem ins_last (ys : List Int) (a b : Nat) (h : a < b) : ((ys.take b).drop a).getD (b - a - 1) 0 = ys.getD (b - 1) 0 := by
  simp only [List.getD_eq_getElem?_getD, List.getElem?_drop, List.getElem?_take]
  rw [if_pos (by omega), show a + (b - a - 1) = b - 1 by omega]

theorem Ints.heap {W W' : World} {o : Value} {zs : List Int} (h : Ints W o zs) (e : W'.heap = W.heap) : Ints W' o zs := by
  rcases h with h | ⟨b, off, len, cap, rfl, hl, hbl, hc⟩
  · exact .inl h
  · exact .inr ⟨b, off, len, cap, rfl, hl, by rw [e]; exact hbl, fun j hj => by
      have := hc j hj
      simp only [World.cell?, e] at this ⊢
      exact this⟩

theorem Ints.step {W V W' : World} {o : Value} {zs : List Int} (h : Ints W o zs) (hb : Below V.heap.size V W') (e : V.heap = W.heap) : Ints W' o zs := (h.heap e).mono hb
theorem own_step {w V w' : World} {B e size n : Nat} {v : Value} {xs : List Value} (h : w.ownsRow B e size v n xs) (hb : Below V.heap.size V w') (he : V.heap = w.heap) : w'.ownsRow B e size v n xs := by
  refine ⟨h.1, ?_⟩
  rcases h.2 with h0 | ⟨g, cap, cur, hv, hB, hh, rest⟩
  · exact .inl h0
  · exact .inr ⟨g, cap, cur, hv, hB, (hb.block g (by rw [he]; exact (Array.getElem?_eq_some_iff.1 hh).1)).trans (by rw [he]; exact hh), rest⟩
theorem below_drew {B : Nat} {w W : World} (h : Below B w W) : Below B w W.drew := h.trans ⟨rfl, rfl, rfl, Nat.le_refl _, fun _ _ => rfl⟩

set_option maxHeartbeats 4000000 in
set_option maxRecDepth 100000 in
theorem shortest_any (o n : Value) (zo zn : List Int) (k : Int) (raw : ByteArray) (b : Int) (w : World) (ho : Ints w o zo) (hn : Ints w n zn) (h4 : zo.length * 4 ≤ 140737488351232) (h5 : zn.length * 4 ≤ 140737488351232) (hw : Bar w) :
    Calls Tryd.prog 5 #[.agg #[o, n, .int .i64 k, .string raw, .int .u8 b]] w fun e w' => e = .returned (.bool true) ∧ Below w.heap.size w w' := by
  have hts := txt_size zo
  have hT := isText_txt zo
  have htn := txt_size zn
  have hN := isText_txt zn
  have HL : Hid ((zo.map letR).length = zo.length) := List.length_map ..
  have HLn : Hid ((zn.map letR).length = zn.length) := List.length_map ..
  have HO : Hid (Ints (w.alloc (.cells #[o, n, .int .i64 k, .string raw, .int .u8 b] 24)) o zo) := ho.mono ((Below.refl _ _).alloc (Nat.le_refl _) _)
  have HN : Hid (Ints (w.alloc (.cells #[o, n, .int .i64 k, .string raw, .int .u8 b] 24)) n zn) := hn.mono ((Below.refl _ _).alloc (Nat.le_refl _) _)
  have hB0 : Below w.heap.size w (w.alloc (.cells #[o, n, .int .i64 k, .string raw, .int .u8 b] 24)) := (Below.refl _ _).alloc (Nat.le_refl _) _
  clear ho hn
  go_enter Tryd.func5, Tryd.ntmps5
  go_upto_region 1 with fail
  go_cut [3, 4] (fun x y wx => ∃ (a : Option Addr) (cap : Nat) (a2 : Option Addr) (cap2 B1 B2 : Nat), x = .slice a zo.length cap ∧ y = .slice a2 zn.length cap2 ∧ wx.ownsRow B1 21 1 (.slice a zo.length cap) zo.length (letV zo) ∧ wx.ownsRow B2 21 1 (.slice a2 zn.length cap2) zn.length (letV zn) ∧ Below w.heap.size w wx)
  case first =>
    go_region_with (first | (go_at_call_of 9 o; go_loud (refine (let_ints o zo _ ?_ h4).mono ?_; exact HO.out.heap rfl; rintro e w2 ⟨a, cap, rfl, hown, hb2⟩; have hc1 : w2.cell? ⟨w.heap.size, 1, none⟩ = some n := (hb2.cell (p := ⟨w.heap.size, 1, none⟩) (by simp)).trans (World.cell?_alloc_mark _ _ _ _ _); have hB2 : Below w.heap.size w w2 := (below_drew hB0).trans (hb2.mono (by simp)))) | (go_at_call_of 9 n; go_loud (refine (let_ints n zn _ ?_ h5).mono ?_; exact (HN.out.step hb2 rfl).heap rfl; rintro e w3 ⟨a2, cap2, rfl, hown2, hb3⟩)))
    all_goals (go_wp2_with fail; go_meet; case rel => exact ⟨a, cap, a2, cap2, _, _, rfl, rfl, own_step hown hb3 rfl, hown2, by first | exact hB2.trans (hb3.mono hB2.size) | exact (below_drew hB2).trans (hb3.mono hB2.size)⟩)
  case rest =>
    obtain ⟨a, cap, a2, cap2, B1, B2, rfl, rfl, ho, hn, hB⟩ := hcut
    have hcv := conv_let ho
    have hcv2 := conv_let hn
    have hr := row_of_own ho
    have hr2 := row_of_own hn
    have hwc := hw.below hB
    clear ho hn hw HO HN hB0
    generalize txt zo = s at *
    generalize txt zn = t at *
    generalize zo.map letR = xs at *
    generalize zn.map letR = ys at *
    go_wp2_with fail
    refine (diff_in hT hN (by omega) (by omega) (by rw [HL.out]; omega) (by rw [HLn.out]; omega) _ hwc).mono ?_
    rintro e w3 ⟨rfl, hb3⟩
    have hr3 := hr.below hb3
    have hr23 := hr2.below hb3
    have hB3 := hB.trans (hb3.mono hB.size)
    clear hb3 hr hr2 hcv hcv2 hB hwc
    have hh : headOf xs ys ≤ zo.length ∧ headOf xs ys ≤ zn.length := by have h := headOf_le xs ys; rw [HL.out, HLn.out] at h; exact h
    have ht2 : headOf xs ys + tailOf xs ys ≤ zo.length ∧ headOf xs ys + tailOf xs ys ≤ zn.length := by have h := tailOf_le xs ys; rw [HL.out, HLn.out] at h; exact h
    have HA : Hid (∀ j, j < headOf xs ys → xs.getD j 0 = ys.getD j 0) := head_alike xs ys
    have HU : Hid (headOf xs ys < zo.length → headOf xs ys < zn.length → xs.getD (headOf xs ys) 0 ≠ ys.getD (headOf xs ys) 0) := by have h := head_unlike xs ys; rw [HL.out, HLn.out] at h; exact h
    have HV : Hid (headOf xs ys + tailOf xs ys < zo.length → headOf xs ys + tailOf xs ys < zn.length → xs.getD (zo.length - 1 - tailOf xs ys) 0 ≠ ys.getD (zn.length - 1 - tailOf xs ys) 0) := by have h := tail_unlike xs ys; rw [HL.out, HLn.out] at h; exact h
    rw [HL.out, HLn.out]
    have hI := ins_text hN (headOf xs ys) (zn.length - tailOf xs ys)
    have HIG : Hid (headOf xs ys < zn.length - tailOf xs ys → ((ys.take (zn.length - tailOf xs ys)).drop (headOf xs ys)).getD (zn.length - tailOf xs ys - headOf xs ys - 1) 0 = ys.getD (zn.length - tailOf xs ys - 1) 0) := fun h => ins_last ys _ _ h
    have HIL : Hid (((ys.take (zn.length - tailOf xs ys)).drop (headOf xs ys)).length = zn.length - tailOf xs ys - headOf xs ys) := by
      show _ = _
      rw [List.length_drop, List.length_take, HLn.out]
      omega
    obtain ⟨D, hD⟩ : ∃ D : Nat, zo.length - headOf xs ys - tailOf xs ys = D := ⟨_, rfl⟩
    obtain ⟨L, hL⟩ : ∃ L : Nat, zn.length - tailOf xs ys - headOf xs ys = L := ⟨_, rfl⟩
    have eD : (zo.length : Int) - headOf xs ys - tailOf xs ys = (D : Int) := by omega
    rw [eD]
    rw [hL] at HIL HIG
    generalize headOf xs ys = H at *
    generalize tailOf xs ys = T at *
    generalize (ys.take (zn.length - T)).drop H = is at *
    have hcv := conv_runes hI (by rw [HIL.out]; omega)
    have hr4 := row_runes is w3 (grownCap_le_maxLen _ _ _ _ (by rw [HIL.out]; unfold maxLen; omega))
    rw [HIL.out] at hcv hr4
    obtain ⟨tx, htx⟩ : ∃ tx : ByteArray, (⟨(encs is).toArray⟩ : ByteArray) = tx := ⟨_, rfl⟩
    rw [htx] at hcv ⊢
    clear htx hI eD
    have eL : (zo.length : Int) - (D : Int) + (L : Int) = (zn.length : Int) := by omega
    have tL : (((zo.length : Int) - (D : Int) + (L : Int)) != (zn.length : Int)) = false := by simp [eL]
    have bD : (D : Int) ≤ (zo.length : Int) - (H : Int) := by omega
    have bH : (H : Int) ≤ (zo.length : Int) := by omega
    have eL2 := eL
    clear eL
    have EL : Hid ((zo.length : Int) - (D : Int) + (L : Int) = (zn.length : Int)) := eL2
    clear eL2
    have hDL : D ≤ zo.length ∧ L ≤ zn.length ∧ H + D + T = zo.length ∧ H + L + T = zn.length := by omega
    have HDL : Hid (D ≤ zo.length ∧ L ≤ zn.length ∧ H + D + T = zo.length ∧ H + L + T = zn.length) := hDL
    clear hD hL hDL ht2
    have d1 : decide ((H : Int) < 0) = false := decide_eq_false (by omega)
    have d2 : decide (zo.length < H) = false := decide_eq_false (by omega)
    have d3 : decide ((D : Int) < 0) = false := decide_eq_false (by omega)
    have d4 : decide ((zo.length : Int) - (H : Int) < (D : Int)) = false := decide_eq_false (by omega)
    have bX : 0 ≤ (zo.length : Int) - (D : Int) + (L : Int) ∧ (zo.length : Int) - (D : Int) + (L : Int) ≤ 140737488351232 := by have := EL.out; omega
    have bX1 := bX.1
    have bX2 := bX.2
    go_wp2_with fail
    have hs3 := hB3.size
    have hB4 : Below w.heap.size w (w3.alloc (.cells ((runeV is).toArray ++ Array.replicate (grownCap w3 L 0 21 - L) (.int .i32 0)) 21)).drew := below_drew (hB3.alloc hs3 _)
    have hx4 : Row32 (w3.alloc (.cells ((runeV is).toArray ++ Array.replicate (grownCap w3 L 0 21 - L) (.int .i32 0)) 21)).drew a zo.length cap xs := hr3.below (below_drew ((Below.refl _ _).alloc (Nat.le_refl _) _))
    have hy4 : Row32 (w3.alloc (.cells ((runeV is).toArray ++ Array.replicate (grownCap w3 L 0 21 - L) (.int .i32 0)) 21)).drew a2 zn.length cap2 ys := hr23.below (below_drew ((Below.refl _ _).alloc (Nat.le_refl _) _))
    have hi4 : Row32 (w3.alloc (.cells ((runeV is).toArray ++ Array.replicate (grownCap w3 L 0 21 - L) (.int .i32 0)) 21)).drew (some ⟨w3.heap.size, 0, none⟩) L (grownCap w3 L 0 21) is := ⟨hr4.len, hr4.room, hr4.cells⟩
    clear hr4 hr3 hr23 hcv hB3 hs3
    generalize grownCap w3 L 0 21 = cap3 at *
    generalize w3.heap.size = g3 at *
    generalize World.drew _ = w4 at *
    go_loopw [10] (fun v w' => ∃ j q : Nat, j ≤ H ∧ v = .int .i64 j ∧ w' = w4.drewN q) (fun v _ => H - (intOf v).toNat)
    case atStart => exact ⟨0, 0, Nat.zero_le _, rfl, rfl⟩
    case round =>
      obtain ⟨j, q, hj, rfl, rfl⟩ := hrel
      by_cases h1 : j < H
      · obtain ⟨g, off, rfl, _, hc⟩ := hx4.cells j (by omega)
        obtain ⟨g2, off2, rfl, _, hc2⟩ := hy4.cells j (by omega)
        have e0 := HA.out j h1
        rw [← e0] at hc2
        clear e0
        generalize xs.getD j 0 = z at *
        have t1 : (z != z) = false := by simp
        have e1 : decide ((zn.length : Int) ≤ (j : Int)) = false := decide_eq_false (by omega)
        have e1b : decide (zn.length ≤ j) = false := decide_eq_false (by omega)
        have e1c : decide ((j : Int) ≥ (zn.length : Int)) = false := decide_eq_false (by omega)
        have e2 : (j : Int) < (zo.length : Int) := by omega
        have e3 : (j : Int) < (zn.length : Int) := by omega
        go_wp2_with fail
        go_quiet (fail)
        go_wp2_with fail
        go_roundw
        case rel => exact ⟨j + 1, q + nq, by omega, by go_num, rfl⟩
        case measure => simp [intOf]; omega
      · have hjH : H = j := by omega
        subst hjH
        have hdl := HDL.out
        by_cases k1 : H < zo.length
        · by_cases k2 : H < zn.length
          · obtain ⟨g, off, rfl, _, hc⟩ := hx4.cells H k1
            obtain ⟨g2, off2, rfl, _, hc2⟩ := hy4.cells H k2
            have hne := HU.out k1 k2
            have e1 : decide ((H : Int) < (zo.length : Int)) = true := decide_eq_true (by omega)
            have e1n : decide (H < zo.length) = true := decide_eq_true (by omega)
            have e2 : decide ((H : Int) < (zn.length : Int)) = true := decide_eq_true (by omega)
            have e2n : decide (H < zn.length) = true := decide_eq_true (by omega)
            have l1 : (H : Int) < (zo.length : Int) := by omega
            have l2 : (H : Int) < (zn.length : Int) := by omega
            obtain ⟨z1, hz1⟩ : ∃ z, xs.getD H 0 = z := ⟨_, rfl⟩
            obtain ⟨z2, hz2⟩ : ∃ z, ys.getD H 0 = z := ⟨_, rfl⟩
            rw [hz1] at hc hne
            rw [hz2] at hc2 hne
            clear hz1 hz2
            have t1 : (z1 == z2) = false := by simp [hne]
            clear hne
            go_wp2_with fail
            go_quiet (fail)
            clear t1 hc hc2
            by_cases k3 : D = 0
            · have v1 : ((D : Int) == 0) = true := by simp; omega
              clear hdl
              go_wp2_with fail
              go_quiet (fail)
              go_wp2_with fail
              go_ret
              exact ⟨rfl, hB4.trans ⟨rfl, rfl, rfl, Nat.le_refl _, fun _ _ => rfl⟩⟩
            · have v1 : ((D : Int) == 0) = false := by simp; omega
              by_cases k4 : L = 0
              · have v2 : ((L : Int) == 0) = true := by simp; omega
                clear hdl
                go_wp2_with fail
                go_quiet (fail)
                go_wp2_with fail
                go_ret
                exact ⟨rfl, hB4.trans ⟨rfl, rfl, rfl, Nat.le_refl _, fun _ _ => rfl⟩⟩
              · have v2 : ((L : Int) == 0) = false := by simp; omega
                have hne := HV.out (by omega) (by omega)
                have hig := HIG.out (by omega)
                rw [show zo.length - 1 - T = H + D - 1 by omega, show zn.length - 1 - T = zn.length - T - 1 by omega, ← hig] at hne
                obtain ⟨x, hx1⟩ : ∃ x, H + D - 1 = x := ⟨_, rfl⟩
                obtain ⟨y, hy1⟩ : ∃ y, L - 1 = y := ⟨_, rfl⟩
                rw [hx1, hy1] at hne
                obtain ⟨_, _, ex, _, hcx⟩ := hx4.cells x (by omega)
                obtain ⟨_, _, ey, _, hcy⟩ := hi4.cells y (by omega)
                cases ex
                cases ey
                rw [Nat.zero_add] at hcy
                have q1 : IntKind.i64.wrap ((H : Int) + (D : Int)) = (H : Int) + (D : Int) := IntWalk.i64_in _ (by omega)
                have q2 : IntKind.i64.wrap ((H : Int) + (D : Int) - 1) = (x : Int) := (IntWalk.i64_in _ (by omega)).trans (by omega)
                have q3 : IntKind.i64.wrap ((L : Int) - 1) = (y : Int) := (IntWalk.i64_in _ (by omega)).trans (by omega)
                have m1 : (x : Int) < (zo.length : Int) := by omega
                have m2 : (y : Int) < (L : Int) := by omega
                clear hx1 hy1 hig hdl
                generalize xs.getD x 0 = z3 at *
                generalize is.getD y 0 = z4 at *
                have t2 : (z3 != z4) = true := by simp [hne]
                clear hne
                go_wp2_with fail
                go_quiet (fail)
                go_wp2_with fail
                go_ret
                exact ⟨rfl, hB4.trans ⟨rfl, rfl, rfl, Nat.le_refl _, fun _ _ => rfl⟩⟩
          · have v1 : ((D : Int) == 0) = false := by simp; omega
            have v2 : ((L : Int) == 0) = true := by simp; omega
            have e1 : decide ((H : Int) < (zo.length : Int)) = true := decide_eq_true (by omega)
            have e1n : decide (H < zo.length) = true := decide_eq_true (by omega)
            have e2 : decide ((H : Int) < (zn.length : Int)) = false := decide_eq_false (by omega)
            have e2n : decide (H < zn.length) = false := decide_eq_false (by omega)
            clear hdl
            go_wp2_with fail
            go_quiet (fail)
            go_wp2_with fail
            go_quiet (fail)
            go_wp2_with fail
            go_ret
            exact ⟨rfl, hB4.trans ⟨rfl, rfl, rfl, Nat.le_refl _, fun _ _ => rfl⟩⟩
        · have v1 : ((D : Int) == 0) = true := by simp; omega
          have e1 : decide ((H : Int) < (zo.length : Int)) = false := decide_eq_false (by omega)
          have e1n : decide (H < zo.length) = false := decide_eq_false (by omega)
          clear hdl
          go_wp2_with fail
          go_quiet (fail)
          go_wp2_with fail
          go_quiet (fail)
          go_wp2_with fail
          go_ret
          exact ⟨rfl, hB4.trans ⟨rfl, rfl, rfl, Nat.le_refl _, fun _ _ => rfl⟩⟩
end Go.Proofs.YtfakfmmngflbfaaDoor
