import Derived.Test.YtaphkaodcdpcaaaDoorPgL
/-! PageFull. -/
namespace Go.Proofs.YtaphkaodcdpcaaaDoor
open Go.RowKit Go.Lib
set_option maxRecDepth 100000

/-- Is a blank among the runes a to b - 1? -/
def hasB (rs : List Int) (a b : Nat) : Bool := ((rs.take b).drop a).any blankR
theorem hasB_self (rs : List Int) (a : Nat) : hasB rs a a = false := by
  unfold hasB
  rw [List.drop_eq_nil_of_le (by rw [List.length_take]; omega)]
  rfl
theorem hasB_succ {rs : List Int} {a b : Nat} {r : Int} (h1 : a ≤ b) (hr : rs[b]? = some r) : hasB rs a (b + 1) = (hasB rs a b || blankR r) := by
  obtain ⟨h2, rfl⟩ := List.getElem?_eq_some_iff.1 hr
  unfold hasB
  rw [wd_split' rs h1 (Nat.le_succ b), List.any_append]
  have e : (rs.take (b + 1)).drop b = [rs[b]] := by
    rw [List.take_succ_eq_append_getElem h2, List.drop_append_of_le_length (by rw [List.length_take]; omega), List.drop_eq_nil_of_le (by rw [List.length_take]; omega)]
    rfl
  rw [e]
  simp
theorem hasB_none {rs : List Int} {a b : Nat} (h : ∀ q, a ≤ q → q < b → ∀ r, rs[q]? = some r → blankR r = false) : hasB rs a b = false := by
  unfold hasB
  rw [List.any_eq_false]
  intro r hr
  obtain ⟨k, hk⟩ := List.getElem?_of_mem hr
  rw [List.getElem?_drop, List.getElem?_take] at hk
  split at hk
  · rw [h _ (Nat.le_add_right _ _) (by assumption) r hk]
    simp
  · cases hk
/-- Where a stretch that is told rune by rune stops, the page is too narrow for it. -/
theorem soft_end {rs : List Int} {W lo hi e : Nat} (hs : Soft rs W lo hi) (h1 : hi ≤ e) (hq : ∀ q, hi ≤ q → q < e → ∀ r, rs[q]? = some r → blankR r = false ∧ r ≠ 10)
    (hstop : e = rs.length ∨ ∃ r, rs[e]? = some r ∧ (r = 10 ∨ blankR r = true)) : (∀ r, rs[e]? = some r → blankR r = true → W < wd rs lo (e + 1)) ∧ ((∀ r, rs[e]? = some r → blankR r = false) → W < wd rs lo e) := by
  obtain ⟨hlt, _, i, r, hbi, hri, hr10, hall, hw⟩ := hs
  have hil := (List.getElem?_eq_some_iff.1 hri).1
  have hcase : i < e ∨ (i = e ∧ blankR r = true) := by
    rcases Nat.lt_or_ge i e with h | h
    · exact .inl h
    · right
      rcases Nat.eq_or_lt_of_le h with h2 | h2
      · subst h2
        rcases hstop with h3 | ⟨r', h3, h4⟩
        · omega
        · rw [hri] at h3
          obtain rfl := Option.some.inj h3
          rcases h4 with h4 | h4
          · exact absurd h4 hr10
          · exact ⟨rfl, h4⟩
      · rcases hstop with h3 | ⟨r', h3, h4⟩
        · omega
        · obtain ⟨h5, h6⟩ := hall e h1 h2 r' h3
          rcases h4 with h4 | h4
          · exact absurd h4 h6
          · rw [h5] at h4; cases h4
  refine ⟨fun r' _ _ => ?_, fun hn => ?_⟩
  · refine Nat.lt_of_lt_of_le hw (wd_mono rs (by omega) ?_)
    rcases hcase with h | ⟨h, _⟩ <;> omega
  · rcases hcase with h | ⟨h, hb⟩
    · exact Nat.lt_of_lt_of_le hw (wd_mono rs (by omega) (by omega))
    · subst h
      rw [hn r hri] at hb
      cases hb
theorem rowSoft (rs : List Int) (W : Nat) {i lo hi : Nat} (h : (rowsP rs W)[i]? = some ⟨lo, hi, false⟩) : Soft rs W lo hi :=
  ((rowsP_ok rs W).1 _ (List.mem_of_getElem? h)).soft rfl
set_option maxHeartbeats 16000000 in
theorem pageFull_any {w : World} {a : Option Addr} {n cap : Nat} {l : List Int} (h : Rw int1 1 w a n cap l) (wide : Int) (hP : PTab w) (hG : Glob w.heap.size) :
    Calls Tryd.prog 4 #[.slice a n cap, .int .i64 wide] w fun e w' => e = .returned (.bool true) ∧ Below w.heap.size w w' := by
  have HMa := made_any h
  have HT : Hid (PTab w ∧ Glob w.heap.size) := ⟨hP, hG⟩
  have hok := madeR_ok l
  have hml := madeR_len l
  have HRe : Hid (∀ V, Calls Tryd.prog 9 #[.int .i64 wide, .int .i64 40] V fun e w' => e = .returned (.int .i64 (wide % 40)) ∧ w' = V) := fun V => rest_any wide 40 (by decide) (by decide) V
  have hw0 : 0 ≤ wide % 40 := Int.emod_nonneg _ (by decide)
  have hw1 : wide % 40 < 40 := Int.emod_lt_of_pos _ (by decide)
  obtain ⟨W, hW⟩ : ∃ W : Nat, 1 + wide % 40 = (W : Int) := ⟨(1 + wide % 40).toNat, by omega⟩
  have hWb : 1 ≤ W ∧ W ≤ 40 := by omega
  generalize wide % 40 = wi at *
  generalize madeR l = rs at *
  clear h hP hG
  go_enter Tryd.func4, Tryd.ntmps4
  go_wp2_with fail
  refine HMa.mono ?_
  rintro e w1 ⟨v, rfl, ho1, hb1⟩
  obtain ⟨sa, caps, ev⟩ := ho1.shape
  obtain ⟨m, hm⟩ : ∃ m, rs.length = m := ⟨_, rfl⟩
  rw [hm] at ev hml
  subst ev
  have hR1 := ho1.rw_ layRu
  have HLd := laid_any hR1 hok (by omega) W ⟨by omega, by omega⟩ (HT.out.1.below hb1) (HT.out.2.mono hb1.size)
  have HB1 : Hid (Below w.heap.size w w1) := hb1
  clear HMa ho1 hb1
  go_wp2_with fail
  refine (HRe.out _).mono ?_
  rintro e w' ⟨rfl, hwe⟩
  obtain rfl := hwe.symm
  clear hwe HRe
  have hWw : IntKind.i64.wrap (1 + wi) = (W : Int) := by rw [hW]; exact IntWalk.i64_in _ (by omega)
  go_wp2_with fail
  refine HLd.mono ?_
  rintro e w2 ⟨v2, rfl, ho2, hb2⟩
  obtain ⟨al, capl, ev⟩ := ho2.shape
  obtain ⟨k, hk⟩ : ∃ k, (rowsP rs W).length = k := ⟨_, rfl⟩
  rw [rowsL_len, hk] at ev
  subst ev
  have hR2 := ho2.rw_ layL4
  have hfw := rowsP_few rs W
  have hne : (rowsP rs W).length ≠ 0 := fun e => rowsP_ne rs W (List.length_eq_zero_iff.1 e)
  rw [hk] at hfw hne
  rw [hm] at hfw
  have HB2 : Hid (Below w1.heap.size w1 w2) := hb2
  have HM : Hid (rs.length = m) := hm
  have HBk : Hid (∀ (r : Int) (V : World), Calls Tryd.prog 12 #[.int .i32 r] V fun e w' => e = .returned (.bool (blankR r)) ∧ w' = V) := lblank_any
  have HSq : Hid (∀ V, Below w2.heap.size w2 V → ∀ q, q < m → ∃ gs so r, sa = some ⟨gs, so, none⟩ ∧ rs[q]? = some r ∧ V.cell? ⟨gs, so + q, none⟩ = some (.int .i32 r)) := fun V hV q hq => by
    obtain ⟨gs, so, r, e, hgs, hr, hcq⟩ := (hR1.below (HB2.out.trans (hV.mono HB2.out.size))).at q hq
    exact ⟨gs, so, r, e, hr, by have := hcq 0 _ rfl; simpa using this⟩
  -- the last row
  obtain ⟨lo1, hi1, hard1, hI1⟩ := rowI rs W (i := k - 1) (by rw [hk]; omega)
  rw [hk] at hI1
  obtain ⟨hl1, hl2⟩ := hI1.last (by omega)
  obtain ⟨g, off, x, eal, hg, hx, hc⟩ := hR2.at (k - 1) (by omega)
  rw [rowsL_get rs W hI1.get] at hx
  obtain rfl := Option.some.inj hx
  have p1 : w2.cell? ⟨g, off + (k - 1) * 4 + 1, none⟩ = some (.int .i64 (m : Int)) := by have := hc 1 _ rfl; rw [this]; rw [hl2, hm]
  have p3 : w2.cell? ⟨g, off + (k - 1) * 4 + 3, none⟩ = some (.bool true) := by have := hc 3 _ rfl; rw [this]; rw [hl1]
  subst eal
  have y1 : IntKind.i64.wrap ((k : Int) - 1) = ((k - 1 : Nat) : Int) := by rw [IntWalk.i64_in _ (by omega)]; omega
  have y2 : ((m : Int) != m) = false := by simp
  clear HLd ho2 hb2 hok hI1 hl1 hl2 hx hc hm hW
  go_wp2_with fail
  go_loopw [9] (fun vi w' => ∃ i : Nat, vi = .int .i64 (i : Int) ∧ i ≤ k ∧ Below w2.heap.size w2 w') (fun vi _ => k - (intOf vi).toNat)
  case atStart => exact ⟨0, rfl, by omega, Below.refl _ _⟩
  case round =>
    clear p1 p3
    obtain ⟨i, rfl, hik, hb⟩ := hrel
    by_cases hi_ : i < k
    · obtain ⟨lo, hi, hard, hI⟩ := rowI rs W (i := i) (by rw [hk]; exact hi_)
      obtain ⟨g', off', x, eal, hg', hx, hc⟩ := hR2.at i hi_
      simp only [Option.some.injEq, Addr.mk.injEq, and_true] at eal
      obtain ⟨rfl, rfl⟩ := eal
      rw [rowsL_get rs W hI.get] at hx
      obtain rfl := Option.some.inj hx
      have HCi : Hid (∀ V, Below w2.heap.size w2 V → V.cell? ⟨g, off + i * 4, none⟩ = some (.int .i64 (lo : Int)) ∧ V.cell? ⟨g, off + i * 4 + 1, none⟩ = some (.int .i64 (hi : Int)) ∧ V.cell? ⟨g, off + i * 4 + 3, none⟩ = some (.bool hard)) := fun V hV =>
        ⟨(hV.cell (p := ⟨g, off + i * 4, none⟩) hg).trans (hc 0 _ rfl), (hV.cell (p := ⟨g, off + i * 4 + 1, none⟩) hg).trans (hc 1 _ rfl), (hV.cell (p := ⟨g, off + i * 4 + 3, none⟩) hg).trans (hc 3 _ rfl)⟩
      obtain ⟨hlh, hhm⟩ : lo ≤ hi ∧ hi ≤ m := ⟨hI.le, by have := hI.len; have := HM.out; omega⟩
      obtain ⟨c0, c1, c3⟩ := HCi.out _ hb
      clear hx hc hg'
      cases hard with
      | true =>
        clear hI
        go_wp2_with fail
        exact ⟨⟨i + 1, by go_num, by omega, hb⟩, by simp [intOf]; omega⟩
      | false =>
        have HSo : Hid (Soft rs W lo hi) := rowSoft rs W hI.get
        have hlt : lo < hi := HSo.out.1
        clear hI
        go_wp2_with fail
        go_loopw [10, 11] (fun vh vq w' => ∃ q : Nat, vq = .int .i64 (q : Int) ∧ lo ≤ q ∧ q ≤ hi ∧ vh = .bool (hasB rs lo q) ∧ Below w2.heap.size w2 w') (fun _ vq _ => hi - (intOf vq).toNat)
        case atStart => exact ⟨lo, rfl, Nat.le_refl _, hlh, by rw [hasB_self], hb⟩
        case round =>
          clear c0 c1 c3
          obtain ⟨q, rfl, hq1, hq2, rfl, hbq⟩ := hrel
          obtain ⟨c0, c1, c3⟩ := HCi.out _ hbq
          by_cases hqh : q < hi
          · obtain ⟨gs, so, r, eas, hrq, cq⟩ := HSq.out _ hbq q (by omega)
            subst eas
            have hsu := hasB_succ hq1 hrq
            have hqm : q < m := by omega
            obtain ⟨H, hH⟩ : ∃ H, hasB rs lo q = H := ⟨_, rfl⟩
            rw [hH] at hsu ⊢
            have HSu : Hid (hasB rs lo (q + 1) = (H || blankR r)) := hsu
            clear hH hsu hrq
            cases H with
            | true =>
              go_wp2_with fail
              exact ⟨⟨q + 1, by go_num, by omega, by omega, by rw [HSu.out]; rfl, hbq⟩, by simp [intOf]; omega⟩
            | false =>
              go_wp2_with fail
              refine (HBk.out r _).mono ?_
              rintro e w' ⟨rfl, hwe⟩
              obtain rfl := hwe.symm
              clear hwe
              go_wp2_with fail
              exact ⟨⟨q + 1, by go_num, by omega, by omega, by rw [HSu.out]; simp, hbq⟩, by simp [intOf]; omega⟩
          · have hqe : hi = q := by omega
            subst hqe
            clear hqh hq1 hq2
            have y4 : ((hi : Int) == lo) = false := by rw [beq_eq_false_iff_ne]; omega
            have y5 : IntKind.i64.wrap ((hi : Int) - 1) = ((hi - 1 : Nat) : Int) := by rw [IntWalk.i64_in _ (by omega)]; omega
            have hhm1 : hi - 1 < m := by omega
            obtain ⟨H, hH⟩ : ∃ H, hasB rs lo hi = H := ⟨_, rfl⟩
            have HH : Hid (hasB rs lo hi = H) := hH
            rw [hH]
            clear hH
            cases H with
            | true =>
              obtain ⟨gs, so, r, eas, hrq, cq⟩ := HSq.out _ hbq (hi - 1) hhm1
              have hrb : blankR r = true := by
                rcases HSo.out.2.1 with h1 | ⟨r', h1, h2⟩
                · have := hasB_none h1
                  rw [HH.out] at this
                  cases this
                · rw [hrq] at h1
                  rw [Option.some.inj h1]
                  exact h2
              have HEas : Hid (sa = some ⟨gs, so, none⟩) := eas
              subst eas
              clear hrq
              go_wp2_with fail
              refine wp_region_held_drew (S := (fun v => v.cell? ⟨g, off + i * 4, none⟩ = some (.int .i64 (lo : Int)) ∧ v.cell? ⟨g, off + i * 4 + 1, none⟩ = some (.int .i64 (hi : Int)) ∧ v.cell? ⟨gs, so + (hi - 1), none⟩ = some (.int .i32 r))) (by kernel_rfl) ?hSZ1 (fun hHeld => ?restZ1)
              case hSZ1 => exact ⟨c0, c1, cq⟩
              refine takeD (i := 0) (d := some 81) (v := ?vT2) rfl rfl (by kernel_rfl) (by kernel_rfl) (by kernel_rfl) (fun _ _ _ h => h) (Or.inl ⟨by rfl, ?hyT2⟩) (by assumption) ?rstT2
              case hyT2 => (intro w hSw; (try dsimp only at hSw); obtain ⟨s0, s1, s2⟩ := hSw; go_simp; (try with_reducible rfl))
              try simp only [Act.put, List.setIfInBounds_toArray, List.set_cons_zero, List.set_cons_succ]
              refine takeD (i := 1) (d := some 82) (v := ?vT3) rfl rfl (by kernel_rfl) (by kernel_rfl) (by kernel_rfl) (fun _ _ _ h => h) (Or.inl ⟨by rfl, ?hyT3⟩) (by assumption) ?rstT3
              case hyT3 => (intro w hSw; (try dsimp only at hSw); obtain ⟨s0, s1, s2⟩ := hSw; go_simp; (try with_reducible rfl))
              try simp only [Act.put, List.setIfInBounds_toArray, List.set_cons_zero, List.set_cons_succ]
              refine takeD (i := 2) (d := some 83) (v := ?vT4) rfl rfl (by kernel_rfl) (by kernel_rfl) (by kernel_rfl) (fun _ _ _ h => h) (Or.inl ⟨by rfl, ?hyT4⟩) (by assumption) ?rstT4
              case hyT4 => (intro w hSw; (try dsimp only at hSw); obtain ⟨s0, s1, s2⟩ := hSw; go_simp; (try with_reducible rfl))
              try simp only [Act.put, List.setIfInBounds_toArray, List.set_cons_zero, List.set_cons_succ]
              refine takeD (i := 3) (d := some 84) (v := ?vT5) rfl rfl (by kernel_rfl) (by kernel_rfl) (by kernel_rfl) (fun _ _ _ h => h) (Or.inl ⟨by rfl, ?hyT5⟩) (by assumption) ?rstT5
              case hyT5 => (intro w hSw; (try dsimp only at hSw); obtain ⟨s0, s1, s2⟩ := hSw; go_simp; (try with_reducible rfl))
              try simp only [Act.put, List.setIfInBounds_toArray, List.set_cons_zero, List.set_cons_succ]
              refine takeD (i := 4) (d := some 85) (v := ?vT6) rfl rfl (by kernel_rfl) (by kernel_rfl) (by kernel_rfl) (fun _ _ _ h => h) (Or.inl ⟨by rfl, ?hyT6⟩) (by assumption) ?rstT6
              case hyT6 => (intro w hSw; (try dsimp only at hSw); obtain ⟨s0, s1, s2⟩ := hSw; go_simp; (try with_reducible rfl))
              try simp only [Act.put, List.setIfInBounds_toArray, List.set_cons_zero, List.set_cons_succ]
              refine takeD (i := 5) (d := some 86) (v := ?vT7) rfl rfl (by kernel_rfl) (by kernel_rfl) (by kernel_rfl) (fun _ _ _ h => h) (Or.inl ⟨by rfl, ?hyT7⟩) (by assumption) ?rstT7
              case hyT7 => (intro w hSw; (try dsimp only at hSw); obtain ⟨s0, s1, s2⟩ := hSw; go_simp; (try with_reducible rfl))
              try simp only [Act.put, List.setIfInBounds_toArray, List.set_cons_zero, List.set_cons_succ]
              refine takeD (i := 6) (d := some 87) (v := ?vT8) rfl rfl (by kernel_rfl) (by kernel_rfl) (by kernel_rfl) (fun _ _ _ h => h) (Or.inl ⟨by rfl, ?hyT8⟩) (by assumption) ?rstT8
              case hyT8 => (intro w hSw; (try dsimp only at hSw); obtain ⟨s0, s1, s2⟩ := hSw; go_simp; (try with_reducible rfl))
              try simp only [Act.put, List.setIfInBounds_toArray, List.set_cons_zero, List.set_cons_succ]
              refine takeD (i := 7) (d := some 88) (v := ?vT9) rfl rfl (by kernel_rfl) (by kernel_rfl) (by kernel_rfl) (fun _ _ _ h => h) (Or.inl ⟨by rfl, ?hyT9⟩) (by assumption) ?rstT9
              case hyT9 => (intro w hSw; (try dsimp only at hSw); obtain ⟨s0, s1, s2⟩ := hSw; go_simp; (try with_reducible rfl))
              try simp only [Act.put, List.setIfInBounds_toArray, List.set_cons_zero, List.set_cons_succ]
              refine takeD (i := 8) (d := some 89) (v := ?vT10) rfl rfl (by kernel_rfl) (by kernel_rfl) (by kernel_rfl) (fun _ _ _ h => h) (Or.inl ⟨by rfl, ?hyT10⟩) (by assumption) ?rstT10
              case hyT10 => (intro w hSw; (try dsimp only at hSw); obtain ⟨s0, s1, s2⟩ := hSw; go_simp; (try with_reducible rfl))
              try simp only [Act.put, List.setIfInBounds_toArray, List.set_cons_zero, List.set_cons_succ]
              refine takeD (i := 9) (d := some 90) (v := ?vT11) rfl rfl (by kernel_rfl) (by kernel_rfl) (by kernel_rfl) (fun _ _ _ h => h) (Or.inl ⟨by rfl, ?hyT11⟩) (by assumption) ?rstT11
              case hyT11 => (intro w hSw; (try dsimp only at hSw); obtain ⟨s0, s1, s2⟩ := hSw; go_simp; (try with_reducible rfl))
              try simp only [Act.put, List.setIfInBounds_toArray, List.set_cons_zero, List.set_cons_succ]
              refine takeD (i := 10) (d := some 91) (v := ?vT12) rfl rfl (by kernel_rfl) (by kernel_rfl) (by kernel_rfl) (fun _ _ _ h => h) (Or.inl ⟨by rfl, ?hyT12⟩) (by assumption) ?rstT12
              case hyT12 => (intro w hSw; (try dsimp only at hSw); obtain ⟨s0, s1, s2⟩ := hSw; go_simp; (try with_reducible rfl))
              try simp only [Act.put, List.setIfInBounds_toArray, List.set_cons_zero, List.set_cons_succ]
              refine takeD (i := 11) (d := some 92) (v := ?vT13) rfl rfl (by kernel_rfl) (by kernel_rfl) (by kernel_rfl) (fun _ _ _ h => h) (Or.inl ⟨by rfl, ?hyT13⟩) (by assumption) ?rstT13
              case hyT13 => (intro w hSw; (try dsimp only at hSw); obtain ⟨s0, s1, s2⟩ := hSw; go_simp; (try with_reducible rfl))
              try simp only [Act.put, List.setIfInBounds_toArray, List.set_cons_zero, List.set_cons_succ]
              refine takeD (i := 12) (d := some 93) (v := ?vT14) rfl rfl (by kernel_rfl) (by kernel_rfl) (by kernel_rfl) (fun _ _ _ h => h) (Or.inl ⟨by rfl, ?hyT14⟩) (by assumption) ?rstT14
              case hyT14 => (intro w hSw; (try dsimp only at hSw); obtain ⟨s0, s1, s2⟩ := hSw; go_simp; (try with_reducible rfl))
              try simp only [Act.put, List.setIfInBounds_toArray, List.set_cons_zero, List.set_cons_succ]
              refine takeD (i := 13) (d := some 94) (v := ?vT15) rfl rfl (by kernel_rfl) (by kernel_rfl) (by kernel_rfl) (fun _ _ _ h => h) (Or.inl ⟨by rfl, ?hyT15⟩) (by assumption) ?rstT15
              case hyT15 => (intro w hSw; (try dsimp only at hSw); obtain ⟨s0, s1, s2⟩ := hSw; go_simp; (try with_reducible rfl))
              try simp only [Act.put, List.setIfInBounds_toArray, List.set_cons_zero, List.set_cons_succ]
              refine takeD (i := 14) (d := some 95) (v := ?vT16) rfl rfl (by kernel_rfl) (by kernel_rfl) (by kernel_rfl) (fun _ _ _ h => h) (Or.inl ⟨by rfl, ?hyT16⟩) (by assumption) ?rstT16
              case hyT16 => (intro w hSw; (try dsimp only at hSw); obtain ⟨s0, s1, s2⟩ := hSw; go_simp; (try with_reducible rfl))
              try simp only [Act.put, List.setIfInBounds_toArray, List.set_cons_zero, List.set_cons_succ]
              refine takeD (i := 15) (d := some 96) (v := ?vT17) rfl rfl (by kernel_rfl) (by kernel_rfl) (by kernel_rfl) (fun _ _ _ h => h) (Or.inl ⟨by rfl, ?hyT17⟩) (by assumption) ?rstT17
              case hyT17 => (intro w hSw; (try dsimp only at hSw); obtain ⟨s0, s1, s2⟩ := hSw; go_simp; (try with_reducible rfl))
              try simp only [Act.put, List.setIfInBounds_toArray, List.set_cons_zero, List.set_cons_succ]
              refine takeD (i := 16) (d := some 97) (v := ?vT18) rfl rfl (by kernel_rfl) (by kernel_rfl) (by kernel_rfl) (fun _ _ _ h => h) (Or.inl ⟨by rfl, ?hyT18⟩) (by assumption) ?rstT18
              case hyT18 => (intro w hSw; (try dsimp only at hSw); obtain ⟨s0, s1, s2⟩ := hSw; go_simp; (try with_reducible rfl))
              try simp only [Act.put, List.setIfInBounds_toArray, List.set_cons_zero, List.set_cons_succ]
              refine takeD (i := 17) (d := some 98) (v := ?vT19) rfl rfl (by kernel_rfl) (by kernel_rfl) (by kernel_rfl) (fun _ _ _ h => h) (Or.inl ⟨by rfl, ?hyT19⟩) (by assumption) ?rstT19
              case hyT19 => (intro w hSw; (try dsimp only at hSw); obtain ⟨s0, s1, s2⟩ := hSw; go_simp; (try with_reducible rfl))
              try simp only [Act.put, List.setIfInBounds_toArray, List.set_cons_zero, List.set_cons_succ]
              refine takeD (i := 18) (d := some 99) (v := ?vT20) rfl rfl (by kernel_rfl) (by kernel_rfl) (by kernel_rfl) (fun _ _ _ h => h) (Or.inl ⟨by rfl, ?hyT20⟩) (by assumption) ?rstT20
              case hyT20 => (intro w hSw; (try dsimp only at hSw); obtain ⟨s0, s1, s2⟩ := hSw; go_simp; (try with_reducible rfl))
              try simp only [Act.put, List.setIfInBounds_toArray, List.set_cons_zero, List.set_cons_succ]
              refine takeD (i := 19) (d := some 100) (v := ?vT21) rfl rfl (by kernel_rfl) (by kernel_rfl) (by kernel_rfl) (fun _ _ _ h => h) (Or.inl ⟨by rfl, ?hyT21⟩) (by assumption) ?rstT21
              case hyT21 => (intro w hSw; (try dsimp only at hSw); obtain ⟨s0, s1, s2⟩ := hSw; go_simp; (try with_reducible rfl))
              try simp only [Act.put, List.setIfInBounds_toArray, List.set_cons_zero, List.set_cons_succ]
              refine takeD (i := 20) (d := some 101) (v := ?vT22) rfl rfl (by kernel_rfl) (by kernel_rfl) (by kernel_rfl) (fun _ _ _ h => h) (Or.inl ⟨by rfl, ?hyT22⟩) (by assumption) ?rstT22
              case hyT22 => (intro w hSw; (try dsimp only at hSw); obtain ⟨s0, s1, s2⟩ := hSw; go_simp; (try with_reducible rfl))
              try simp only [Act.put, List.setIfInBounds_toArray, List.set_cons_zero, List.set_cons_succ]
              refine takeD (i := 21) (d := some 102) (v := ?vT23) rfl rfl (by kernel_rfl) (by kernel_rfl) (by kernel_rfl) (fun _ _ _ h => h) (Or.inl ⟨by rfl, ?hyT23⟩) (by assumption) ?rstT23
              case hyT23 => (intro w hSw; (try dsimp only at hSw); obtain ⟨s0, s1, s2⟩ := hSw; go_simp; (try with_reducible rfl))
              try simp only [Act.put, List.setIfInBounds_toArray, List.set_cons_zero, List.set_cons_succ]
              refine takeD (i := 22) (d := some 103) (v := ?vT24) rfl rfl (by kernel_rfl) (by kernel_rfl) (by kernel_rfl) (fun _ _ _ h => h) (Or.inl ⟨by rfl, ?hyT24⟩) (by assumption) ?rstT24
              case hyT24 => (intro w hSw; (try dsimp only at hSw); obtain ⟨s0, s1, s2⟩ := hSw; go_simp; (try with_reducible rfl))
              try simp only [Act.put, List.setIfInBounds_toArray, List.set_cons_zero, List.set_cons_succ]
              refine wpAnyH_ready (rs := [23]) (by kernel_rfl) (by simp) ?_
              refine AllReadyH.cons rfl (fun K hK => ?_) AllReadyH.nil
              go_simp
              refine (HBk.out _ _).mono ?_
              rintro e w' ⟨rfl, hwe⟩
              obtain rfl := hwe.symm
              clear hwe
              rw [hrb]
              dsimp only
              clear hHeld
              refine hK.out _ _ ?hS1 (fun hHeld => ?rest1)
              case hS1 => exact ⟨c0, c1, cq⟩
              clear hK K
              try simp only [Act.put, List.setIfInBounds_toArray, List.set_cons_zero, List.set_cons_succ]
              refine takeD (i := 24) (d := some 105) (v := ?vT25) rfl rfl (by kernel_rfl) (by kernel_rfl) (by kernel_rfl) (fun _ _ _ h => h) (Or.inl ⟨by rfl, ?hyT25⟩) (by assumption) ?rstT25
              case hyT25 => (intro w hSw; (try dsimp only at hSw); obtain ⟨s0, s1, s2⟩ := hSw; go_simp; (try with_reducible rfl))
              try simp only [Act.put, List.setIfInBounds_toArray, List.set_cons_zero, List.set_cons_succ]
              refine takeD (i := 25) (d := some 106) (v := ?vT26) rfl rfl (by kernel_rfl) (by kernel_rfl) (by kernel_rfl) (fun _ _ _ h => h) (Or.inl ⟨by rfl, ?hyT26⟩) (by assumption) ?rstT26
              case hyT26 => (intro w hSw; (try dsimp only at hSw); obtain ⟨s0, s1, s2⟩ := hSw; go_simp; (try with_reducible rfl))
              try simp only [Act.put, List.setIfInBounds_toArray, List.set_cons_zero, List.set_cons_succ]
              refine takeD (i := 26) (d := some 107) (v := ?vT27) rfl rfl (by kernel_rfl) (by kernel_rfl) (by kernel_rfl) (fun _ _ _ h => h) (Or.inl ⟨by rfl, ?hyT27⟩) (by assumption) ?rstT27
              case hyT27 => (intro w hSw; (try dsimp only at hSw); obtain ⟨s0, s1, s2⟩ := hSw; go_simp; (try with_reducible rfl))
              try simp only [Act.put, List.setIfInBounds_toArray, List.set_cons_zero, List.set_cons_succ]
              refine wpAnyH_done (by kernel_rfl) ?_ _
              obtain ⟨wy, hwy⟩ : ∃ V, World.drew wr = V := ⟨_, rfl⟩
              have hby : Below w2.heap.size w2 wy := by rw [← hwy]; exact hbq.drew
              rw [hwy] at hHeld ⊢
              clear hwy hHeld hbq
              obtain ⟨c0, c1, c3⟩ := HCi.out _ hby
              go_wp2_with fail
              go_loopw [12] (fun ve w' => ∃ e : Nat, ve = .int .i64 (e : Int) ∧ hi ≤ e ∧ e ≤ m ∧ Hid (∀ q, hi ≤ q → q < e → ∀ r, rs[q]? = some r → blankR r = false ∧ r ≠ 10) ∧ Below w2.heap.size w2 w') (fun ve _ => m - (intOf ve).toNat)
              case atStart => exact ⟨hi, rfl, Nat.le_refl _, hhm, fun q h1 h2 => absurd h2 (by omega), hby⟩
              case round =>
                obtain ⟨e, rfl, he1, he2, hall, hbx⟩ := hrel
                clear hby
                have HTl := fun hst => soft_end HSo.out he1 hall.out hst
                obtain ⟨wx, hwx⟩ : ∃ V, wr = V := ⟨_, rfl⟩
                rw [hwx] at hbx ⊢
                clear hwx
                obtain ⟨c0, c1, c3⟩ := HCi.out _ hbx
                by_cases hem : e < m
                · obtain ⟨gs, so, r, eas, hrq, cq⟩ := HSq.out _ hbx e hem
                  first | subst eas | (simp only [Option.some.injEq, Addr.mk.injEq, and_true] at eas; obtain ⟨rfl, rfl⟩ := eas)
                  by_cases hr10 : r = 10
                  · subst hr10
                    have hnb : blankR 10 = false := rfl
                    have HBl : Hid (∀ V, Calls Tryd.prog 12 #[.int .i32 10] V fun e w' => e = .returned (.bool false) ∧ w' = V) := fun V => by have := lblank_any 10 V; rw [hnb] at this; exact this
                    have hW : W < wd rs lo e := (HTl (.inr ⟨10, hrq, .inl rfl⟩)).2 (fun r' h' => by rw [hrq] at h'; rw [← Option.some.inj h']; exact hnb)
                    clear HTl hall hrq hnb
                    obtain ⟨a', cap', hcut, hRc⟩ := cut_runes (hR1.below (HB2.out.trans (hbx.mono HB2.out.size))) lo e (by omega) (by omega)
                    have HCo : Calls Tryd.prog 11 #[.slice a' (e - lo) cap'] wx fun e9 w' => e9 = .returned (.int .i64 (wd rs lo e : Nat)) ∧ Below wx.heap.size wx w' := cols_any hRc (by omega) ((HT.out.1.below HB1.out).below (HB2.out.trans (hbx.mono HB2.out.size)))
                    have hwb : wd rs lo e ≤ 800 := by have := wd_le rs lo e; omega
                    generalize wd rs lo e = cc at *
                    have z9 : decide ((cc : Int) ≤ W) = false := decide_eq_false (by omega)
                    have z8 : decide (cc ≤ W) = false := decide_eq_false (by omega)
                    have HBX : Hid (Below w2.heap.size w2 wx) := hbx
                    clear hRc hbx
                    go_wp2_with fail
                    refine (HBl.out _).mono ?_
                    rintro e' w' ⟨rfl, hwe⟩
                    obtain rfl := hwe.symm
                    clear hwe
                    go_wp2_with fail
                    refine HCo.mono ?_
                    rintro e w9 ⟨rfl, hb9⟩
                    have HE : Hid (Below w2.heap.size w2 w9) := HBX.out.trans (hb9.mono HBX.out.size)
                    clear HCo hb9
                    go_wp2_with fail
                    exact ⟨⟨i + 1, by go_num, by omega, HE.out⟩, by simp [intOf]; omega⟩
                  · have hz : (r == 10) = false := by rw [beq_eq_false_iff_ne]; exact hr10
                    have hz2 : (r != 10) = true := by simp [bne, hz]
                    cases hbl : blankR r with
                    | false =>
                      have HBl : Hid (∀ V, Calls Tryd.prog 12 #[.int .i32 r] V fun e w' => e = .returned (.bool false) ∧ w' = V) := fun V => by have := lblank_any r V; rw [hbl] at this; exact this
                      have HN : Hid (∀ q, hi ≤ q → q < e + 1 → ∀ r, rs[q]? = some r → blankR r = false ∧ r ≠ 10) := fun q h1 h2 r' h' => by
                        by_cases hqe : q = e
                        · subst hqe; rw [hrq] at h'; rw [← Option.some.inj h']; exact ⟨hbl, hr10⟩
                        · exact hall.out q h1 (by omega) r' h'
                      clear HTl hall hrq hbl
                      go_wp2_with fail
                      refine (HBl.out _).mono ?_
                      rintro e' w' ⟨rfl, hwe⟩
                      obtain rfl := hwe.symm
                      clear hwe
                      go_wp2_with fail
                      exact ⟨⟨e + 1, by go_num, by omega, by omega, HN.out, hbx⟩, by simp [intOf]; omega⟩
                    | true =>
                      have HBl : Hid (∀ V, Calls Tryd.prog 12 #[.int .i32 r] V fun e w' => e = .returned (.bool true) ∧ w' = V) := fun V => by have := lblank_any r V; rw [hbl] at this; exact this
                      have hW : W < wd rs lo (e + 1) := (HTl (.inr ⟨r, hrq, .inr hbl⟩)).1 r hrq hbl
                      obtain ⟨ee, hee⟩ : ∃ ee, e + 1 = ee := ⟨_, rfl⟩
                      rw [hee] at hW
                      have hw1 : IntKind.i64.wrap ((e : Int) + 1) = (ee : Int) := by rw [IntWalk.i64_in _ (by omega)]; omega
                      have hel : lo ≤ ee ∧ ee ≤ m := by omega
                      clear HTl hall hrq hbl hee
                      obtain ⟨a', cap', hcut, hRc⟩ := cut_runes (hR1.below (HB2.out.trans (hbx.mono HB2.out.size))) lo ee (by omega) (by omega)
                      have HCo : Calls Tryd.prog 11 #[.slice a' (ee - lo) cap'] wx fun e9 w' => e9 = .returned (.int .i64 (wd rs lo ee : Nat)) ∧ Below wx.heap.size wx w' := cols_any hRc (by omega) ((HT.out.1.below HB1.out).below (HB2.out.trans (hbx.mono HB2.out.size)))
                      have hwb : wd rs lo ee ≤ 800 := by have := wd_le rs lo ee; omega
                      generalize wd rs lo ee = cc at *
                      have z9 : decide ((cc : Int) ≤ W) = false := decide_eq_false (by omega)
                      have z8 : decide (cc ≤ W) = false := decide_eq_false (by omega)
                      have HBX : Hid (Below w2.heap.size w2 wx) := hbx
                      clear hRc hbx
                      go_wp2_with fail
                      refine (HBl.out _).mono ?_
                      rintro e' w' ⟨rfl, hwe⟩
                      obtain rfl := hwe.symm
                      clear hwe
                      go_wp2_with fail
                      refine (HBl.out _).mono ?_
                      rintro e' w' ⟨rfl, hwe⟩
                      obtain rfl := hwe.symm
                      clear hwe
                      go_wp2_with fail
                      refine HCo.mono ?_
                      rintro e w9 ⟨rfl, hb9⟩
                      have HE : Hid (Below w2.heap.size w2 w9) := HBX.out.trans (hb9.mono HBX.out.size)
                      clear HCo hb9
                      go_wp2_with fail
                      exact ⟨⟨i + 1, by go_num, by omega, HE.out⟩, by simp [intOf]; omega⟩
                · have hW : W < wd rs lo e := (HTl (.inl (by have := HM.out; omega))).2 (fun r' h' => by
                    have := (List.getElem?_eq_some_iff.1 h').1
                    have := HM.out
                    omega)
                  clear HTl hall
                  obtain ⟨a', cap', hcut, hRc⟩ := cut_runes (hR1.below (HB2.out.trans (hbx.mono HB2.out.size))) lo e (by omega) (by omega)
                  have HCo : Calls Tryd.prog 11 #[.slice a' (e - lo) cap'] wx fun e9 w' => e9 = .returned (.int .i64 (wd rs lo e : Nat)) ∧ Below wx.heap.size wx w' := cols_any hRc (by omega) ((HT.out.1.below HB1.out).below (HB2.out.trans (hbx.mono HB2.out.size)))
                  have hwb : wd rs lo e ≤ 800 := by have := wd_le rs lo e; omega
                  generalize wd rs lo e = cc at *
                  have z9 : decide ((cc : Int) ≤ W) = false := decide_eq_false (by omega)
                  have z8 : decide (cc ≤ W) = false := decide_eq_false (by omega)
                  have HBX : Hid (Below w2.heap.size w2 wx) := hbx
                  clear hRc hbx
                  go_wp2_with fail
                  refine HCo.mono ?_
                  rintro e w9 ⟨rfl, hb9⟩
                  have HE : Hid (Below w2.heap.size w2 w9) := HBX.out.trans (hb9.mono HBX.out.size)
                  clear HCo hb9
                  go_wp2_with fail
                  exact ⟨⟨i + 1, by go_num, by omega, HE.out⟩, by simp [intOf]; omega⟩
            | false =>
              go_wp2_with fail
              refine wp_region_held_drew (S := (fun v => v.cell? ⟨g, off + i * 4, none⟩ = some (.int .i64 (lo : Int)) ∧ v.cell? ⟨g, off + i * 4 + 1, none⟩ = some (.int .i64 (hi : Int)))) (by kernel_rfl) ?hSZ0 (fun hHeld => ?restZ0)
              case hSZ0 => exact ⟨c0, c1⟩
              refine takeD (i := 0) (d := some 81) (v := ?vT28) rfl rfl (by kernel_rfl) (by kernel_rfl) (by kernel_rfl) (fun _ _ _ h => h) (Or.inl ⟨by rfl, ?hyT28⟩) (by assumption) ?rstT28
              case hyT28 => (intro w hSw; (try dsimp only at hSw); obtain ⟨s0, s1⟩ := hSw; go_simp; (try with_reducible rfl))
              try simp only [Act.put, List.setIfInBounds_toArray, List.set_cons_zero, List.set_cons_succ]
              refine takeD (i := 1) (d := some 82) (v := ?vT29) rfl rfl (by kernel_rfl) (by kernel_rfl) (by kernel_rfl) (fun _ _ _ h => h) (Or.inl ⟨by rfl, ?hyT29⟩) (by assumption) ?rstT29
              case hyT29 => (intro w hSw; (try dsimp only at hSw); obtain ⟨s0, s1⟩ := hSw; go_simp; (try with_reducible rfl))
              try simp only [Act.put, List.setIfInBounds_toArray, List.set_cons_zero, List.set_cons_succ]
              refine takeD (i := 2) (d := some 83) (v := ?vT30) rfl rfl (by kernel_rfl) (by kernel_rfl) (by kernel_rfl) (fun _ _ _ h => h) (Or.inl ⟨by rfl, ?hyT30⟩) (by assumption) ?rstT30
              case hyT30 => (intro w hSw; (try dsimp only at hSw); obtain ⟨s0, s1⟩ := hSw; go_simp; (try with_reducible rfl))
              try simp only [Act.put, List.setIfInBounds_toArray, List.set_cons_zero, List.set_cons_succ]
              refine takeD (i := 3) (d := some 84) (v := ?vT31) rfl rfl (by kernel_rfl) (by kernel_rfl) (by kernel_rfl) (fun _ _ _ h => h) (Or.inl ⟨by rfl, ?hyT31⟩) (by assumption) ?rstT31
              case hyT31 => (intro w hSw; (try dsimp only at hSw); obtain ⟨s0, s1⟩ := hSw; go_simp; (try with_reducible rfl))
              try simp only [Act.put, List.setIfInBounds_toArray, List.set_cons_zero, List.set_cons_succ]
              refine takeD (i := 4) (d := some 85) (v := ?vT32) rfl rfl (by kernel_rfl) (by kernel_rfl) (by kernel_rfl) (fun _ _ _ h => h) (Or.inl ⟨by rfl, ?hyT32⟩) (by assumption) ?rstT32
              case hyT32 => (intro w hSw; (try dsimp only at hSw); obtain ⟨s0, s1⟩ := hSw; go_simp; (try with_reducible rfl))
              try simp only [Act.put, List.setIfInBounds_toArray, List.set_cons_zero, List.set_cons_succ]
              refine takeD (i := 5) (d := some 86) (v := ?vT33) rfl rfl (by kernel_rfl) (by kernel_rfl) (by kernel_rfl) (fun _ _ _ h => h) (Or.inl ⟨by rfl, ?hyT33⟩) (by assumption) ?rstT33
              case hyT33 => (intro w hSw; (try dsimp only at hSw); obtain ⟨s0, s1⟩ := hSw; go_simp; (try with_reducible rfl))
              try simp only [Act.put, List.setIfInBounds_toArray, List.set_cons_zero, List.set_cons_succ]
              refine takeD (i := 6) (d := some 87) (v := ?vT34) rfl rfl (by kernel_rfl) (by kernel_rfl) (by kernel_rfl) (fun _ _ _ h => h) (Or.inl ⟨by rfl, ?hyT34⟩) (by assumption) ?rstT34
              case hyT34 => (intro w hSw; (try dsimp only at hSw); obtain ⟨s0, s1⟩ := hSw; go_simp; (try with_reducible rfl))
              try simp only [Act.put, List.setIfInBounds_toArray, List.set_cons_zero, List.set_cons_succ]
              refine takeD (i := 7) (d := some 88) (v := ?vT35) rfl rfl (by kernel_rfl) (by kernel_rfl) (by kernel_rfl) (fun _ _ _ h => h) (Or.inl ⟨by rfl, ?hyT35⟩) (by assumption) ?rstT35
              case hyT35 => (intro w hSw; (try dsimp only at hSw); obtain ⟨s0, s1⟩ := hSw; go_simp; (try with_reducible rfl))
              try simp only [Act.put, List.setIfInBounds_toArray, List.set_cons_zero, List.set_cons_succ]
              refine takeD (i := 8) (d := some 89) (v := ?vT36) rfl rfl (by kernel_rfl) (by kernel_rfl) (by kernel_rfl) (fun _ _ _ h => h) (Or.inl ⟨by rfl, ?hyT36⟩) (by assumption) ?rstT36
              case hyT36 => (intro w hSw; (try dsimp only at hSw); obtain ⟨s0, s1⟩ := hSw; go_simp; (try with_reducible rfl))
              try simp only [Act.put, List.setIfInBounds_toArray, List.set_cons_zero, List.set_cons_succ]
              refine takeD (i := 9) (d := some 90) (v := ?vT37) rfl rfl (by kernel_rfl) (by kernel_rfl) (by kernel_rfl) (fun _ _ _ h => h) (Or.inl ⟨by rfl, ?hyT37⟩) (by assumption) ?rstT37
              case hyT37 => (intro w hSw; (try dsimp only at hSw); obtain ⟨s0, s1⟩ := hSw; go_simp; (try with_reducible rfl))
              try simp only [Act.put, List.setIfInBounds_toArray, List.set_cons_zero, List.set_cons_succ]
              refine takeD (i := 10) (d := some 91) (v := ?vT38) rfl rfl (by kernel_rfl) (by kernel_rfl) (by kernel_rfl) (fun _ _ _ h => h) (Or.inl ⟨by rfl, ?hyT38⟩) (by assumption) ?rstT38
              case hyT38 => (intro w hSw; (try dsimp only at hSw); obtain ⟨s0, s1⟩ := hSw; go_simp; (try with_reducible rfl))
              try simp only [Act.put, List.setIfInBounds_toArray, List.set_cons_zero, List.set_cons_succ]
              refine takeD (i := 11) (d := some 92) (v := ?vT39) rfl rfl (by kernel_rfl) (by kernel_rfl) (by kernel_rfl) (fun _ _ _ h => h) (Or.inl ⟨by rfl, ?hyT39⟩) (by assumption) ?rstT39
              case hyT39 => (intro w hSw; (try dsimp only at hSw); obtain ⟨s0, s1⟩ := hSw; go_simp; (try with_reducible rfl))
              try simp only [Act.put, List.setIfInBounds_toArray, List.set_cons_zero, List.set_cons_succ]
              refine takeD (i := 12) (d := some 93) (v := ?vT40) rfl rfl (by kernel_rfl) (by kernel_rfl) (by kernel_rfl) (fun _ _ _ h => h) (Or.inl ⟨by rfl, ?hyT40⟩) (by assumption) ?rstT40
              case hyT40 => (intro w hSw; (try dsimp only at hSw); obtain ⟨s0, s1⟩ := hSw; go_simp; (try with_reducible rfl))
              try simp only [Act.put, List.setIfInBounds_toArray, List.set_cons_zero, List.set_cons_succ]
              refine takeD (i := 13) (d := some 94) (v := ?vT41) rfl rfl (by kernel_rfl) (by kernel_rfl) (by kernel_rfl) (fun _ _ _ h => h) (Or.inl ⟨by rfl, ?hyT41⟩) (by assumption) ?rstT41
              case hyT41 => (intro w hSw; (try dsimp only at hSw); obtain ⟨s0, s1⟩ := hSw; go_simp; (try with_reducible rfl))
              try simp only [Act.put, List.setIfInBounds_toArray, List.set_cons_zero, List.set_cons_succ]
              refine takeD (i := 14) (d := some 95) (v := undef) rfl rfl (by kernel_rfl) (by kernel_rfl) (by kernel_rfl) (fun _ _ _ h => h) (Or.inr ⟨by rfl, rfl⟩) (by assumption) ?_
              try simp only [Act.put, List.setIfInBounds_toArray, List.set_cons_zero, List.set_cons_succ]
              refine takeD (i := 15) (d := some 96) (v := undef) rfl rfl (by kernel_rfl) (by kernel_rfl) (by kernel_rfl) (fun _ _ _ h => h) (Or.inr ⟨by rfl, rfl⟩) (by assumption) ?_
              try simp only [Act.put, List.setIfInBounds_toArray, List.set_cons_zero, List.set_cons_succ]
              refine takeD (i := 16) (d := some 97) (v := undef) rfl rfl (by kernel_rfl) (by kernel_rfl) (by kernel_rfl) (fun _ _ _ h => h) (Or.inr ⟨by rfl, rfl⟩) (by assumption) ?_
              try simp only [Act.put, List.setIfInBounds_toArray, List.set_cons_zero, List.set_cons_succ]
              refine takeD (i := 17) (d := some 98) (v := undef) rfl rfl (by kernel_rfl) (by kernel_rfl) (by kernel_rfl) (fun _ _ _ h => h) (Or.inr ⟨by rfl, rfl⟩) (by assumption) ?_
              try simp only [Act.put, List.setIfInBounds_toArray, List.set_cons_zero, List.set_cons_succ]
              refine takeD (i := 18) (d := some 99) (v := undef) rfl rfl (by kernel_rfl) (by kernel_rfl) (by kernel_rfl) (fun _ _ _ h => h) (Or.inr ⟨by rfl, rfl⟩) (by assumption) ?_
              try simp only [Act.put, List.setIfInBounds_toArray, List.set_cons_zero, List.set_cons_succ]
              refine takeD (i := 19) (d := some 100) (v := undef) rfl rfl (by kernel_rfl) (by kernel_rfl) (by kernel_rfl) (fun _ _ _ h => h) (Or.inr ⟨by rfl, rfl⟩) (by assumption) ?_
              try simp only [Act.put, List.setIfInBounds_toArray, List.set_cons_zero, List.set_cons_succ]
              refine takeD (i := 20) (d := some 101) (v := undef) rfl rfl (by kernel_rfl) (by kernel_rfl) (by kernel_rfl) (fun _ _ _ h => h) (Or.inr ⟨by rfl, rfl⟩) (by assumption) ?_
              try simp only [Act.put, List.setIfInBounds_toArray, List.set_cons_zero, List.set_cons_succ]
              refine takeD (i := 21) (d := some 102) (v := undef) rfl rfl (by kernel_rfl) (by kernel_rfl) (by kernel_rfl) (fun _ _ _ h => h) (Or.inr ⟨by rfl, rfl⟩) (by assumption) ?_
              try simp only [Act.put, List.setIfInBounds_toArray, List.set_cons_zero, List.set_cons_succ]
              refine takeD (i := 22) (d := some 103) (v := undef) rfl rfl (by kernel_rfl) (by kernel_rfl) (by kernel_rfl) (fun _ _ _ h => h) (Or.inr ⟨by rfl, rfl⟩) (by assumption) ?_
              try simp only [Act.put, List.setIfInBounds_toArray, List.set_cons_zero, List.set_cons_succ]
              refine takeD (i := 23) (d := some 104) (v := undef) rfl rfl (by kernel_rfl) (by kernel_rfl) (by kernel_rfl) (fun _ _ _ h => h) (Or.inr ⟨by rfl, rfl⟩) (by assumption) ?_
              try simp only [Act.put, List.setIfInBounds_toArray, List.set_cons_zero, List.set_cons_succ]
              refine takeD (i := 24) (d := some 105) (v := undef) rfl rfl (by kernel_rfl) (by kernel_rfl) (by kernel_rfl) (fun _ _ _ h => h) (Or.inr ⟨by rfl, rfl⟩) (by assumption) ?_
              try simp only [Act.put, List.setIfInBounds_toArray, List.set_cons_zero, List.set_cons_succ]
              refine takeD (i := 25) (d := some 106) (v := ?vT42) rfl rfl (by kernel_rfl) (by kernel_rfl) (by kernel_rfl) (fun _ _ _ h => h) (Or.inl ⟨by rfl, ?hyT42⟩) (by assumption) ?rstT42
              case hyT42 => (intro w hSw; (try dsimp only at hSw); obtain ⟨s0, s1⟩ := hSw; go_simp; (try with_reducible rfl))
              try simp only [Act.put, List.setIfInBounds_toArray, List.set_cons_zero, List.set_cons_succ]
              refine takeD (i := 26) (d := some 107) (v := ?vT43) rfl rfl (by kernel_rfl) (by kernel_rfl) (by kernel_rfl) (fun _ _ _ h => h) (Or.inl ⟨by rfl, ?hyT43⟩) (by assumption) ?rstT43
              case hyT43 => (intro w hSw; (try dsimp only at hSw); obtain ⟨s0, s1⟩ := hSw; go_simp; (try with_reducible rfl))
              try simp only [Act.put, List.setIfInBounds_toArray, List.set_cons_zero, List.set_cons_succ]
              refine wpAnyH_done (by kernel_rfl) ?_ _
              obtain ⟨wy, hwy⟩ : ∃ V, World.drew wr = V := ⟨_, rfl⟩
              have hby : Below w2.heap.size w2 wy := by rw [← hwy]; exact hbq.drew
              rw [hwy] at hHeld ⊢
              clear hwy hHeld hbq
              obtain ⟨c0, c1, c3⟩ := HCi.out _ hby
              go_wp2_with fail
              go_loopw [12] (fun ve w' => ∃ e : Nat, ve = .int .i64 (e : Int) ∧ hi ≤ e ∧ e ≤ m ∧ Hid (∀ q, hi ≤ q → q < e → ∀ r, rs[q]? = some r → blankR r = false ∧ r ≠ 10) ∧ Below w2.heap.size w2 w') (fun ve _ => m - (intOf ve).toNat)
              case atStart => exact ⟨hi, rfl, Nat.le_refl _, hhm, fun q h1 h2 => absurd h2 (by omega), hby⟩
              case round =>
                obtain ⟨e, rfl, he1, he2, hall, hbx⟩ := hrel
                clear hby
                have HTl := fun hst => soft_end HSo.out he1 hall.out hst
                obtain ⟨wx, hwx⟩ : ∃ V, wr = V := ⟨_, rfl⟩
                rw [hwx] at hbx ⊢
                clear hwx
                obtain ⟨c0, c1, c3⟩ := HCi.out _ hbx
                by_cases hem : e < m
                · obtain ⟨gs, so, r, eas, hrq, cq⟩ := HSq.out _ hbx e hem
                  first | subst eas | (simp only [Option.some.injEq, Addr.mk.injEq, and_true] at eas; obtain ⟨rfl, rfl⟩ := eas)
                  by_cases hr10 : r = 10
                  · subst hr10
                    have hnb : blankR 10 = false := rfl
                    have HBl : Hid (∀ V, Calls Tryd.prog 12 #[.int .i32 10] V fun e w' => e = .returned (.bool false) ∧ w' = V) := fun V => by have := lblank_any 10 V; rw [hnb] at this; exact this
                    have hW : W < wd rs lo e := (HTl (.inr ⟨10, hrq, .inl rfl⟩)).2 (fun r' h' => by rw [hrq] at h'; rw [← Option.some.inj h']; exact hnb)
                    clear HTl hall hrq hnb
                    obtain ⟨a', cap', hcut, hRc⟩ := cut_runes (hR1.below (HB2.out.trans (hbx.mono HB2.out.size))) lo e (by omega) (by omega)
                    have HCo : Calls Tryd.prog 11 #[.slice a' (e - lo) cap'] wx fun e9 w' => e9 = .returned (.int .i64 (wd rs lo e : Nat)) ∧ Below wx.heap.size wx w' := cols_any hRc (by omega) ((HT.out.1.below HB1.out).below (HB2.out.trans (hbx.mono HB2.out.size)))
                    have hwb : wd rs lo e ≤ 800 := by have := wd_le rs lo e; omega
                    generalize wd rs lo e = cc at *
                    have z9 : decide ((cc : Int) ≤ W) = false := decide_eq_false (by omega)
                    have z8 : decide (cc ≤ W) = false := decide_eq_false (by omega)
                    have HBX : Hid (Below w2.heap.size w2 wx) := hbx
                    clear hRc hbx
                    go_wp2_with fail
                    refine (HBl.out _).mono ?_
                    rintro e' w' ⟨rfl, hwe⟩
                    obtain rfl := hwe.symm
                    clear hwe
                    go_wp2_with fail
                    refine HCo.mono ?_
                    rintro e w9 ⟨rfl, hb9⟩
                    have HE : Hid (Below w2.heap.size w2 w9) := HBX.out.trans (hb9.mono HBX.out.size)
                    clear HCo hb9
                    go_wp2_with fail
                    exact ⟨⟨i + 1, by go_num, by omega, HE.out⟩, by simp [intOf]; omega⟩
                  · have hz : (r == 10) = false := by rw [beq_eq_false_iff_ne]; exact hr10
                    have hz2 : (r != 10) = true := by simp [bne, hz]
                    cases hbl : blankR r with
                    | false =>
                      have HBl : Hid (∀ V, Calls Tryd.prog 12 #[.int .i32 r] V fun e w' => e = .returned (.bool false) ∧ w' = V) := fun V => by have := lblank_any r V; rw [hbl] at this; exact this
                      have HN : Hid (∀ q, hi ≤ q → q < e + 1 → ∀ r, rs[q]? = some r → blankR r = false ∧ r ≠ 10) := fun q h1 h2 r' h' => by
                        by_cases hqe : q = e
                        · subst hqe; rw [hrq] at h'; rw [← Option.some.inj h']; exact ⟨hbl, hr10⟩
                        · exact hall.out q h1 (by omega) r' h'
                      clear HTl hall hrq hbl
                      go_wp2_with fail
                      refine (HBl.out _).mono ?_
                      rintro e' w' ⟨rfl, hwe⟩
                      obtain rfl := hwe.symm
                      clear hwe
                      go_wp2_with fail
                      exact ⟨⟨e + 1, by go_num, by omega, by omega, HN.out, hbx⟩, by simp [intOf]; omega⟩
                    | true =>
                      have HBl : Hid (∀ V, Calls Tryd.prog 12 #[.int .i32 r] V fun e w' => e = .returned (.bool true) ∧ w' = V) := fun V => by have := lblank_any r V; rw [hbl] at this; exact this
                      have hW : W < wd rs lo (e + 1) := (HTl (.inr ⟨r, hrq, .inr hbl⟩)).1 r hrq hbl
                      obtain ⟨ee, hee⟩ : ∃ ee, e + 1 = ee := ⟨_, rfl⟩
                      rw [hee] at hW
                      have hw1 : IntKind.i64.wrap ((e : Int) + 1) = (ee : Int) := by rw [IntWalk.i64_in _ (by omega)]; omega
                      have hel : lo ≤ ee ∧ ee ≤ m := by omega
                      clear HTl hall hrq hbl hee
                      obtain ⟨a', cap', hcut, hRc⟩ := cut_runes (hR1.below (HB2.out.trans (hbx.mono HB2.out.size))) lo ee (by omega) (by omega)
                      have HCo : Calls Tryd.prog 11 #[.slice a' (ee - lo) cap'] wx fun e9 w' => e9 = .returned (.int .i64 (wd rs lo ee : Nat)) ∧ Below wx.heap.size wx w' := cols_any hRc (by omega) ((HT.out.1.below HB1.out).below (HB2.out.trans (hbx.mono HB2.out.size)))
                      have hwb : wd rs lo ee ≤ 800 := by have := wd_le rs lo ee; omega
                      generalize wd rs lo ee = cc at *
                      have z9 : decide ((cc : Int) ≤ W) = false := decide_eq_false (by omega)
                      have z8 : decide (cc ≤ W) = false := decide_eq_false (by omega)
                      have HBX : Hid (Below w2.heap.size w2 wx) := hbx
                      clear hRc hbx
                      go_wp2_with fail
                      refine (HBl.out _).mono ?_
                      rintro e' w' ⟨rfl, hwe⟩
                      obtain rfl := hwe.symm
                      clear hwe
                      go_wp2_with fail
                      refine (HBl.out _).mono ?_
                      rintro e' w' ⟨rfl, hwe⟩
                      obtain rfl := hwe.symm
                      clear hwe
                      go_wp2_with fail
                      refine HCo.mono ?_
                      rintro e w9 ⟨rfl, hb9⟩
                      have HE : Hid (Below w2.heap.size w2 w9) := HBX.out.trans (hb9.mono HBX.out.size)
                      clear HCo hb9
                      go_wp2_with fail
                      exact ⟨⟨i + 1, by go_num, by omega, HE.out⟩, by simp [intOf]; omega⟩
                · have hW : W < wd rs lo e := (HTl (.inl (by have := HM.out; omega))).2 (fun r' h' => by
                    have := (List.getElem?_eq_some_iff.1 h').1
                    have := HM.out
                    omega)
                  clear HTl hall
                  obtain ⟨a', cap', hcut, hRc⟩ := cut_runes (hR1.below (HB2.out.trans (hbx.mono HB2.out.size))) lo e (by omega) (by omega)
                  have HCo : Calls Tryd.prog 11 #[.slice a' (e - lo) cap'] wx fun e9 w' => e9 = .returned (.int .i64 (wd rs lo e : Nat)) ∧ Below wx.heap.size wx w' := cols_any hRc (by omega) ((HT.out.1.below HB1.out).below (HB2.out.trans (hbx.mono HB2.out.size)))
                  have hwb : wd rs lo e ≤ 800 := by have := wd_le rs lo e; omega
                  generalize wd rs lo e = cc at *
                  have z9 : decide ((cc : Int) ≤ W) = false := decide_eq_false (by omega)
                  have z8 : decide (cc ≤ W) = false := decide_eq_false (by omega)
                  have HBX : Hid (Below w2.heap.size w2 wx) := hbx
                  clear hRc hbx
                  go_wp2_with fail
                  refine HCo.mono ?_
                  rintro e w9 ⟨rfl, hb9⟩
                  have HE : Hid (Below w2.heap.size w2 w9) := HBX.out.trans (hb9.mono HBX.out.size)
                  clear HCo hb9
                  go_wp2_with fail
                  exact ⟨⟨i + 1, by go_num, by omega, HE.out⟩, by simp [intOf]; omega⟩
    · have HF : Hid (Below w.heap.size w wr) := (HB1.out.trans (HB2.out.mono HB1.out.size)).trans (hb.mono (Nat.le_trans HB1.out.size HB2.out.size))
      clear hb
      go_wp2_with fail
      go_ret
      exact ⟨rfl, HF.out⟩
end Go.Proofs.YtaphkaodcdpcaaaDoor
