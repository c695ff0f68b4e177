import Derived.Test.YtohfckcikincoaaSpRk
namespace Go.Proofs.Ytohfckcikincoaa
open Go.RowKit Go.Lib
set_option maxRecDepth 100000

theorem below_drew' {B : Nat} {a w : World} (h : Below B a w) : Below B a w.drew := ⟨h.os, h.tape, h.output, h.size, h.block⟩
set_option maxHeartbeats 4000000 in
theorem spanRanks_any {w : World} {v : Value} {a : Option Addr} {na ca : Nat} {la : List (Int × Int)} {b : Option Addr} {nb cb : Nat} {lb : List (Int × Int)} {pa : Option Addr} {np cp : Nat} {zs : List Int} {at_ n : Int} (hi : InR w v a na ca la b nb cb lb pa np cp zs at_ n) :
    Calls Try.prog 4 #[v] w fun e w' => e = .returned (.bool true) ∧ Below w.heap.size w w' := by
  have hra := hi.ra
  have hrb := hi.rb
  have hv := hi.val
  have hba := hi.ba
  subst hv
  clear hi
  have hnum := num_any
  go_enter Try.func4, Try.ntmps4
  go_wp2_with fail
  have hB0 : Below w.heap.size w (w.alloc (.cells #[.slice a na ca, .slice b nb cb, .slice pa np cp, .int .i64 at_, .int .i64 n] 25)) := (Below.refl _ _).alloc (Nat.le_refl _) _
  refine (right_any (hra.below hB0)).mono ?_
  rintro e w1 ⟨o1, no1, co1, p1, rfl, ho1, hb1, HP1, hn1⟩
  go_wp2_with fail
  refine (lawCopied_any ho1.rng (by omega)).mono ?_
  rintro e w2 ⟨a2, cap2, rfl, ho2, hb2⟩
  go_wp2_with fail
  refine (make_parts ho2.rng (by omega) HP1.out).mono ?_
  rintro e w3 ⟨A, a3, cap3, rfl, hoA, hb3, hLA, _⟩
  have hb13 := (hb1.trans (hb2.mono hb1.size)).trans (hb3.mono (hb1.trans (hb2.mono hb1.size)).size)
  have hB3 : Below w.heap.size w w3 := hB0.trans (hb13.mono (by simp))
  have hs3 : w.heap.size < w3.heap.size := by have := hb13.size; simp at this; omega
  have c1 : w3.cell? ⟨w.heap.size, 1, none⟩ = some (.slice b nb cb) := (hb13.cell (p := ⟨w.heap.size, 1, none⟩) (by simp)).trans (World.cell?_alloc_mark _ _ _ _ _)
  clear hb1 hb2 hb3 hb13 ho1 ho2 HP1 hB0 hra
  go_wp2_with fail
  refine (right_any (hrb.below hB3)).mono ?_
  rintro e w4 ⟨o4, no4, co4, p4, rfl, ho4, hb4, HP4, hn4⟩
  go_wp2_with fail
  refine (lawCopied_any ho4.rng (by omega)).mono ?_
  rintro e w5 ⟨a5, cap5, rfl, ho5, hb5⟩
  go_wp2_with fail
  refine (make_parts ho5.rng (by omega) HP4.out).mono ?_
  rintro e w6 ⟨B, a6, cap6, rfl, hoB, hb6, hLB, _⟩
  have hb36 := (hb4.trans (hb5.mono hb4.size)).trans (hb6.mono (hb4.trans (hb5.mono hb4.size)).size)
  have hB6 : Below w.heap.size w w6 := hB3.trans (hb36.mono hB3.size)
  replace hoA := hoA.below hb36
  clear hb4 hb5 hb6 hb36 ho4 ho5 HP4 hrb c1 hB3
  have fA : (A.length : Int) ≤ 32768 := by have := hLA.few; omega
  have fB : (B.length : Int) ≤ 32768 := by have := hLB.few; omega
  have HLA : Hid (Lst A) := hLA
  have HLB : Hid (Lst B) := hLB
  clear hLA hLB
  have HC : Hid (∀ (W : World) (a : Option Addr) (n cap : Nat), Rng W a n cap [(2, 5), (6, 9)] → Calls Try.prog 17 #[.slice a n cap] W fun e w' => e = .returned (.tuple #[.int .i64 6, .int .i64 0]) ∧ Below W.heap.size W w') := fun W a n cap h1 =>
    (count_any h1).mono fun e w' ⟨he, hb⟩ => ⟨by rw [he]; rfl, hb⟩
  have HCN : Hid (∀ (W : World) (a : Option Addr) (n cap : Nat) (l : List (Int × Int)), Rng W a n cap l → Lst l → Calls Try.prog 17 #[.slice a n cap] W fun e w' => e = .returned (.tuple #[.int .i64 (belowL l 1048576), .int .i64 0]) ∧ Below W.heap.size W w') := fun W a n cap l h1 hl =>
    (count_any h1).mono fun e w' ⟨he, hb⟩ => ⟨by rw [he, hl.rank (by omega)], hb⟩
  go_wp2_with fail
  refine (HC.out _ _ _ _ (rng_lit2 _ _ _ _ _ _)).mono ?_
  rintro e w7 ⟨rfl, hb7⟩
  have hbx : Below w6.heap.size w6 w7 := ((Below.refl _ w6).alloc (Nat.le_refl _) _).trans (hb7.mono (by simp))
  have hB7 : Below w.heap.size w w7 := hB6.trans (hbx.mono hB6.size)
  replace hoA := hoA.below hbx
  replace hoB := hoB.below hbx
  clear hb7 hbx hB6 HC
  go_wp2_with fail
  refine (hnum _ _).mono ?_
  rintro e x7 ⟨rfl, rfl⟩
  go_wp2_with fail
  refine (hnum _ _).mono ?_
  rintro e x8 ⟨rfl, rfl⟩
  go_wp2_with fail
  refine (hnum _ _).mono ?_
  rintro e x9 ⟨rfl, rfl⟩
  go_wp2_with fail
  refine (copied_own hoA (by omega)).mono ?_
  rintro e w8 ⟨a8, c8, rfl, ho8, hb8⟩
  go_wp2_with fail
  refine (HCN.out _ _ _ _ A ho8.rng HLA.out).mono ?_
  rintro e w9 ⟨rfl, hb9⟩
  have hbx := hb8.trans (hb9.mono hb8.size)
  have hB9 : Below w.heap.size w w9 := hB7.trans (hbx.mono hB7.size)
  replace hoA := hoA.below hbx
  replace hoB := hoB.below hbx
  clear hb8 hb9 hbx hB7 ho8
  go_wp2_with fail
  refine (copied_own hoB (by omega)).mono ?_
  rintro e w10 ⟨a10, c10, rfl, ho10, hb10⟩
  go_wp2_with fail
  refine (HCN.out _ _ _ _ B ho10.rng HLB.out).mono ?_
  rintro e w11 ⟨rfl, hb11⟩
  have hbx := hb10.trans (hb11.mono hb10.size)
  have hB11 : Below w.heap.size w w11 := hB9.trans (hbx.mono hB9.size)
  replace hoA := hoA.below hbx
  replace hoB := hoB.below hbx
  clear hb10 hb11 hbx hB9 ho10
  go_wp2_with fail
  refine (hnum _ _).mono ?_
  rintro e x11 ⟨rfl, rfl⟩
  go_wp2_with fail
  refine (hnum _ _).mono ?_
  rintro e x12 ⟨rfl, rfl⟩
  have hcA := HLA.out.belowB A.length 1048576
  rw [List.take_length] at hcA
  have hcB := HLB.out.belowB B.length 1048576
  rw [List.take_length] at hcB
  obtain ⟨cA1, cA2⟩ := hcA
  obtain ⟨cB1, cB2⟩ := hcB
  obtain ⟨NA, hNA⟩ : ∃ z, belowL A 1048576 = z := ⟨_, rfl⟩
  obtain ⟨NB, hNB⟩ : ∃ z, belowL B 1048576 = z := ⟨_, rfl⟩
  have HNA : Hid (belowL A 1048576 = NA) := hNA
  have HNB : Hid (belowL B 1048576 = NB) := hNB
  rw [hNA] at cA1 cA2 ⊢
  rw [hNB] at cB1 cB2 ⊢
  clear hNA hNB
  go_wp2_with fail
  go_loopw [14, 15] (fun vs vi w' => ∃ j : Nat, j ≤ A.length ∧ vi = .int .i64 j ∧ vs = .int .i64 (belowL (A.take j) 1048576) ∧ Own w' w2.heap.size (.slice a3 A.length cap3) A ∧ Own w' w5.heap.size (.slice a6 B.length cap6) B ∧ Below w.heap.size w w') (fun _ i _ => A.length - (RowKit.intOf i).toNat)
  case atStart => exact ⟨0, Nat.zero_le _, rfl, rfl, hoA, hoB, hB11⟩
  case round =>
    clear hoA hoB hB11
    obtain ⟨j, hjn, rfl, rfl, hoA, hoB, hB⟩ := hrel
    obtain ⟨s1, s2⟩ := HLA.out.belowB j 1048576
    by_cases hj : j < A.length
    · obtain ⟨g, rfl, _, hg, _⟩ := own_ptr hoA (by omega)
      obtain ⟨g', off', e0, _, c0, c1⟩ := hoA.rng.cells j hj
      cases e0
      rw [Nat.zero_add] at c0 c1
      obtain ⟨r1, r2, r3⟩ := HLA.out.nonneg _ (getD_mem hj)
      have HRK : Hid (rankAns A (A.getD j (0, 0)).1 = (belowL (A.take j) 1048576, 0)) := by
        show _ = _
        rw [HLA.out.rank (by omega), rank_at HLA.out.norm HLA.out.top j hj]
      have hs3 : belowL (A.take (j + 1)) 1048576 = belowL (A.take j) 1048576 + (A.getD j (0, 0)).2 - (A.getD j (0, 0)).1 := by
        rw [take_getD A j hj, belowL_snoc, if_pos (by omega)]
        omega
      have HS3 : Hid (belowL (A.take (j + 1)) 1048576 = belowL (A.take j) 1048576 + (A.getD j (0, 0)).2 - (A.getD j (0, 0)).1) := hs3
      obtain ⟨s3, s4⟩ := HLA.out.belowB (j + 1) 1048576
      rw [hs3] at s3 s4
      clear hs3
      generalize (A.getD j (0, 0)).1 = lo at *
      generalize (A.getD j (0, 0)).2 = hi at *
      generalize belowL (A.take j) 1048576 = sm at *
      have u1 : IntKind.i64.wrap (sm + hi) = sm + hi := IntWalk.i64_in _ (by omega)
      have u2 : IntKind.i64.wrap (sm + hi - lo) = sm + hi - lo := IntWalk.i64_in _ (by omega)
      have hcs : (j : Int) < 40 ∨ (40 ≤ (j : Int) ∧ ((j : Int) == (A.length : Int) - 1) = true) ∨ (40 ≤ (j : Int) ∧ ((j : Int) == (A.length : Int) - 1) = false) := by
        by_cases h1 : (j : Int) < 40
        · exact .inl h1
        · cases h2 : ((j : Int) == (A.length : Int) - 1)
          · exact .inr (.inr ⟨by omega, rfl⟩)
          · exact .inr (.inl ⟨by omega, rfl⟩)
      rcases hcs with k1 | ⟨k1, k2⟩ | ⟨k1, k2⟩
      · go_upto_region 16 with fail
        go_cut [16, 17] (fun x y wx => x = .int .i64 sm ∧ y = .int .i64 0 ∧ Own wx w2.heap.size (.slice (some ⟨g, 0, none⟩) A.length cap3) A ∧ Own wx w5.heap.size (.slice a6 B.length cap6) B ∧ Below w.heap.size w wx ∧ Below wr.heap.size wr wx)
        case first =>
          go_region_held3 (fun W => W.cell? ⟨g, j * 2, none⟩ = some (.int .i64 lo)) (first | exact c0 | exact k5 | exact k4)
            (first
              | (go_at_call 10; refine (copied_own (B := w2.heap.size) (l := A) ?_ ?_).mono ?_; (exact hoA); (omega); rintro e v1 ⟨a1, q1, rfl, t1, g1⟩; have k4 : v1.cell? ⟨g, j * 2, none⟩ = some (.int .i64 lo) := (g1.cell (p := ⟨g, j * 2, none⟩) hg).trans c0; have gw : Below wr.heap.size wr v1 := (below_drew' (Below.refl _ _)).trans g1; have hg1 : g < v1.heap.size := Nat.lt_of_lt_of_le hg g1.size)
              | (go_at_call 18; refine (rank_any t1.rng lo).mono ?_; rintro e v2 ⟨rfl, g2⟩; have k5 : v2.cell? ⟨g, j * 2, none⟩ = some (.int .i64 lo) := (g2.cell (p := ⟨g, j * 2, none⟩) hg1).trans k4; have gw2 : Below wr.heap.size wr v2 := gw.trans (g2.mono gw.size); rw [HRK.out]))
          all_goals (go_wp2_with fail; go_meet; case rel => exact ⟨rfl, rfl, hoA.below gw2, hoB.below gw2, hB.trans (gw2.mono hB.size), gw2⟩)
        case rest =>
          obtain ⟨rfl, rfl, hoA2, hoB2, hB2, hwx⟩ := hcut
          have c2 := (hwx.cell (p := ⟨g, j * 2, none⟩) hg).trans c0
          have c3 := (hwx.cell (p := ⟨g, j * 2 + 1, none⟩) hg).trans c1
          have t9 : (sm == sm) = true := by simp
          clear c0 c1 hoA hoB hB hwx
          go_wp2_with fail
          refine (hnum _ _).mono ?_
          rintro e x20 ⟨rfl, rfl⟩
          go_wp2_with fail
          go_quiet (fail)
          go_wp2_with fail
          go_roundw
          case rel => exact ⟨j + 1, by omega, by go_num, by rw [HS3.out]; try simp [u1, u2], hoA2.below (below_drewN (Below.refl _ _) _), hoB2.below (below_drewN (Below.refl _ _) _), below_drewN hB2 _⟩
          case measure => simp [RowKit.intOf]; omega
      · go_upto_region 16 with fail
        go_cut [16, 17] (fun x y wx => x = .int .i64 sm ∧ y = .int .i64 0 ∧ Own wx w2.heap.size (.slice (some ⟨g, 0, none⟩) A.length cap3) A ∧ Own wx w5.heap.size (.slice a6 B.length cap6) B ∧ Below w.heap.size w wx ∧ Below wr.heap.size wr wx)
        case first =>
          go_region_held3 (fun W => W.cell? ⟨g, j * 2, none⟩ = some (.int .i64 lo)) (first | exact c0 | exact k5 | exact k4)
            (first
              | (go_at_call 10; refine (copied_own (B := w2.heap.size) (l := A) ?_ ?_).mono ?_; (exact hoA); (omega); rintro e v1 ⟨a1, q1, rfl, t1, g1⟩; have k4 : v1.cell? ⟨g, j * 2, none⟩ = some (.int .i64 lo) := (g1.cell (p := ⟨g, j * 2, none⟩) hg).trans c0; have gw : Below wr.heap.size wr v1 := (below_drew' (Below.refl _ _)).trans g1; have hg1 : g < v1.heap.size := Nat.lt_of_lt_of_le hg g1.size)
              | (go_at_call 18; refine (rank_any t1.rng lo).mono ?_; rintro e v2 ⟨rfl, g2⟩; have k5 : v2.cell? ⟨g, j * 2, none⟩ = some (.int .i64 lo) := (g2.cell (p := ⟨g, j * 2, none⟩) hg1).trans k4; have gw2 : Below wr.heap.size wr v2 := gw.trans (g2.mono gw.size); rw [HRK.out]))
          all_goals (go_wp2_with fail; go_meet; case rel => exact ⟨rfl, rfl, hoA.below gw2, hoB.below gw2, hB.trans (gw2.mono hB.size), gw2⟩)
        case rest =>
          obtain ⟨rfl, rfl, hoA2, hoB2, hB2, hwx⟩ := hcut
          have c2 := (hwx.cell (p := ⟨g, j * 2, none⟩) hg).trans c0
          have c3 := (hwx.cell (p := ⟨g, j * 2 + 1, none⟩) hg).trans c1
          have t9 : (sm == sm) = true := by simp
          clear c0 c1 hoA hoB hB hwx
          go_wp2_with fail
          refine (hnum _ _).mono ?_
          rintro e x20 ⟨rfl, rfl⟩
          go_wp2_with fail
          go_quiet (fail)
          go_wp2_with fail
          go_roundw
          case rel => exact ⟨j + 1, by omega, by go_num, by rw [HS3.out]; try simp [u1, u2], hoA2.below (below_drewN (Below.refl _ _) _), hoB2.below (below_drewN (Below.refl _ _) _), below_drewN hB2 _⟩
          case measure => simp [RowKit.intOf]; omega
      · go_wp2_with fail
        go_quiet (fail)
        go_wp2_with fail
        go_roundw
        case rel => exact ⟨j + 1, by omega, by go_num, by rw [HS3.out]; try simp [u1, u2], hoA.below (below_drewN (Below.refl _ _) _), hoB.below (below_drewN (Below.refl _ _) _), below_drewN hB _⟩
        case measure => simp [RowKit.intOf]; omega
    · have e1 : A.take j = A := List.take_of_length_le (by omega)
      rw [e1, HNA.out]
      clear s1 s2 e1
      have t0 : (NA == NA) = true := by simp
      go_wp2_with fail
      refine (copied_own hoA (by omega)).mono ?_
      rintro e m1 ⟨p1, q1, rfl, t1, g1⟩
      go_wp2_with fail
      refine (rank_any t1.rng 1048576).mono ?_
      rw [HLA.out.rank (by omega), HNA.out]
      rintro e m2 ⟨rfl, g2⟩
      have hb1 := g1.trans (g2.mono g1.size)
      replace hB := hB.trans (hb1.mono hB.size)
      replace hoA := hoA.below hb1
      replace hoB := hoB.below hb1
      clear g1 g2 hb1 t1
      go_wp2_with fail
      refine (hnum _ _).mono ?_
      rintro e x30 ⟨rfl, rfl⟩
      go_wp2_with fail
      refine (copied_own hoA (by omega)).mono ?_
      rintro e m3 ⟨p3, q3, rfl, t3, g3⟩
      have HNT : Hid (Calls Try.prog 19 #[.slice p3 A.length q3, .int .i64 at_] m3 _) := nth_any t3.rng at_ hba.2
      replace hB := hB.trans (g3.mono hB.size)
      replace hoA := hoA.below g3
      replace hoB := hoB.below g3
      clear g3
      by_cases hk : at_ < 0 ∨ NA ≤ at_
      · have e2 : nthAns A at_ = (0, 12) := by
          unfold nthAns
          rw [HLA.out.check, if_pos rfl]
          split
          · rfl
          · rw [nthL_out HLA.out.nonneg (by rw [HNA.out]; omega)]
            rfl
        rw [e2] at HNT
        have hcs : at_ < 0 ∨ (0 ≤ at_ ∧ NA ≤ at_) := by omega
        clear e2 hk t3
        rcases hcs with k1 | ⟨k1, k2⟩
        · go_wp2_with fail
          refine HNT.out.mono ?_
          rintro e m4 ⟨rfl, g4⟩
          replace hB := hB.trans (g4.mono hB.size)
          replace hoA := hoA.below g4
          replace hoB := hoB.below g4
          clear g4 HNT
          go_wp2_with fail
          refine (hnum _ _).mono ?_
          rintro e x31 ⟨rfl, rfl⟩
          by_cases hbig : (32768 : Int) < A.length + B.length
          · clear hoA hoB
            go_wp2_with fail
            go_ret
            exact ⟨rfl, hB⟩
          · have HSMM : Hid (¬ (32768 : Int) < A.length + B.length) := hbig
            have dsm : decide ((32768 : Int) < (A.length : Int) + (B.length : Int)) = false := decide_eq_false hbig
            clear hbig
            go_wp2_with fail
            refine (copied_own hoA (by omega)).mono ?_
            rintro e v1 ⟨p1, q1, rfl, t1, g1⟩
            go_wp2_with fail
            refine (copied_own (hoB.below g1) (by omega)).mono ?_
            rintro e v2 ⟨p2, q2, rfl, t2, g2⟩
            go_wp2_with fail
            refine (union_set (t1.below g2).rng t2.rng HLA.out HLB.out).mono ?_
            rintro e v3 ⟨U, uN, uM, uA, g3⟩
            have hb1 := (g1.trans (g2.mono g1.size)).trans (g3.mono (g1.trans (g2.mono g1.size)).size)
            have hB1 := hB.trans (hb1.mono hB.size)
            replace hoA := hoA.below hb1
            replace hoB := hoB.below hb1
            have ul := len_union uN uM
            have hsm := HSMM.out
            obtain ⟨zu, czu, rfl, hoU⟩ : ∃ z cz, e = .returned (.tuple #[.slice z U.length cz, .int .i64 0]) ∧ Own v3 _ (.slice z U.length cz) U := by
              rcases uA with ⟨h, _⟩ | ⟨_, z, cz, h, ho⟩
              · omega
              · exact ⟨z, cz, h, ho⟩
            have HUM : Hid (∀ q, Lies U q ↔ Lies A q ∨ Lies B q) := uM
            have HLU : Hid (Lst U) := lst_of uN (fun q hq => by rcases (uM q).1 hq with h | h; exact (lst_lies HLA.out h).2; exact (lst_lies HLB.out h).2) (by omega)
            clear g1 g2 g3 t1 t2 hb1 hB uN uM uA hsm
            go_wp2_with fail
            refine (copied_own hoA (by omega)).mono ?_
            rintro e v4 ⟨p4, q4, rfl, t4, g4⟩
            go_wp2_with fail
            refine (copied_own (hoB.below g4) (by omega)).mono ?_
            rintro e v5 ⟨p5, q5, rfl, t5, g5⟩
            go_wp2_with fail
            refine (meet_set (t4.below g5).rng t5.rng HLA.out HLB.out).mono ?_
            rintro e v6 ⟨V, vN, vM, vA, g6⟩
            have hb2 := (g4.trans (g5.mono g4.size)).trans (g6.mono (g4.trans (g5.mono g4.size)).size)
            have hB2 := hB1.trans (hb2.mono hB1.size)
            replace hoU := hoU.below hb2
            have vl := len_meet vN vM
            have hsm := HSMM.out
            obtain ⟨zv, czv, rfl, hoV⟩ : ∃ z cz, e = .returned (.tuple #[.slice z V.length cz, .int .i64 0]) ∧ Own v6 _ (.slice z V.length cz) V := by
              rcases vA with ⟨h, _⟩ | ⟨_, z, cz, h, ho⟩
              · omega
              · exact ⟨z, cz, h, ho⟩
            have HLV : Hid (Lst V) := lst_of vN (fun q hq => (lst_lies HLA.out ((vM q).1 hq).1).2) (by omega)
            have HSUM : Hid (belowL U 1048576 + belowL V 1048576 = NA + NB) := by
              show _ = _
              rw [← HNA.out, ← HNB.out]
              exact belowL_both HLA.out.norm HLB.out.norm HLU.out.norm vN HUM.out vM 1048576
            obtain ⟨cU1, cU2⟩ := HLU.out.belowB U.length 1048576
            obtain ⟨cV1, cV2⟩ := HLV.out.belowB V.length 1048576
            rw [List.take_length] at cU1 cU2 cV1 cV2
            clear g4 g5 g6 t4 t5 hb2 hB1 vN vM vA hsm hoA hoB
            go_wp2_with fail
            refine (HCN.out _ _ _ _ U hoU.rng HLU.out).mono ?_
            rintro e v7 ⟨rfl, g7⟩
            have hB7 := hB2.trans (g7.mono hB2.size)
            replace hoV := hoV.below g7
            clear g7 hB2
            go_wp2_with fail
            refine (HCN.out _ _ _ _ V hoV.rng HLV.out).mono ?_
            rintro e v8 ⟨rfl, g8⟩
            have hB8 := hB7.trans (g8.mono hB7.size)
            clear g8 hB7 hoU hoV
            generalize belowL U 1048576 = NU at *
            generalize belowL V 1048576 = NV at *
            have t7 : (NU + NV == NA + NB) = true := by have := HSUM.out; simp [this]
            go_wp2_with fail
            refine (hnum _ _).mono ?_
            rintro e n1 ⟨rfl, rfl⟩
            go_wp2_with fail
            refine (hnum _ _).mono ?_
            rintro e n2 ⟨rfl, rfl⟩
            go_wp2_with fail
            refine (hnum _ _).mono ?_
            rintro e n3 ⟨rfl, rfl⟩
            go_wp2_with fail
            refine (hnum _ _).mono ?_
            rintro e n4 ⟨rfl, rfl⟩
            go_wp2_with fail
            go_ret
            exact ⟨rfl, hB8⟩
        · go_wp2_with fail
          refine HNT.out.mono ?_
          rintro e m4 ⟨rfl, g4⟩
          replace hB := hB.trans (g4.mono hB.size)
          replace hoA := hoA.below g4
          replace hoB := hoB.below g4
          clear g4 HNT
          go_wp2_with fail
          refine (hnum _ _).mono ?_
          rintro e x31 ⟨rfl, rfl⟩
          by_cases hbig : (32768 : Int) < A.length + B.length
          · clear hoA hoB
            go_wp2_with fail
            go_ret
            exact ⟨rfl, hB⟩
          · have HSMM : Hid (¬ (32768 : Int) < A.length + B.length) := hbig
            have dsm : decide ((32768 : Int) < (A.length : Int) + (B.length : Int)) = false := decide_eq_false hbig
            clear hbig
            go_wp2_with fail
            refine (copied_own hoA (by omega)).mono ?_
            rintro e v1 ⟨p1, q1, rfl, t1, g1⟩
            go_wp2_with fail
            refine (copied_own (hoB.below g1) (by omega)).mono ?_
            rintro e v2 ⟨p2, q2, rfl, t2, g2⟩
            go_wp2_with fail
            refine (union_set (t1.below g2).rng t2.rng HLA.out HLB.out).mono ?_
            rintro e v3 ⟨U, uN, uM, uA, g3⟩
            have hb1 := (g1.trans (g2.mono g1.size)).trans (g3.mono (g1.trans (g2.mono g1.size)).size)
            have hB1 := hB.trans (hb1.mono hB.size)
            replace hoA := hoA.below hb1
            replace hoB := hoB.below hb1
            have ul := len_union uN uM
            have hsm := HSMM.out
            obtain ⟨zu, czu, rfl, hoU⟩ : ∃ z cz, e = .returned (.tuple #[.slice z U.length cz, .int .i64 0]) ∧ Own v3 _ (.slice z U.length cz) U := by
              rcases uA with ⟨h, _⟩ | ⟨_, z, cz, h, ho⟩
              · omega
              · exact ⟨z, cz, h, ho⟩
            have HUM : Hid (∀ q, Lies U q ↔ Lies A q ∨ Lies B q) := uM
            have HLU : Hid (Lst U) := lst_of uN (fun q hq => by rcases (uM q).1 hq with h | h; exact (lst_lies HLA.out h).2; exact (lst_lies HLB.out h).2) (by omega)
            clear g1 g2 g3 t1 t2 hb1 hB uN uM uA hsm
            go_wp2_with fail
            refine (copied_own hoA (by omega)).mono ?_
            rintro e v4 ⟨p4, q4, rfl, t4, g4⟩
            go_wp2_with fail
            refine (copied_own (hoB.below g4) (by omega)).mono ?_
            rintro e v5 ⟨p5, q5, rfl, t5, g5⟩
            go_wp2_with fail
            refine (meet_set (t4.below g5).rng t5.rng HLA.out HLB.out).mono ?_
            rintro e v6 ⟨V, vN, vM, vA, g6⟩
            have hb2 := (g4.trans (g5.mono g4.size)).trans (g6.mono (g4.trans (g5.mono g4.size)).size)
            have hB2 := hB1.trans (hb2.mono hB1.size)
            replace hoU := hoU.below hb2
            have vl := len_meet vN vM
            have hsm := HSMM.out
            obtain ⟨zv, czv, rfl, hoV⟩ : ∃ z cz, e = .returned (.tuple #[.slice z V.length cz, .int .i64 0]) ∧ Own v6 _ (.slice z V.length cz) V := by
              rcases vA with ⟨h, _⟩ | ⟨_, z, cz, h, ho⟩
              · omega
              · exact ⟨z, cz, h, ho⟩
            have HLV : Hid (Lst V) := lst_of vN (fun q hq => (lst_lies HLA.out ((vM q).1 hq).1).2) (by omega)
            have HSUM : Hid (belowL U 1048576 + belowL V 1048576 = NA + NB) := by
              show _ = _
              rw [← HNA.out, ← HNB.out]
              exact belowL_both HLA.out.norm HLB.out.norm HLU.out.norm vN HUM.out vM 1048576
            obtain ⟨cU1, cU2⟩ := HLU.out.belowB U.length 1048576
            obtain ⟨cV1, cV2⟩ := HLV.out.belowB V.length 1048576
            rw [List.take_length] at cU1 cU2 cV1 cV2
            clear g4 g5 g6 t4 t5 hb2 hB1 vN vM vA hsm hoA hoB
            go_wp2_with fail
            refine (HCN.out _ _ _ _ U hoU.rng HLU.out).mono ?_
            rintro e v7 ⟨rfl, g7⟩
            have hB7 := hB2.trans (g7.mono hB2.size)
            replace hoV := hoV.below g7
            clear g7 hB2
            go_wp2_with fail
            refine (HCN.out _ _ _ _ V hoV.rng HLV.out).mono ?_
            rintro e v8 ⟨rfl, g8⟩
            have hB8 := hB7.trans (g8.mono hB7.size)
            clear g8 hB7 hoU hoV
            generalize belowL U 1048576 = NU at *
            generalize belowL V 1048576 = NV at *
            have t7 : (NU + NV == NA + NB) = true := by have := HSUM.out; simp [this]
            go_wp2_with fail
            refine (hnum _ _).mono ?_
            rintro e n1 ⟨rfl, rfl⟩
            go_wp2_with fail
            refine (hnum _ _).mono ?_
            rintro e n2 ⟨rfl, rfl⟩
            go_wp2_with fail
            refine (hnum _ _).mono ?_
            rintro e n3 ⟨rfl, rfl⟩
            go_wp2_with fail
            refine (hnum _ _).mono ?_
            rintro e n4 ⟨rfl, rfl⟩
            go_wp2_with fail
            go_ret
            exact ⟨rfl, hB8⟩
      · have hk0 : 0 ≤ at_ := by omega
        have hk1 : at_ < NA := by omega
        obtain ⟨q, hq⟩ := nthL_in HLA.out.nonneg hk0 (by rw [HNA.out]; exact hk1)
        obtain ⟨hq1, hq2⟩ := nthL_some HLA.out.norm hk0 hq
        have hq3 := lst_lies HLA.out hq2
        have e2 : nthAns A at_ = (q, 0) := by
          unfold nthAns
          rw [HLA.out.check, if_pos rfl, if_neg (by omega), hq]
          rfl
        rw [e2] at HNT
        have HRQ : Hid (rankAns A q = (at_, 0)) := by
          show _ = _
          rw [HLA.out.rank (by omega), hq1]
        have HLQ : Hid (Lies A q) := hq2
        have tk : (at_ == at_) = true := by simp
        clear e2 hk t3 hq hq1 hq2
        go_wp2_with fail
        refine HNT.out.mono ?_
        rintro e m4 ⟨rfl, g4⟩
        replace hB := hB.trans (g4.mono hB.size)
        replace hoA := hoA.below g4
        replace hoB := hoB.below g4
        clear g4 HNT
        go_wp2_with fail
        refine (copied_own hoA (by omega)).mono ?_
        rintro e m5 ⟨p5, q5, rfl, t5, g5⟩
        go_wp2_with fail
        refine (rank_any t5.rng q).mono ?_
        rw [HRQ.out]
        rintro e m6 ⟨rfl, g6⟩
        have hb1 := g5.trans (g6.mono g5.size)
        replace hB := hB.trans (hb1.mono hB.size)
        replace hoA := hoA.below hb1
        replace hoB := hoB.below hb1
        clear g5 g6 hb1 t5
        go_wp2_with fail
        refine (hnum _ _).mono ?_
        rintro e x31 ⟨rfl, rfl⟩
        go_wp2_with fail
        refine (hnum _ _).mono ?_
        rintro e x32 ⟨rfl, rfl⟩
        go_wp2_with fail
        refine (liesLaw_any hoA.rng q).mono ?_
        rintro e m7 ⟨g7, ⟨_, rfl⟩ | ⟨hno, _⟩⟩
        · replace hB := hB.trans (g7.mono hB.size)
          replace hoA := hoA.below g7
          replace hoB := hoB.below g7
          clear g7
          by_cases hbig : (32768 : Int) < A.length + B.length
          · clear hoA hoB
            go_wp2_with fail
            go_ret
            exact ⟨rfl, hB⟩
          · have HSMM : Hid (¬ (32768 : Int) < A.length + B.length) := hbig
            have dsm : decide ((32768 : Int) < (A.length : Int) + (B.length : Int)) = false := decide_eq_false hbig
            clear hbig
            go_wp2_with fail
            refine (copied_own hoA (by omega)).mono ?_
            rintro e v1 ⟨p1, q1, rfl, t1, g1⟩
            go_wp2_with fail
            refine (copied_own (hoB.below g1) (by omega)).mono ?_
            rintro e v2 ⟨p2, q2, rfl, t2, g2⟩
            go_wp2_with fail
            refine (union_set (t1.below g2).rng t2.rng HLA.out HLB.out).mono ?_
            rintro e v3 ⟨U, uN, uM, uA, g3⟩
            have hb1 := (g1.trans (g2.mono g1.size)).trans (g3.mono (g1.trans (g2.mono g1.size)).size)
            have hB1 := hB.trans (hb1.mono hB.size)
            replace hoA := hoA.below hb1
            replace hoB := hoB.below hb1
            have ul := len_union uN uM
            have hsm := HSMM.out
            obtain ⟨zu, czu, rfl, hoU⟩ : ∃ z cz, e = .returned (.tuple #[.slice z U.length cz, .int .i64 0]) ∧ Own v3 _ (.slice z U.length cz) U := by
              rcases uA with ⟨h, _⟩ | ⟨_, z, cz, h, ho⟩
              · omega
              · exact ⟨z, cz, h, ho⟩
            have HUM : Hid (∀ q, Lies U q ↔ Lies A q ∨ Lies B q) := uM
            have HLU : Hid (Lst U) := lst_of uN (fun q hq => by rcases (uM q).1 hq with h | h; exact (lst_lies HLA.out h).2; exact (lst_lies HLB.out h).2) (by omega)
            clear g1 g2 g3 t1 t2 hb1 hB uN uM uA hsm
            go_wp2_with fail
            refine (copied_own hoA (by omega)).mono ?_
            rintro e v4 ⟨p4, q4, rfl, t4, g4⟩
            go_wp2_with fail
            refine (copied_own (hoB.below g4) (by omega)).mono ?_
            rintro e v5 ⟨p5, q5, rfl, t5, g5⟩
            go_wp2_with fail
            refine (meet_set (t4.below g5).rng t5.rng HLA.out HLB.out).mono ?_
            rintro e v6 ⟨V, vN, vM, vA, g6⟩
            have hb2 := (g4.trans (g5.mono g4.size)).trans (g6.mono (g4.trans (g5.mono g4.size)).size)
            have hB2 := hB1.trans (hb2.mono hB1.size)
            replace hoU := hoU.below hb2
            have vl := len_meet vN vM
            have hsm := HSMM.out
            obtain ⟨zv, czv, rfl, hoV⟩ : ∃ z cz, e = .returned (.tuple #[.slice z V.length cz, .int .i64 0]) ∧ Own v6 _ (.slice z V.length cz) V := by
              rcases vA with ⟨h, _⟩ | ⟨_, z, cz, h, ho⟩
              · omega
              · exact ⟨z, cz, h, ho⟩
            have HLV : Hid (Lst V) := lst_of vN (fun q hq => (lst_lies HLA.out ((vM q).1 hq).1).2) (by omega)
            have HSUM : Hid (belowL U 1048576 + belowL V 1048576 = NA + NB) := by
              show _ = _
              rw [← HNA.out, ← HNB.out]
              exact belowL_both HLA.out.norm HLB.out.norm HLU.out.norm vN HUM.out vM 1048576
            obtain ⟨cU1, cU2⟩ := HLU.out.belowB U.length 1048576
            obtain ⟨cV1, cV2⟩ := HLV.out.belowB V.length 1048576
            rw [List.take_length] at cU1 cU2 cV1 cV2
            clear g4 g5 g6 t4 t5 hb2 hB1 vN vM vA hsm hoA hoB
            go_wp2_with fail
            refine (HCN.out _ _ _ _ U hoU.rng HLU.out).mono ?_
            rintro e v7 ⟨rfl, g7⟩
            have hB7 := hB2.trans (g7.mono hB2.size)
            replace hoV := hoV.below g7
            clear g7 hB2
            go_wp2_with fail
            refine (HCN.out _ _ _ _ V hoV.rng HLV.out).mono ?_
            rintro e v8 ⟨rfl, g8⟩
            have hB8 := hB7.trans (g8.mono hB7.size)
            clear g8 hB7 hoU hoV
            generalize belowL U 1048576 = NU at *
            generalize belowL V 1048576 = NV at *
            have t7 : (NU + NV == NA + NB) = true := by have := HSUM.out; simp [this]
            go_wp2_with fail
            refine (hnum _ _).mono ?_
            rintro e n1 ⟨rfl, rfl⟩
            go_wp2_with fail
            refine (hnum _ _).mono ?_
            rintro e n2 ⟨rfl, rfl⟩
            go_wp2_with fail
            refine (hnum _ _).mono ?_
            rintro e n3 ⟨rfl, rfl⟩
            go_wp2_with fail
            refine (hnum _ _).mono ?_
            rintro e n4 ⟨rfl, rfl⟩
            go_wp2_with fail
            go_ret
            exact ⟨rfl, hB8⟩
        · exact absurd HLQ.out hno
end Go.Proofs.Ytohfckcikincoaa
