import Derived.Test.YtlebbffpbbjakaaDoorXfPG
import Derived.Test.YtlebbffpbbjakaaDoorXfA
import Derived.Deep.RegionWith
namespace Go.Proofs.YtlebbffpbbjakaaDoor
open Go.RowKit Go.Lib
set_option maxRecDepth 100000

theorem errs_zero {L : List OpM} {t : Nat} (h : RunG t (L.map (·.1))) (hb : t + 5 * L.length ≤ 900) : errs L = 0 := RunG.own h (by rw [List.length_map]; exact hb)
theorem okOps_of {w : World} {L : List OpM} (h : ∀ x ∈ L, Rdy w x) : OkOps w L := fun x hx => ⟨(h x hx).rng, by have := (h x hx).size; omega⟩
set_option maxHeartbeats 16000000 in
theorem Cross_ok {w : World} {a : Option Addr} {n cap : Nat} {b : Option Addr} {m capb : Nat} {Bf Bl : Nat} {F L : List OpM} (hF : OwnF opF 9 42 w Bf (.slice a n cap) F) (hL : OwnF opF 9 42 w Bl (.slice b m capb) L) (rF : ∀ x ∈ F, Rdy w x) (rL : ∀ x ∈ L, Rdy w x) (hw : Bar w)
    {t : Nat} (gF : RunG t (F.map (·.1))) (gL : RunG t (L.map (·.1))) (hu : ∀ f ∈ F.map (·.1), ∀ l ∈ L.map (·.1), Unlike f l) (hbd : t + 5 * F.length + 5 * L.length ≤ 700) :
    Calls Tryd.prog 9 #[.slice a n cap, .slice b m capb] w fun e w' => ∃ a1 c1 a2 c2 F' L', e = .returned (.tuple #[.slice a1 n c1, .slice a2 m c2, .int .i64 0]) ∧ OwnF opF 9 42 w' w.heap.size (.slice a1 n c1) F' ∧ OwnF opF 9 42 w' w.heap.size (.slice a2 m c2) L' ∧ F'.map (·.1) = (crossAll (F.map (·.1)) (L.map (·.1))).1 ∧ L'.map (·.1) = (crossAll (F.map (·.1)) (L.map (·.1))).2 ∧ OwnRs w' w.heap.size F' ∧ OwnRs w' w.heap.size L' ∧ Below w.heap.size w w' := by
  have ln := (hF.rw_ layO).len
  have lm := (hL.rw_ layO).len
  have HE1 : Hid (∀ W, Below w.heap.size w W → Calls Tryd.prog 33 #[.slice a n cap] W fun e w' => e = .returned (.int .i64 0) ∧ Below W.heap.size W w') := fun W hb => by
    have := ownErrors_any ((hF.rw_ layO).below hb) ((okOps_of rF).below hb) (hw.below hb)
    rw [errs_zero gF (by omega)] at this
    exact this
  have HE2 : Hid (∀ W, Below w.heap.size w W → Calls Tryd.prog 33 #[.slice b m capb] W fun e w' => e = .returned (.int .i64 0) ∧ Below W.heap.size W w') := fun W hb => by
    have := ownErrors_any ((hL.rw_ layO).below hb) ((okOps_of rL).below hb) (hw.below hb)
    rw [errs_zero gL (by omega)] at this
    exact this
  have HC1 : Hid (∀ W, Below w.heap.size w W → Calls Tryd.prog 34 #[.slice a n cap] W fun e w' => ∃ a' cap', e = .returned (.slice a' n cap') ∧ OwnF opF 9 42 w' W.heap.size (.slice a' n cap') F ∧ Below W.heap.size W w') := fun W hb => cloneOps_any (hF.below hb) (by omega)
  have HC2 : Hid (∀ W, Below w.heap.size w W → Calls Tryd.prog 34 #[.slice b m capb] W fun e w' => ∃ a' cap', e = .returned (.slice a' m cap') ∧ OwnF opF 9 42 w' W.heap.size (.slice a' m cap') L ∧ Below W.heap.size W w') := fun W hb => cloneOps_any (hL.below hb) (by omega)
  have HBar : Hid (∀ W, Below w.heap.size w W → Bar W) := fun W hb => hw.below hb
  have HRF : Hid (∀ x ∈ F, Rdy w x) := rF
  have HRL : Hid (∀ x ∈ L, Rdy w x) := rL
  have HST := st_start gF gL hu (by rw [List.length_map, List.length_map]; omega)
  rw [List.length_map, List.length_map, ln, lm] at HST
  generalize (crossAll (F.map (·.1)) (L.map (·.1))).1 = R1 at *
  generalize (crossAll (F.map (·.1)) (L.map (·.1))).2 = R2 at *
  have HS0 : Hid (St R1 R2 n m 0 (F.map (·.1)) (L.map (·.1))) := HST
  have hn9 : n ≤ 700 := by omega
  have hm9 : m ≤ 700 := by omega
  clear hF hL rF rL hw gF gL hu hbd HST
  go_enter Tryd.func9, Tryd.ntmps9
  go_wp2_with fail
  refine (HE1.out _ (Below.refl _ _)).mono ?_
  rintro e w1 ⟨rfl, b1⟩
  go_wp2_with fail
  refine (HE2.out _ b1).mono ?_
  rintro e w2 ⟨rfl, h2⟩
  have b2 := b1.trans (h2.mono b1.size)
  go_wp2_with fail
  refine (HC1.out _ b2).mono ?_
  rintro e w3 ⟨a1, c1, rfl, ho1, h3⟩
  have b3 := b2.trans (h3.mono b2.size)
  go_wp2_with fail
  refine (HC2.out _ b3).mono ?_
  rintro e w4 ⟨a2, c2, rfl, ho2, h4⟩
  have b4 := b3.trans (h4.mono b3.size)
  have HNE : Hid (∀ d1 d2 : Addr, a1 = some d1 → a2 = some d2 → d1.block ≠ d2.block) := fun d1 d2 e1 e2 => by
    subst e1 e2
    have h1 : d1.block < w3.heap.size := ho1.lt rfl
    have h2 : w3.heap.size ≤ d2.block := ho2.ge rfl
    omega
  have HM0 : Hid (MemC w a1 a2 n c1 m c2 w4 F L) := by
    have q1 : ∀ ad, a1 = some ad → w.heap.size ≤ ad.block := fun ad e => by
      subst e
      have h1 : w2.heap.size ≤ ad.block := ho1.ge rfl
      have := b2.size
      omega
    have q2 : ∀ ad, a2 = some ad → w.heap.size ≤ ad.block := fun ad e => by
      subst e
      have h1 : w3.heap.size ≤ ad.block := ho2.ge rfl
      have := b3.size
      omega
    exact ⟨(ho1.below h4).mono b2.size, ho2.mono b3.size, fun x hx => ⟨(HRF.out x hx).below b4, rng_apt (HRF.out x hx).rng q1, rng_apt (HRF.out x hx).rng q2⟩, fun x hx => ⟨(HRL.out x hx).below b4, rng_apt (HRL.out x hx).rng q1, rng_apt (HRL.out x hx).rng q2⟩, b4⟩
  clear ho1 ho2 b1 b2 b3 b4 h2 h3 h4 HE1 HE2 HC1 HC2 HRF HRL ln lm w1 w2 w3
  go_wp2_with fail
  go_loopw [4, 5, 6, 7, 8, 25] (fun v4 v5 v6 v7 v8 v25 W => ∃ (i : Nat) (FM LM : List OpM), v4 = .slice a1 n c1 ∧ v5 = .slice a2 m c2 ∧ v25 = .int .i64 (i : Int) ∧ v6 = .int .i64 0 ∧ i ≤ m ∧ Hid (St R1 R2 n m i (FM.map (·.1)) (LM.map (·.1))) ∧ Hid (MemC w a1 a2 n c1 m c2 W FM LM)) (fun _ _ _ _ _ v25 _ => m - (RowKit.intOf v25).toNat)
  case atStart => exact ⟨0, F, L, rfl, rfl, rfl, rfl, Nat.zero_le _, HS0, HM0⟩
  case round =>
    obtain ⟨i, FM, LM, rfl, rfl, rfl, rfl, him, HS, HM⟩ := hrel
    by_cases hi : i < m
    · have d1 : (i : Int) < (m : Int) := by omega
      have d0 : (0 : Int) ≤ (i : Int) := by omega
      obtain ⟨l0, t0, hs2⟩ := st_row HS.out hi
      have HS2 : Hid (∃ l t, St2 R1 R2 n m i 0 (FM.map (·.1)) (LM.map (·.1)) l t) := ⟨l0, t0, hs2⟩
      clear hs2 HS HS0 HM0
      go_wp2_with fail
      go_loopw [4, 5, 6, 8, 30] (fun v4 v5 v6 v8 v30 W => ∃ (j : Nat) (FM LM : List OpM), v4 = .slice a1 n c1 ∧ v5 = .slice a2 m c2 ∧ v30 = .int .i64 (j : Int) ∧ v6 = .int .i64 0 ∧ j ≤ n ∧ Hid (∃ l t, St2 R1 R2 n m i j (FM.map (·.1)) (LM.map (·.1)) l t) ∧ Hid (MemC w a1 a2 n c1 m c2 W FM LM)) (fun _ _ _ _ v30 _ => n - (RowKit.intOf v30).toNat)
      case atStart => exact ⟨0, FM, LM, rfl, rfl, rfl, rfl, Nat.zero_le _, HS2, HM⟩
      case round =>
        clear HS2 HM
        obtain ⟨j, FM, LM, rfl, rfl, rfl, rfl, hjn, HS2, HM⟩ := hrel
        by_cases hj : j < n
        · have f1 : (j : Int) < (n : Int) := by omega
          have f0 : (0 : Int) ≤ (j : Int) := by omega
          obtain ⟨l, t, hs2⟩ := HS2.out
          have hM := HM.out
          have lF : FM.length = n := (hM.fst.rw_ layO).len
          have lL : LM.length = m := (hM.snd.rw_ layO).len
          obtain ⟨g1, cc1, e1, _⟩ := hM.fst.ptr (by omega)
          simp only [Value.slice.injEq] at e1
          obtain ⟨rfl, en1, rfl⟩ := e1
          obtain ⟨g2, cc2, e2, _⟩ := hM.snd.ptr (by omega)
          simp only [Value.slice.injEq] at e2
          obtain ⟨rfl, en2, rfl⟩ := e2
          clear en1 en2
          have hg : g1 ≠ g2 := HNE.out _ _ rfl rfl
          obtain ⟨x, hx⟩ : ∃ x, FM[j]? = some x := ⟨_, List.getElem?_eq_getElem (by omega)⟩
          obtain ⟨y, hy⟩ : ∃ y, LM[i]? = some y := ⟨_, List.getElem?_eq_getElem (by omega)⟩
          have hly : y.1 = l := by
            have := hs2.at_
            rw [List.getElem?_map, hy] at this
            simpa using this
          subst hly
          obtain ⟨z1, z2, ox, oy, hs3⟩ := st2_step hs2 (f := x.1) (by rw [List.getElem?_map, hx]; rfl)
          have HS3 : Hid (∀ (va : Option Addr) (vm vc : Nat) (ya : Option Addr) (ym yc : Nat), ∃ l t, St2 R1 R2 n m i (j + 1) ((FM.set j ((inclP x.1 y.1 false).1, (va, vm, vc))).map (·.1)) ((LM.set i ((inclP y.1 x.1 true).1, (ya, ym, yc))).map (·.1)) l t) := fun va vm vc ya ym yc => ⟨_, _, by rw [List.map_set, List.map_set]; exact hs3⟩
          have rx := (hM.rf x (List.mem_of_getElem? hx)).1
          have ry := (hM.rl y (List.mem_of_getElem? hy)).1
          have HX : Hid (∀ W, Below wr.heap.size wr W → Calls Tryd.prog 35 #[opVal x.1 (.slice x.2.1 x.2.2.1 x.2.2.2), opVal y.1 (.slice y.2.1 y.2.2.1 y.2.2.2)] W fun e w' => ∃ va vm vc ya ym yc, e = .returned (.tuple #[opVal (inclP x.1 y.1 false).1 (.slice va vm vc), opVal (inclP y.1 x.1 true).1 (.slice ya ym yc), .int .i64 0]) ∧ Src (.slice x.2.1 x.2.2.1 x.2.2.2) x.1.l W w' (.slice va vm vc) (inclP x.1 y.1 false).1.l ∧ Src (.slice y.2.1 y.2.2.1 y.2.2.2) y.1.l W w' (.slice ya ym yc) (inclP y.1 x.1 true).1.l ∧ Below W.heap.size W w') := fun W hb => crossed_ok (rx.rng.below hb) (ry.rng.below hb) (by have := rx.size; omega) (by have := ry.size; omega) (HBar.out W (hM.bel.trans (hb.mono hM.bel.size))) (right_of ox) (right_of oy) z1 z2
          have hfx : (inclP x.1 y.1 false).1.l.length ≤ 1000000000 ∧ (inclP x.1 y.1 false).1.s.size ≤ 281474976710656 := by
            have := inclP_few false (o2 := y.1) (right_of ox)
            have := inclP_s x.1 y.1 false
            have := rx.size
            omega
          have hfy : (inclP y.1 x.1 true).1.l.length ≤ 1000000000 ∧ (inclP y.1 x.1 true).1.s.size ≤ 281474976710656 := by
            have := inclP_few true (o2 := x.1) (right_of oy)
            have := inclP_s y.1 x.1 true
            have := ry.size
            omega
          have HST : Hid (∀ (w5 : World) (va : Option Addr) (vm vc : Nat) (ya : Option Addr) (ym yc : Nat), Below wr.heap.size wr w5 → Src (.slice x.2.1 x.2.2.1 x.2.2.2) x.1.l wr w5 (.slice va vm vc) (inclP x.1 y.1 false).1.l → Src (.slice y.2.1 y.2.2.1 y.2.2.2) y.1.l wr w5 (.slice ya ym yc) (inclP y.1 x.1 true).1.l → _) := fun w5 va vm vc ya ym yc hb s1 s2 => mem_step (o1 := (inclP x.1 y.1 false).1) (o2 := (inclP y.1 x.1 true).1) hM hx hy hg hb s1 s2 hfx hfy
          obtain ⟨p0, p1, p2, p3, p4, p5, p6, p7, p8⟩ := cells_of hM.fst hx
          obtain ⟨q0, q1, q2, q3, q4, q5, q6, q7, q8⟩ := cells_of hM.snd hy
          clear hs2 hs3 HS2 hM HM lF lL z1 z2 ox oy rx ry hfx hfy hg hx hy
          generalize (inclP x.1 y.1 false).1 = o1 at *
          generalize (inclP y.1 x.1 true).1 = o2 at *
          obtain ⟨⟨xc, xn, xk, xp, xs, xl, xtc, xtn, xon⟩, xa, xm, xcap⟩ := x
          obtain ⟨⟨yc_, yn, yk, yp, ys, yl, ytc, ytn, yon⟩, ya_, ym_, ycap⟩ := y
          obtain ⟨c3, n3, k3, p3, s3, l3, tc3, tn3, on3⟩ := o1
          obtain ⟨c4, n4, k4, p4, s4, l4, tc4, tn4, on4⟩ := o2
          simp only [opVal] at *
          go_wp2_with fail
          go_cut [6] (fun v6 wx => v6 = .int .i64 0 ∧ ∃ (FM' LM' : List OpM), Hid (∃ l t, St2 R1 R2 n m i (j + 1) (FM'.map (·.1)) (LM'.map (·.1)) l t) ∧ Hid (MemC w (some ⟨g1, 0, none⟩) (some ⟨g2, 0, none⟩) n c1 m c2 wx FM' LM'))
          case first =>
            go_region_with (go_at_call 35; refine (HX.out _ ?_).mono ?_; (first | exact Below.refl _ _ | exact (Below.refl _ _).drew); rintro e5 w5 ⟨va, vm, vc, ya, ym, yc, rfl, hs1, hs2, hb5⟩; (have hb6 : Below wr.heap.size wr w5 := (by first | exact hb5 | exact (Below.refl _ _).drew.trans hb5)); obtain ⟨W9, W8, e9, e8, hM8, ⟨d0, d1, d2, d3, d4, d5, d6, d7, d8⟩, ⟨dz0, dz1, dz2, dz3, dz4, dz5, dz6, dz7, dz8⟩, ⟨h0, h1, h2, h3, h4, h5, h6, h7, h8⟩, ⟨hz0, hz1, hz2, hz3, hz4, hz5, hz6, hz7, hz8⟩⟩ := HST.out w5 va vm vc ya ym yc hb6 hs1 hs2; (have HM8 : Hid (MemC w (some ⟨g1, 0, none⟩) (some ⟨g2, 0, none⟩) n c1 m c2 W8 _ _) := hM8); clear hM8; (try simp only at e9 e8 d0 d1 d2 d3 d4 d5 d6 d7 d8 h0 h1 h2 h3 h4 h5 h6 h7 h8))
            all_goals
              go_wp2_with fail
              try rw [e9]
              try rw [e8]
              go_meet
              case rel => exact ⟨rfl, _, _, HS3.out va vm vc ya ym yc, HM8⟩
          case rest =>
            obtain ⟨rfl, FM', LM', HS4, HM4⟩ := hcut
            clear p0 p1 p2 p3 p4 p5 p6 p7 p8 q0 q1 q2 q3 q4 q5 q6 q7 q8 HX HST HS3
            go_wp2_with fail
            go_roundw
            case rel => exact ⟨j + 1, FM', LM', rfl, rfl, by go_num, rfl, by omega, HS4, HM4⟩
            case measure => simp [RowKit.intOf]; omega
        · obtain rfl : j = n := by omega
          obtain ⟨l, t, hs2⟩ := HS2.out
          have HS5 : Hid (St R1 R2 j m (i + 1) (FM.map (·.1)) (LM.map (·.1))) := st2_end hs2
          have f1 : decide ((j : Int) < (j : Int)) = false := decide_eq_false (by omega)
          clear hs2 HS2
          go_wp2_with fail
          go_roundw
          case rel => exact ⟨i + 1, FM, LM, rfl, rfl, by go_num, rfl, by omega, HS5, HM⟩
          case measure => simp [RowKit.intOf]; omega
    · obtain rfl : i = m := by omega
      obtain ⟨eF, eL⟩ := st_end HS.out
      have HEF : Hid (FM.map (·.1) = R1 ∧ LM.map (·.1) = R2) := ⟨eF, eL⟩
      have d1 : decide ((i : Int) < (i : Int)) = false := decide_eq_false (by omega)
      have hM := HM.out
      have HA1 : Hid (Calls Tryd.prog 36 #[.slice a1 n c1] wr fun e w' => ∃ L', e = .returned (.slice a1 n c1) ∧ OwnF opF 9 42 w' w.heap.size (.slice a1 n c1) L' ∧ L'.map (·.1) = FM.map (·.1) ∧ OwnRs w' wr.heap.size L' ∧ Alt a1 wr w') := allApart_any hM.fst (fun x hx => ⟨(hM.rf x hx).1, (hM.rf x hx).2.1⟩)
      have HA2 : Hid (∀ W, Alt a1 wr W → Calls Tryd.prog 36 #[.slice a2 i c2] W fun e w' => ∃ L', e = .returned (.slice a2 i c2) ∧ OwnF opF 9 42 w' w.heap.size (.slice a2 i c2) L' ∧ L'.map (·.1) = LM.map (·.1) ∧ OwnRs w' W.heap.size L' ∧ Alt a2 W w') := fun W hA => allApart_any (hA.own hM.snd (fun g ad0 e e0 => by
        cases a2 with
        | none => simp [Value.ownBlock] at e
        | some ad =>
          simp only [Value.ownBlock, Option.some.injEq] at e
          exact fun h => HNE.out ad0 ad e0 rfl (by rw [← h, e]))) (fun x hx => ⟨(hM.rl x hx).1.alt hA (hM.rl x hx).2.1, (hM.rl x hx).2.2⟩)
      have HG1 : Hid (∀ ad, a1 = some ad → w.heap.size ≤ ad.block) := fun ad e => by
        subst e
        exact hM.fst.ge rfl
      have HG2 : Hid (∀ ad, a2 = some ad → w.heap.size ≤ ad.block ∧ ad.block < wr.heap.size) := fun ad e => by
        subst e
        exact ⟨hM.snd.ge rfl, hM.snd.lt rfl⟩
      have hbw := hM.bel
      clear hM HM HS HS0 HM0 eF eL
      go_wp2_with fail
      refine HA1.out.mono ?_
      rintro e w5 ⟨L1, rfl, ho1, hl1, hr1, hA1⟩
      have HA3 := HA2.out w5 hA1
      have HP1 : Hid (OwnF opF 9 42 w5 w.heap.size (.slice a1 n c1) L1 ∧ L1.map (·.1) = FM.map (·.1) ∧ OwnRs w5 wr.heap.size L1) := ⟨ho1, hl1, hr1⟩
      clear ho1 hl1 hr1 HA1 HA2
      go_wp2_with fail
      refine HA3.mono ?_
      rintro e w6 ⟨L2, rfl, ho2, hl2, hr2, hA2⟩
      have HFIN : Hid (OwnF opF 9 42 w6 w.heap.size (.slice a1 n c1) L1 ∧ OwnF opF 9 42 w6 w.heap.size (.slice a2 i c2) L2 ∧ L1.map (·.1) = R1 ∧ L2.map (·.1) = R2 ∧ OwnRs w6 w.heap.size L1 ∧ OwnRs w6 w.heap.size L2 ∧ Below w.heap.size w w6) := by
        obtain ⟨ho1, hl1, hr1⟩ := HP1.out
        have hs5 := hA1.1.size
        have hsw := hbw.size
        refine ⟨hA2.own ho1 (fun g ad0 e e0 => ?_), ho2, hl1.trans HEF.out.1, hl2.trans HEF.out.2, fun x hx => (hA2.own (hr1 x hx) (fun g ad0 e e0 => ?_)).mono hsw, fun x hx => (hr2 x hx).mono (by omega), (hbw.trans (hA1.below hsw HG1.out)).trans (hA2.below (by omega) (fun ad e => (HG2.out ad e).1))⟩
        · cases a1 with
          | none => simp [Value.ownBlock] at e
          | some ad =>
            simp only [Value.ownBlock, Option.some.injEq] at e
            exact fun h => HNE.out ad ad0 rfl e0 (by rw [e, h])
        · have h1 := (hr1 x hx).ge e
          have h2 := (HG2.out ad0 e0).2
          omega
      clear ho2 hl2 hr2 HA3 HP1
      go_wp2_with fail
      refine bodyPost_ret (v := .tuple #[.slice a1 n c1, .slice a2 i c2, .int .i64 0]) (by simp [results, Tryd.results9, go_sem]) rfl ?_
      first | exact ⟨_, _, _, _, L1, L2, rfl, HFIN.out⟩ | exact ⟨_, _, _, _, rfl, L1, L2, HFIN.out⟩
end Go.Proofs.YtlebbffpbbjakaaDoor
