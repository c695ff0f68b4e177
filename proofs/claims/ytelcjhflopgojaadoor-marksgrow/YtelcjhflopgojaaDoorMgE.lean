import Derived.Test.YtelcjhflopgojaaDoorMgD
import Derived.Deep.Cut
import Derived.Deep.DeepCutAuto
import Derived.BigGuard
/-! MarksGrow. -/
namespace Go.Proofs.YtelcjhflopgojaaDoor
open Go.RowKit Go.Lib Sp
set_option maxRecDepth 100000

def xN : List UInt8 := [120]
theorem put_x {x y : Nat} (h : x < y ∧ y ≤ 1000) : putE 1000 [] xN (x : Int) (y : Int) = 0 ∧ putL 1000 [] xN (x : Int) (y : Int) = [⟨xN, x, y⟩] := by
  have e : putE 1000 [] xN (x : Int) (y : Int) = 0 := by
    unfold putE
    rw [if_neg (by decide), if_neg (by omega), if_neg (by simp [hasL]), if_neg (by decide)]
  exact ⟨e, by rw [putL, e]; rfl⟩
theorem rng_zero (w : World) (g : Nat) : Rng w (some ⟨g, 0, none⟩) 0 0 [] := ⟨rfl, ⟨Nat.le_refl _, Nat.zero_le _⟩, fun _ hj => absurd hj (Nat.not_lt_zero _)⟩
set_option maxHeartbeats 64000000 in
theorem marksGrow_any (lo hi at' : Int) (hlo : -9223372036854775808 ≤ lo ∧ lo ≤ 9223372036854775807) (hhi : -9223372036854775808 ≤ hi ∧ hi ≤ 9223372036854775807) (hat : -9223372036854775808 ≤ at' ∧ at' ≤ 9223372036854775807) (w : World) (hw : Bar w) : Calls Tryd.prog 3 #[.int .i64 lo, .int .i64 hi, .int .i64 at'] w fun e w' => e = .returned (.bool true) ∧ Below w.heap.size w w' := by
  obtain ⟨x, hx⟩ : ∃ x : Nat, lo % 1000 = (x : Int) := ⟨(lo % 1000).toNat, by have := Int.emod_nonneg lo (show (1000 : Int) ≠ 0 by decide); omega⟩
  have hxb : x < 1000 := by have := Int.emod_lt_of_pos lo (show (0 : Int) < 1000 by decide); omega
  obtain ⟨z, hz⟩ : ∃ z : Nat, hi % (1000 - (x : Int)) = (z : Int) := ⟨(hi % (1000 - (x : Int))).toNat, by have := Int.emod_nonneg hi (show (1000 - (x : Int)) ≠ 0 by omega); omega⟩
  have hzb : x + 1 + z ≤ 1000 := by have := Int.emod_lt_of_pos hi (show (0 : Int) < 1000 - (x : Int) by omega); omega
  obtain ⟨q, hq⟩ : ∃ q : Nat, at' % 1001 = (q : Int) := ⟨(at' % 1001).toNat, by have := Int.emod_nonneg at' (show (1001 : Int) ≠ 0 by decide); omega⟩
  have hqb : q ≤ 1000 := by have := Int.emod_lt_of_pos at' (show (0 : Int) < 1001 by decide); omega
  obtain ⟨y, hy⟩ : ∃ y, x + 1 + z = y := ⟨_, rfl⟩
  have hxy : x < y ∧ y ≤ 1000 := by omega
  have HK1 : Hid (Calls Tryd.prog 4 #[.int .i64 lo, .int .i64 1000] w fun e w' => e = .returned (.int .i64 (x : Int)) ∧ w' = w) := by
    have := pick_any lo 1000 (by decide) hlo (by decide) w
    rw [hx] at this
    exact this
  have HK2 : Hid (Calls Tryd.prog 4 #[.int .i64 hi, .int .i64 (1000 - (x : Int))] w fun e w' => e = .returned (.int .i64 (z : Int)) ∧ w' = w) := by
    have := pick_any hi (1000 - (x : Int)) (by omega) hhi (by omega) w
    rw [hz] at this
    exact this
  have HK3 : Hid (Calls Tryd.prog 4 #[.int .i64 at', .int .i64 1001] w fun e w' => e = .returned (.int .i64 (q : Int)) ∧ w' = w) := by
    have := pick_any at' 1001 (by decide) hat (by decide) w
    rw [hq] at this
    exact this
  have y4 : IntKind.i64.wrap (1000 - (x : Int)) = 1000 - (x : Int) := IntWalk.i64_in _ (by omega)
  have y3 : IntKind.i64.wrap ((x : Int) + 1 + (z : Int)) = (y : Int) := by rw [IntWalk.i64_in _ (by omega)]; omega
  have HNew : Hid (Calls Tryd.prog 5 #[.int .i64 1000] w fun e w' => e = .returned (.tuple #[.pointer (some ⟨w.heap.size + 1, 0, none⟩), .int .i64 0]) ∧ Bk w.heap.size w' (w.heap.size + 1) 1000 [] ∧ Below w.heap.size w w') := (new_any 1000 (by decide) w).mono (by
    rintro e w' ⟨rfl, h, hb⟩
    exact ⟨rfl, ⟨_, [], 0, h, rfl, Nat.le_succ _, Nat.le_refl _, by simp, by simp, by simp⟩, hb⟩)
  obtain ⟨p, hp⟩ : ∃ p, w.heap.size + 1 = p := ⟨_, rfl⟩
  rw [hp] at HNew
  have HPut : Hid (∀ V, Bk w.heap.size V p 1000 [] → Calls Tryd.prog 6 #[.pointer (some ⟨p, 0, none⟩), .agg #[.string ⟨xN.toArray⟩, .int .i64 (x : Int), .int .i64 (y : Int)]] V fun e w' => e = .returned (.int .i64 0) ∧ Bk w.heap.size w' p 1000 [⟨xN, x, y⟩] ∧ Below w.heap.size V w') := fun V hV => by
    have hc := put_B hV (nm := xN) (by decide) (x : Int) (y : Int)
    rw [(put_x hxy).1, (put_x hxy).2] at hc
    exact hc
  obtain ⟨x', hx'⟩ : ∃ x', (if q ≤ x then x + 3 else x) = x' := ⟨_, rfl⟩
  obtain ⟨y', hy'⟩ : ∃ y', (if q < y then y + 3 else y) = y' := ⟨_, rfl⟩
  have hb' : x' < y' ∧ y' ≤ 1003 := by
    rw [← hx', ← hy']
    split <;> split <;> omega
  have HB : Hid (x' < y' ∧ y' ≤ 1003 ∧ q ≤ 1000) := ⟨hb'.1, hb'.2, hqb⟩
  have HF1 : Hid (∀ V, Bk w.heap.size V p 1000 [⟨xN, x, y⟩] → Below w.heap.size w V → Calls Tryd.prog 7 #[.pointer (some ⟨p, 0, none⟩), .agg #[.int .i64 0, .int .i64 0, .int .i64 1, .int .i64 (q : Int), .string ⟨#[195, 169, 195, 169, 195, 169]⟩, .slice none 0 0, .int .i64 0, .int .i64 0, .bool false]] V fun e w' => e = .returned (.int .i64 0) ∧ Bk w.heap.size w' p 1003 [⟨xN, x', y'⟩] ∧ Below w.heap.size V w') := fun V hV hbV => by
    have hc := follow_ins_B hV (o := ⟨0, 0, 1, (q : Int), ⟨#[195, 169, 195, 169, 195, 169]⟩, [], 0, 0, false⟩) (rng_nil V) (by show (6 : Nat) ≤ _; decide) (hw.below hbV) (ins_ok (by omega)) rfl rfl (wd := 3) (by show widthP _ = _; unfold widthP; rw [if_pos rfl]; simp only [check_eee]; rfl) (by decide) (fun m hm => by simp at hm; subst hm; simp only; omega)
    have e : [(⟨xN, x, y⟩ : Mk)].map (mvM q 3) = [⟨xN, x', y'⟩] := by
      show [(⟨xN, if q ≤ x then x + 3 else x, if q < y then y + 3 else y⟩ : Mk)] = _
      rw [hx', hy']
    rw [e] at hc
    exact hc
  have HF2 : Hid (∀ (k : Int) V g, k = 2 ∨ k = 3 → Bk w.heap.size V p 1003 [⟨xN, x', y'⟩] → Below w.heap.size w V → Rng V (some ⟨g, 0, none⟩) 1 1 [((x' : Int), (y' : Int))] → Calls Tryd.prog 7 #[.pointer (some ⟨p, 0, none⟩), .agg #[.int .i64 0, .int .i64 0, .int .i64 k, .int .i64 0, .string ⟨#[]⟩, .slice (some ⟨g, 0, none⟩) 1 1, .int .i64 0, .int .i64 0, .bool false]] V fun e w' => e = .returned (.int .i64 0) ∧ Below V.heap.size V w') := fun k V g hk hV hbV hr => follow_two_B hV (o := ⟨0, 0, k, 0, ⟨#[]⟩, [((x' : Int), (y' : Int))], 0, 0, false⟩) hr (by show (0 : Nat) ≤ _; decide) (hw.below hbV) (rng_ok hk (by omega)) hk
  have HF3 : Hid (∀ V a, Rng V a 0 0 [] → Calls Tryd.prog 7 #[.pointer (some ⟨p, 0, none⟩), .agg #[.int .i64 0, .int .i64 0, .int .i64 0, .int .i64 0, .string ⟨#[]⟩, .slice a 0 0, .int .i64 0, .int .i64 0, .bool false]] V fun e w' => e = .returned (.int .i64 0) ∧ Below V.heap.size V w') := fun V a hr => follow_none (o := zeroOp) hr is_none
  have HMk : Hid (∀ V, Bk w.heap.size V p 1003 [⟨xN, x', y'⟩] → Calls Tryd.prog 8 #[.pointer (some ⟨p, 0, none⟩), .string ⟨xN.toArray⟩] V fun e w' => e = .returned (.tuple #[.agg #[.string ⟨xN.toArray⟩, .int .i64 (x' : Int), .int .i64 (y' : Int)], .int .i64 0]) ∧ Below V.heap.size V w') := fun V hV => by
    have hc := mark_B hV xN
    have e : getL [(⟨xN, x', y'⟩ : Mk)] xN = some ⟨xN, x', y'⟩ := by simp [getL]
    rw [e] at hc
    exact hc
  have HTo : Hid (∀ V, Bk w.heap.size V p 1003 [⟨xN, x', y'⟩] → Calls Tryd.prog 9 #[.pointer (some ⟨p, 0, none⟩)] V fun e w' => e = .returned (.int .i64 1003) ∧ w' = V) := fun V hV => total_B hV
  have HXY : Hid ((if q ≤ x then x + 3 else x) = x' ∧ (if q < y then y + 3 else y) = y' ∧ x < y ∧ y ≤ 1000) := ⟨hx', hy', hxy⟩
  clear hx hz hq hzb hy hp hlo hhi hat hb' hx' hy' hw
  go_enter Tryd.func3, Tryd.ntmps3
  go_wp2_with fail
  refine HK1.out.mono ?_
  rintro e w1 ⟨rfl, hww⟩
  obtain rfl := hww.symm
  clear hww
  go_wp2_with fail
  refine HK2.out.mono ?_
  rintro e w1 ⟨rfl, hww⟩
  obtain rfl := hww.symm
  clear hww
  go_wp2_with fail
  refine HK3.out.mono ?_
  rintro e w1 ⟨rfl, hww⟩
  obtain rfl := hww.symm
  clear hww
  go_wp2_with fail
  refine HNew.out.mono ?_
  rintro e w1 ⟨rfl, hbk, hb1⟩
  have HS1 : Hid (Bk w.heap.size w1 p 1000 [] ∧ Below w.heap.size w w1) := ⟨hbk, hb1⟩
  clear hbk hb1 HK1 HK2 HK3 HNew
  go_wp2_with fail
  refine (HPut.out _ HS1.out.1).mono ?_
  rintro e w2 ⟨rfl, hbk, hb2⟩
  have HS2 : Hid (Bk w.heap.size w2 p 1000 [⟨xN, x, y⟩] ∧ Below w.heap.size w w2) := ⟨hbk, HS1.out.2.trans hb2⟩
  clear hbk hb2 HPut
  go_wp2_with fail
  have HA2 : Hid (∀ o, Bk w.heap.size (w2.alloc o) p 1000 [⟨xN, x, y⟩] ∧ Below w.heap.size w (w2.alloc o)) := fun o => ⟨HS2.out.1.below (below_alloc0 _ _), HS2.out.2.trans ((below_alloc0 w2 o).mono HS2.out.2.size)⟩
  refine (HF1.out _ (HA2.out _).1 (HA2.out _).2).mono ?_
  rintro e w3 ⟨rfl, hbk, hb3⟩
  have HS3 : Hid (Bk w.heap.size w3 p 1003 [⟨xN, x', y'⟩] ∧ Below w.heap.size w w3) := ⟨hbk, (HA2.out _).2.trans hb3⟩
  clear hbk hb3 HF1 HA2
  go_wp2_with fail
  refine (HMk.out _ HS3.out.1).mono ?_
  rintro e w4 ⟨rfl, hb4⟩
  have HS4 : Hid (Bk w.heap.size w4 p 1003 [⟨xN, x', y'⟩] ∧ Below w.heap.size w w4) := ⟨HS3.out.1.below hb4, HS3.out.2.trans (hb4.mono HS3.out.2.size)⟩
  clear hb4
  go_wp2_with fail
  obtain ⟨W5, hW5⟩ : ∃ W5, w4.alloc (.cells #[.string ⟨xN.toArray⟩, .int .i64 (x' : Int), .int .i64 (y' : Int)] 29) = W5 := ⟨_, rfl⟩
  have hm5 : W5.heap[w4.heap.size]? = some (.cells #[.string ⟨xN.toArray⟩, .int .i64 (x' : Int), .int .i64 (y' : Int)] 29) := by rw [← hW5]; exact heap_alloc_new _ _
  have hb5 : Below w4.heap.size w4 W5 := by rw [← hW5]; exact below_alloc0 _ _
  obtain ⟨gm, hgm⟩ : ∃ gm, w4.heap.size = gm := ⟨_, rfl⟩
  rw [hgm] at hm5
  have HS5 : Hid (Bk w.heap.size W5 p 1003 [⟨xN, x', y'⟩] ∧ Below w.heap.size w W5 ∧ W5.heap[gm]? = some (.cells #[.string ⟨xN.toArray⟩, .int .i64 (x' : Int), .int .i64 (y' : Int)] 29)) := ⟨HS4.out.1.below hb5, HS4.out.2.trans (hb5.mono HS4.out.2.size), hm5⟩
  rw [hW5, hgm]
  clear hb5 hm5 hW5 hgm
  refine (HTo.out _ HS5.out.1).mono ?_
  rintro e w5 ⟨rfl, hww⟩
  obtain rfl := hww.symm
  clear hww
  go_upto_if 85 with fail
  go_cut [0, 1] (fun v0 v1 wx => v0 = .int .i64 (x' : Int) ∧ v1 = .int .i64 (y' : Int) ∧ wx = W5)
  case first =>
    obtain ⟨k1, k2, k3, k4⟩ := HXY.out
    have t1 : IntKind.i64.wrap ((x : Int) + 3) = (x : Int) + 3 := IntWalk.i64_in _ (by omega)
    have t2 : IntKind.i64.wrap ((y : Int) + 3) = (y : Int) + 3 := IntWalk.i64_in _ (by omega)
    by_cases g1 : q ≤ x
    · have z1 : decide ((q : Int) ≤ (x : Int)) = true := decide_eq_true (by omega)
      rw [if_pos g1] at k1
      rw [if_pos (by omega)] at k2
      have HE : Hid ((x : Int) + 3 = (x' : Int) ∧ (y : Int) + 3 = (y' : Int)) := by
        show _ ∧ _
        omega
      clear k1 k2
      go_wp2_with fail
      go_meet
      exact ⟨by rw [HE.out.1], by rw [HE.out.2], rfl⟩
    · have z1 : decide ((q : Int) ≤ (x : Int)) = false := decide_eq_false (by omega)
      rw [if_neg g1] at k1
      by_cases g2 : q < y
      · have z2 : decide ((q : Int) < (y : Int)) = true := decide_eq_true (by omega)
        rw [if_pos g2] at k2
        have HE : Hid ((x : Int) = (x' : Int) ∧ (y : Int) + 3 = (y' : Int)) := by
          show _ ∧ _
          omega
        clear k1 k2
        go_wp2_with fail
        go_meet
        exact ⟨by rw [HE.out.1], by rw [HE.out.2], rfl⟩
      · have z2 : decide ((q : Int) < (y : Int)) = false := decide_eq_false (by omega)
        rw [if_neg g2] at k2
        have HE : Hid ((x : Int) = (x' : Int) ∧ (y : Int) = (y' : Int)) := by
          show _ ∧ _
          omega
        clear k1 k2
        go_wp2_with fail
        go_meet
        exact ⟨by rw [HE.out.1], by rw [HE.out.2], rfl⟩
  case rest =>
    obtain ⟨rfl, rfl, hwc⟩ := hcut
    obtain rfl := hwc.symm
    clear hwc HXY y3 y4 hxy
    go_wp2_with fail
    have H5 : Hid (∀ V, Below W5.heap.size W5 V → Bk w.heap.size V p 1003 [⟨xN, x', y'⟩] ∧ Below w.heap.size w V ∧ V.heap[gm]? = some (.cells #[.string ⟨xN.toArray⟩, .int .i64 (x' : Int), .int .i64 (y' : Int)] 29)) := fun V hV => ⟨HS5.out.1.below hV, HS5.out.2.1.trans (hV.mono HS5.out.2.1.size), (hV.block gm (Array.getElem?_eq_some_iff.1 HS5.out.2.2).1).trans HS5.out.2.2⟩
    obtain ⟨W6, hW6⟩ : ∃ W6, ((W5.alloc (.cells #[.int .i64 0, .int .i64 0, .int .i64 2, .int .i64 0, .string ⟨#[]⟩, .slice (some ⟨W5.heap.size + 1, 0, none⟩) 1 1, .int .i64 0, .int .i64 0, .bool false] 37)).alloc (.cells #[.int .i64 (x' : Int), .int .i64 (y' : Int)] 43)) = W6 := ⟨_, rfl⟩
    have hb6 : Below W5.heap.size W5 W6 := by rw [← hW6]; exact (below_alloc0 _ _).alloc (by rw [World.size_alloc]; omega) _
    have hc6 : W6.heap[W5.heap.size]? = some (.cells #[.int .i64 0, .int .i64 0, .int .i64 2, .int .i64 0, .string ⟨#[]⟩, .slice (some ⟨W5.heap.size + 1, 0, none⟩) 1 1, .int .i64 0, .int .i64 0, .bool false] 37) := by rw [← hW6]; exact ((MapKept.heap_alloc _ _).2 _ (by rw [World.size_alloc]; omega)).trans (MapKept.heap_alloc W5 _).1
    have hr6 : W6.heap[W5.heap.size + 1]? = some (.cells #[.int .i64 (x' : Int), .int .i64 (y' : Int)] 43) := by
      rw [← hW6]
      have := (MapKept.heap_alloc (W5.alloc (.cells #[.int .i64 0, .int .i64 0, .int .i64 2, .int .i64 0, .string ⟨#[]⟩, .slice (some ⟨W5.heap.size + 1, 0, none⟩) 1 1, .int .i64 0, .int .i64 0, .bool false] 37)) (.cells #[.int .i64 (x' : Int), .int .i64 (y' : Int)] 43)).1
      rw [World.size_alloc] at this
      exact this
    rw [hW6]
    obtain ⟨gc, hgc⟩ : ∃ gc, W5.heap.size = gc := ⟨_, rfl⟩
    have HSz : Hid (∀ V, Below gc W5 V → gc ≤ V.heap.size) := fun V hV => by rw [← hgc]; exact hV.size
    rw [hgc] at H5 hb6 hc6 hr6 ⊢
    have HB6 : Hid (Below gc W5 W6) := hb6
    have HC6 : Hid (W6.heap[gc]? = some (.cells #[.int .i64 0, .int .i64 0, .int .i64 2, .int .i64 0, .string ⟨#[]⟩, .slice (some ⟨gc + 1, 0, none⟩) 1 1, .int .i64 0, .int .i64 0, .bool false] 37) ∧ W6.heap[gc + 1]? = some (.cells #[.int .i64 (x' : Int), .int .i64 (y' : Int)] 43)) := ⟨hc6, hr6⟩
    clear hb6 hc6 hr6 hW6 hgc HS5
    refine (HF2.out 2 W6 (gc + 1) (.inl rfl) (H5.out _ HB6.out).1 (H5.out _ HB6.out).2.1 (rng_one HC6.out.2)).mono ?_
    rintro e w7 ⟨rfl, hb7⟩
    have hg6 := (Array.getElem?_eq_some_iff.1 HC6.out.1).1
    have hg6' := (Array.getElem?_eq_some_iff.1 HC6.out.2).1
    have HB7 : Hid (Below gc W5 w7) := HB6.out.trans (hb7.mono (by omega))
    have hc7 : w7.heap[gc]? = some (.cells #[.int .i64 0, .int .i64 0, .int .i64 2, .int .i64 0, .string ⟨#[]⟩, .slice (some ⟨gc + 1, 0, none⟩) 1 1, .int .i64 0, .int .i64 0, .bool false] 37) := (hb7.block _ hg6).trans HC6.out.1
    have HR7 : Hid (w7.heap[gc + 1]? = some (.cells #[.int .i64 (x' : Int), .int .i64 (y' : Int)] 43)) := (hb7.block _ hg6').trans HC6.out.2
    obtain ⟨c0, c1, c2, c3, c4, c5, c6, c7, c8⟩ := box9 hc7
    have f2 := Lib.frozen_of_heap hc7 2
    have HR8 : Hid ((w7.setCell ⟨gc, 2, none⟩ (.int .i64 3)).heap[gc + 1]? = some (.cells #[.int .i64 (x' : Int), .int .i64 (y' : Int)] 43) ∧ Below gc W5 (w7.setCell ⟨gc, 2, none⟩ (.int .i64 3))) := ⟨((Chg.set (D := fun g => g = gc) (q := gc) 2 w7 (.int .i64 3) rfl).block HR7.out (by omega)), HB7.out.setCell (Nat.le_refl _) _⟩
    clear hb7 hg6 hg6' hc7 HR7 HC6
    go_wp2_with fail
    refine (HF2.out 3 _ (gc + 1) (.inr rfl) (H5.out _ HR8.out.2).1 (H5.out _ HR8.out.2).2.1 (rng_one HR8.out.1)).mono ?_
    rintro e w8 ⟨rfl, hb8⟩
    have HB8 : Hid (Below gc W5 w8) := HR8.out.2.trans (hb8.mono (by
      have h1 := HR8.out.1
      have := (Array.getElem?_eq_some_iff.1 h1).1
      omega))
    clear hb8 HR8 c0 c1 c2 c3 c4 c5 c6 c7 c8 f2 HF2
    go_wp2_with fail
    refine (HF3.out _ none (rng_nil _)).mono ?_
    rintro e w9 ⟨rfl, hb9⟩
    have HB9 : Hid (Below gc W5 w9) := HB8.out.trans (hb9.mono (HSz.out _ HB8.out)) 
    clear hb9
    go_wp2_with fail
    refine (HF3.out _ (some _) (rng_zero _ _)).mono ?_
    rintro e w10 ⟨rfl, hb10⟩
    have HB10 : Hid (Below gc W5 w10) := by
      have h1 : Below gc W5 (w9.alloc (.cells #[] 43)) := HB9.out.alloc (HSz.out _ HB9.out) _
      exact h1.trans (hb10.mono (HSz.out _ h1))
    clear hb10
    go_wp2_with fail
    refine (HMk.out _ (H5.out _ HB10.out).1).mono ?_
    rintro e w11 ⟨rfl, hb11⟩
    have HB11 : Hid (Below gc W5 w11) := HB10.out.trans (hb11.mono (HSz.out _ HB10.out))
    clear hb11
    obtain ⟨W12, hW12⟩ : ∃ W12, w11.alloc (.cells #[.string ⟨xN.toArray⟩, .int .i64 (x' : Int), .int .i64 (y' : Int)] 29) = W12 := ⟨_, rfl⟩
    have HB12 : Hid (Below gc W5 W12) := by rw [← hW12]; exact HB11.out.alloc (HSz.out _ HB11.out) _
    have hn12 : W12.heap[w11.heap.size]? = some (.cells #[.string ⟨xN.toArray⟩, .int .i64 (x' : Int), .int .i64 (y' : Int)] 29) := by rw [← hW12]; exact heap_alloc_new _ _
    obtain ⟨n0, n1, n2⟩ := box3 hn12
    obtain ⟨m0, m1, m2⟩ := box3 (H5.out _ HB12.out).2.2
    have HEq := run_eqMk W12 ⟨xN.toArray⟩ x' y'
    have HG : Tryd.prog.eqGuardType Tryd.prog.depth 29 = false := by kernel_rfl
    go_upto_region 31 with fail
    clear hn12 hW12
    try simp only [List.append_eq, List.cons_append, List.nil_append]
    go_wp2_with fail
    refine (HTo.out _ (H5.out _ HB12.out).1).mono ?_
    rintro e w13 ⟨rfl, hww⟩
    obtain rfl := hww.symm
    clear hww
    go_wp2_with fail
    go_ret
    exact ⟨rfl, (H5.out _ HB12.out).2.1⟩
end Go.Proofs.YtelcjhflopgojaaDoor
