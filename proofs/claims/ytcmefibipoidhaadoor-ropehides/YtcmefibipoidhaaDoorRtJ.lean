import Derived.Test.YtcmefibipoidhaaDoorRrPI
import Derived.Test.YtcmefibipoidhaaDoorRvA
namespace Go.Proofs.YtcmefibipoidhaaDoor
open Go.RowKit Go.Lib
set_option maxRecDepth 100000

set_option maxHeartbeats 8000000 in
/-- The statement's own choice of cells. -/
theorem chosen_any {w : World} {a : Option Addr} {n cap : Nat} {R : List (Int × Int)} (h : Rw cellV 2 w a n cap R) (hn : n ≤ 1048576) (A B : Int) (down : Bool) :
    Calls Tryd.prog 38 #[.slice a n cap, .int .i64 A, .int .i64 B, .bool down] w fun e w' => ∃ v l, e = .returned v ∧ OwnF pieceV 2 90 w' w.heap.size v l ∧ Chs R down n l ∧ Below w.heap.size w w' ∧ l = chL R A B down n := by
  have hro := h.room
  have HR : Hid (Rw cellV 2 w a n cap R) := h
  have ha0 := Int.emod_nonneg A (show (7 : Int) ≠ 0 by decide)
  have ha1 := Int.emod_lt_of_pos A (show (0 : Int) < 7 by decide)
  have hb0 := Int.emod_nonneg B (show (11 : Int) ≠ 0 by decide)
  have hb1 := Int.emod_lt_of_pos B (show (0 : Int) < 11 by decide)
  obtain ⟨x, hx⟩ : ∃ x, A % 7 = x := ⟨_, rfl⟩
  obtain ⟨y, hy⟩ : ∃ y, B % 11 = y := ⟨_, rfl⟩
  have H1 : Hid (∀ w : World, Calls Tryd.prog 16 #[.int .i64 A, .int .i64 7] w fun e w' => e = .returned (.int .i64 x) ∧ w' = w) := by subst hx; exact rest_any A 7 (by decide) (by decide)
  have H2 : Hid (∀ w : World, Calls Tryd.prog 16 #[.int .i64 B, .int .i64 11] w fun e w' => e = .returned (.int .i64 y) ∧ w' = w) := by subst hy; exact rest_any B 11 (by decide) (by decide)
  rw [hx] at ha0 ha1
  rw [hy] at hb0 hb1
  have HXY : Hid (A % 7 = x ∧ B % 11 = y) := ⟨hx, hy⟩
  clear h hx hy
  go_enter Tryd.func38, Tryd.ntmps38
  go_wp2_with fail
  go_loopw [9, 10] (fun v vq wr => ∃ (q : Nat) (l : List (Int × Int)), q ≤ n ∧ vq = .int .i64 (q : Int) ∧ OwnF pieceV 2 90 wr w.heap.size v l ∧ Chs R down q l ∧ Below w.heap.size w wr ∧ l = chL R A B down q) (fun _ vq _ => n - (RowKit.intOf vq).toNat)
  case atStart => exact ⟨0, [], Nat.zero_le _, rfl, ownF_nil _ _, chs_nil _ _ _, Below.refl _ _, rfl⟩
  case round =>
    obtain ⟨q, l, hq, rfl, ho, hC, hb, hcl⟩ := hrel
    have HCL : Hid (l = chL R A B down q) := hcl
    clear hcl
    have hsz := hb.size
    by_cases hlt : q < n
    · have hxq : 0 ≤ (q : Int) * x ∧ (q : Int) * x ≤ 7340032 := by
        constructor
        · exact Int.mul_nonneg (by omega) ha0
        · have h1 : (q : Int) * x ≤ (q : Int) * 7 := Int.mul_le_mul_of_nonneg_left (by omega) (by omega)
          omega
      have u0 : IntKind.i64.wrap ((q : Int) * x) = (q : Int) * x := IntWalk.i64_in _ (by omega)
      obtain ⟨qx, hqx⟩ : ∃ k, (q : Int) * x = k := ⟨_, rfl⟩
      rw [hqx] at hxq u0
      obtain ⟨z, hz⟩ : ∃ z, (qx + y) % 11 = z := ⟨_, rfl⟩
      have HZ : Hid (((q : Int) * (A % 7) + B % 11) % 11 = z) := by show _ = _; rw [HXY.out.1, HXY.out.2, hqx]; exact hz
      have H3 : Hid (∀ w : World, Calls Tryd.prog 16 #[.int .i64 (qx + y), .int .i64 11] w fun e w' => e = .returned (.int .i64 z) ∧ w' = w) := by subst hz; exact rest_any (qx + y) 11 (by decide) (by decide)
      have u1 : IntKind.i64.wrap (qx + y) = qx + y := IntWalk.i64_in _ (by omega)
      obtain ⟨g, off, c, rfl, hg, hx, hc⟩ := HR.out.at q hlt
      have c1 : wr.cell? ⟨g, off + q * 2 + 1, none⟩ = some (.int .i64 c.2) := (hb.cell (p := ⟨g, off + q * 2 + 1, none⟩) hg).trans (hc 1 _ rfl)
      have HX : Hid (R[q]? = some c) := hx
      have HC : Hid (Chs R down q l) := hC
      have HO : Hid (OwnF pieceV 2 90 wr w.heap.size u9 l) := ho
      clear hc hx hz hC ho
      go_wp2_with fail
      refine (H1.out _).mono ?_
      rintro e w1 ⟨rfl, rfl⟩
      go_wp2_with fail
      refine (H2.out _).mono ?_
      rintro e w2 ⟨rfl, rfl⟩
      go_wp2_with fail
      refine (H3.out _).mono ?_
      rintro e w3 ⟨rfl, rfl⟩
      clear H1 H2 H3
      by_cases hz5 : z < 5
      · have b5 : decide (z < 5) = true := decide_eq_true hz5
        by_cases hdc : down = true ∧ c.2 = 0
        · obtain ⟨rfl, hc0⟩ := hdc
          rw [hc0] at c1
          go_wp2_with fail
          go_roundw
          case rel => exact ⟨q + 1, l, by omega, by go_num, HO.out, HC.out.skip, hb, chL_low HCL.out HX.out hc0⟩
          case measure => simp [RowKit.intOf]; omega
        · have hdn : down = true → ∀ c', R[q]? = some c' → c'.2 ≠ 0 := fun e c' hc' h0 => by
            rw [HX.out] at hc'
            cases hc'
            exact hdc ⟨e, h0⟩
          have HN : Hid (down = true → ∀ c', R[q]? = some c' → c'.2 ≠ 0) := hdn
          have b6 : (down && (c.2 == 0)) = false := by
            cases down with
            | false => rfl
            | true => simp only [Bool.true_and, beq_eq_false_iff_ne]; exact hdn rfl c HX.out
          have HPK : Hid (pick R A B down q = true) := pick_yes HZ.out hz5 HX.out b6
          clear hdn hdc
          have ho := HO.out
          clear HO
          obtain ⟨a9, cap9, rfl⟩ := ho.shape
          have hfew := HC.out.few
          rcases List.eq_nil_or_concat l with rfl | ⟨l', r, rfl⟩
          · have HC2 : Hid (Chs R down (q + 1) ([] ++ [((q : Int), (q : Int) + 1)])) := HC.out.one (fun r h => by cases h) HN.out
            have HQ2 : Hid ([] ++ [((q : Int), (q : Int) + 1)] = chL R A B down (q + 1)) := chL_one HCL.out HPK.out (fun r h => by cases h)
            clear HCL HPK
            have u5 : IntKind.i64.wrap ((q : Int) + 1) = (q : Int) + 1 := IntWalk.i64_in _ (by omega)
            obtain ⟨g5, cap5, w6, hr, ho6, hb6, _, _⟩ := appendF_one kindRg layP ho hb.size ((q : Int), (q : Int) + 1) #[.int .i64 (q : Int), .int .i64 ((q : Int) + 1)] rfl 90 (by simp) (by simp) 44
            simp only [List.length_nil] at ho ho6 hr ⊢
            clear ho
            cases down with
            | false =>
              go_wp2_with (at_builtin; refine wpList_append_hr rfl _ _ 44 rfl _ _ rfl rfl hr ?_)
              go_roundw
              case rel => exact ⟨q + 1, _, by omega, by go_num, ho6, HC2.out, hb.trans hb6, HQ2.out⟩
              case measure => simp [RowKit.intOf]; omega
            | true =>
              go_wp2_with (at_builtin; refine wpList_append_hr rfl _ _ 44 rfl _ _ rfl rfl hr ?_)
              go_roundw
              case rel => exact ⟨q + 1, _, by omega, by go_num, ho6, HC2.out, hb.trans hb6, HQ2.out⟩
              case measure => simp [RowKit.intOf]; omega
          · rw [List.concat_eq_append] at *
            have hll : (l' ++ [r]).length = l'.length + 1 := by simp
            obtain ⟨g9, cp9, hv, hg9, hg9s, hcp1, hcp2, hfz⟩ := ho.ptr (by omega)
            obtain ⟨g', o', x', e', hg', hx', hc'⟩ := (ho.rw_ layP).at l'.length (by omega)
            cases hv
            cases e'
            have e9 : x' = r := by simpa using hx'.symm
            subst e9
            have c7 : w3.cell? ⟨g9, l'.length * 2 + 1, none⟩ = some (.int .i64 x'.2) := by have := hc' 1 _ rfl; simpa using this
            have f7 := hfz (l'.length * 2 + 1)
            rw [hll] at ho ⊢
            clear hc' hx' hfz
            by_cases hr2 : x'.2 = (q : Int)
            · have ex : x' = (x'.1, (q : Int)) := Prod.ext rfl hr2
              have HC3 : Hid (Chs R down (q + 1) (l' ++ [(x'.1, (q : Int) + 1)])) := Chs.longer (by rw [← ex]; exact HC.out) HN.out
              have HQ3 : Hid (l' ++ [(x'.1, (q : Int) + 1)] = chL R A B down (q + 1)) := chL_longer (by rw [← ex]; exact HCL.out) HPK.out
              clear HCL HPK
              have HSL : Hid (OwnF pieceV 2 90 (w3.setCell ⟨g9, l'.length * 2 + 1, none⟩ (.int .i64 ((q : Int) + 1))) w.heap.size (.slice (some ⟨g9, 0, none⟩) (l'.length + 1) cap9) (l' ++ [(x'.1, (q : Int) + 1)])) := OwnF.setLast (x := x'.1) (y := x'.2) ho ((q : Int) + 1)
              clear ex ho HC HN
              cases down with
              | false =>
                go_wp2_with fail
                exact ⟨⟨q + 1, l' ++ [(x'.1, (q : Int) + 1)], by omega, by go_num, HSL.out, HC3.out, hb.setCell (p := ⟨g9, l'.length * 2 + 1, none⟩) hg9 _, HQ3.out⟩, by simp [RowKit.intOf]; omega⟩
              | true =>
                go_wp2_with fail
                exact ⟨⟨q + 1, l' ++ [(x'.1, (q : Int) + 1)], by omega, by go_num, HSL.out, HC3.out, hb.setCell (p := ⟨g9, l'.length * 2 + 1, none⟩) hg9 _, HQ3.out⟩, by simp [RowKit.intOf]; omega⟩
            · have HC2 : Hid (Chs R down (q + 1) ((l' ++ [x']) ++ [((q : Int), (q : Int) + 1)])) := HC.out.one (fun r h => by rw [List.getLast?_append] at h; simp only [List.getLast?_singleton, Option.some_or, Option.some.injEq] at h; rw [← h]; exact hr2) HN.out
              have HQ2 : Hid ((l' ++ [x']) ++ [((q : Int), (q : Int) + 1)] = chL R A B down (q + 1)) := chL_one HCL.out HPK.out (fun r h => by rw [List.getLast?_append] at h; simp only [List.getLast?_singleton, Option.some_or, Option.some.injEq] at h; rw [← h]; exact hr2)
              clear HCL HPK
              have b7 : (x'.2 == (q : Int)) = false := beq_eq_false_iff_ne.2 hr2
              have u5 : IntKind.i64.wrap ((q : Int) + 1) = (q : Int) + 1 := IntWalk.i64_in _ (by omega)
              obtain ⟨g5, cap5, w6, hr, ho6, hb6, _, _⟩ := appendF_one kindRg layP ho hb.size ((q : Int), (q : Int) + 1) #[.int .i64 (q : Int), .int .i64 ((q : Int) + 1)] rfl 90 (by omega) (by omega) 44
              rw [hll] at ho6 hr
              have hfew2 : l'.length + 1 ≤ q := by omega
              clear ho HC HN hr2 hfew hll
              cases down with
              | false =>
                go_wp2_with (at_builtin; refine wpList_append_hr rfl _ _ 44 rfl _ _ rfl rfl hr ?_)
                go_roundw
                case rel => exact ⟨q + 1, _, by omega, by go_num, ho6, HC2.out, hb.trans hb6, HQ2.out⟩
                case measure => simp [RowKit.intOf]; omega
              | true =>
                go_wp2_with (at_builtin; refine wpList_append_hr rfl _ _ 44 rfl _ _ rfl rfl hr ?_)
                go_roundw
                case rel => exact ⟨q + 1, _, by omega, by go_num, ho6, HC2.out, hb.trans hb6, HQ2.out⟩
                case measure => simp [RowKit.intOf]; omega
      · have b5 : decide (z < 5) = false := decide_eq_false hz5
        go_wp2_with fail
        go_roundw
        case rel => exact ⟨q + 1, l, by omega, by go_num, HO.out, HC.out.skip, hb, chL_far HCL.out HZ.out (show ¬ z < 5 by omega)⟩
        case measure => simp [RowKit.intOf]; omega
    · obtain rfl : q = n := by omega
      go_wp2_with fail
      go_ret
      exact ⟨_, l, rfl, ho, hC, hb, HCL.out⟩
end Go.Proofs.YtcmefibipoidhaaDoor
