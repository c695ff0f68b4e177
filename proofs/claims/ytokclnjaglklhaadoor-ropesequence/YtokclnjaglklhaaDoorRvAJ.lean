import Derived.Test.YtokclnjaglklhaaDoorRrEJ
import Derived.Test.YtokclnjaglklhaaDoorRrPI
/-! The statement's own words and choice of cells, as functions. -/
namespace Go.Proofs.YtokclnjaglklhaaDoor
open Go.RowKit Go.Lib
set_option maxRecDepth 100000

def sgn (k : Int) : Int := if k % 5 = 1 then 233 else if k % 5 = 2 then 8364 else if k % 5 = 3 then 128512 else 97 + k % 26
theorem sgn_ok (k : Int) : okR (sgn k) := by
  have h7 := Int.emod_nonneg k (show (26 : Int) ≠ 0 by decide)
  have h8 := Int.emod_lt_of_pos k (show (0 : Int) < 26 by decide)
  refine IsSign.ok ⟨?_⟩
  unfold sgn
  split
  · omega
  · split
    · omega
    · split
      · omega
      · omega
set_option maxHeartbeats 400000 in
theorem sign_is (k : Int) (w : World) : Calls Tryd.prog 31 #[.int .i64 k] w fun e w' => e = .returned (.int .i32 (sgn k)) ∧ w' = w := by
  have h5 := Int.emod_nonneg k (show (5 : Int) ≠ 0 by decide)
  have h6 := Int.emod_lt_of_pos k (show (0 : Int) < 5 by decide)
  have h7 := Int.emod_nonneg k (show (26 : Int) ≠ 0 by decide)
  have h8 := Int.emod_lt_of_pos k (show (0 : Int) < 26 by decide)
  have H5 := rest_any k 5 (by decide) (by decide)
  have H26 := rest_any k 26 (by decide) (by decide)
  unfold sgn
  generalize k % 5 = a at *
  generalize k % 26 = b at *
  obtain ⟨r, hr⟩ : ∃ r, (if a = 1 then (233 : Int) else if a = 2 then 8364 else if a = 3 then 128512 else 97 + b) = r := ⟨_, rfl⟩
  rw [hr]
  go_enter Tryd.func31, Tryd.ntmps31
  go_wp2_with fail
  refine (H5 _).mono ?_
  rintro e w1 ⟨rfl, rfl⟩
  by_cases a1 : a = 1
  · subst a1
    subst hr
    go_wp2_with fail
    go_ret
    exact ⟨rfl, rfl⟩
  · by_cases a2 : a = 2
    · subst a2
      subst hr
      go_wp2_with fail
      go_ret
      exact ⟨rfl, rfl⟩
    · by_cases a3 : a = 3
      · subst a3
        subst hr
        go_wp2_with fail
        go_ret
        exact ⟨rfl, rfl⟩
      · rw [if_neg a1, if_neg a2, if_neg a3] at hr
        go_wp2_with fail
        refine (H26 _).mono ?_
        rintro e w2 ⟨rfl, rfl⟩
        go_wp2_with fail
        go_ret
        exact ⟨by rw [← hr]; rfl, rfl⟩
def wrds (k : Int) (n : Nat) : List Int := (List.range n).map fun i : Nat => sgn (wrap64 (k + (i : Int)))
theorem wrds_succ (k : Int) (n : Nat) : wrds k (n + 1) = wrds k n ++ [sgn (wrap64 (k + (n : Int)))] := by simp [wrds, List.range_succ]
theorem wrds_len (k : Int) (n : Nat) : (wrds k n).length = n := by simp [wrds]
theorem wrds_ok (k : Int) (n : Nat) : ∀ r ∈ wrds k n, okR r := fun r hr => by
  obtain ⟨i, _, rfl⟩ := List.mem_map.1 hr
  exact sgn_ok _
theorem wrds_text (k : Int) (n : Nat) : IsText (strOf (wrds k n)) (wrds k n) := ⟨by simp [strOf], wrds_ok k n⟩
theorem strOf_snoc {rs : List Int} (h : ∀ r ∈ rs, okR r) {r : Int} (hr : okR r) : strOf rs ++ Utf8.encode r = strOf (rs ++ [r]) :=
  tx_eq (IsText.snoc (s := strOf rs) ⟨by simp [strOf], h⟩ hr).bytes
set_option maxHeartbeats 2000000 in
theorem words_is (n : Nat) (k : Int) (hn : n ≤ 1048576) (w : World) :
    Calls Tryd.prog 11 #[.int .i64 (n : Int), .int .i64 k] w fun e w' => e = .returned (.string (strOf (wrds k n))) ∧ w' = w := by
  go_enter Tryd.func11, Tryd.ntmps11
  go_wp2_with fail
  go_loop [5, 6] (fun vs vi => ∃ i : Nat, vs = .string (strOf (wrds k i)) ∧ vi = .int .i64 (i : Int) ∧ i ≤ n) (fun _ i => n - (RowKit.intOf i).toNat)
  case atStart => exact ⟨0, rfl, rfl, Nat.zero_le _⟩
  case round =>
    obtain ⟨i, rfl, rfl, hl⟩ := hrel
    by_cases hlt : i < n
    · have hb := (wrds_text k i).small
      rw [wrds_len] at hb
      have HE : Hid (strOf (wrds k i) ++ Utf8.encode (sgn (wrap64 (k + (i : Int)))) = strOf (wrds k (i + 1))) := by
        show _ = _
        rw [strOf_snoc (wrds_ok k i) (sgn_ok _), ← wrds_succ]
      have hz : (Utf8.encode (sgn (wrap64 (k + (i : Int))))).size ≤ 4 := by have := encB_le _ (sgn_ok (wrap64 (k + (i : Int)))); rw [size_data]; exact this
      have HS := sign_is (wrap64 (k + (i : Int)))
      generalize hsg : sgn (wrap64 (k + (i : Int))) = r at *
      generalize hst : strOf (wrds k i) = st at *
      go_wp2_with fail
      refine (HS _).mono ?_
      rintro e w1 ⟨rfl, rfl⟩
      go_wp2_with fail
      exact ⟨⟨i + 1, by rw [← HE.out], by simp, by omega⟩, by simp [RowKit.intOf]; omega⟩
    · obtain rfl : i = n := by omega
      go_wp2_with fail
      go_ret
      exact ⟨rfl, rfl⟩
/-- Is a cell of the row chosen? -/
def pick (R : List (Int × Int)) (A B : Int) (down : Bool) (q : Nat) : Bool := decide (((q : Int) * (A % 7) + B % 11) % 11 < 5) && !(down && ((R[q]?.map fun c => c.2 == 0).getD false))
def addP (l : List (Int × Int)) (q : Nat) : List (Int × Int) := match l.getLast? with
  | some r => if r.2 = (q : Int) then l.dropLast ++ [(r.1, (q : Int) + 1)] else l ++ [((q : Int), (q : Int) + 1)]
  | none => l ++ [((q : Int), (q : Int) + 1)]
def chL (R : List (Int × Int)) (A B : Int) (down : Bool) : Nat → List (Int × Int)
  | 0 => []
  | q + 1 => if pick R A B down q then addP (chL R A B down q) q else chL R A B down q
theorem addP_last (l : List (Int × Int)) (x q : Nat) (a : Int) (h : x = q) : addP (l ++ [(a, (x : Int))]) q = l ++ [(a, (q : Int) + 1)] := by
  subst h
  simp [addP]
section
variable {R : List (Int × Int)} {A B : Int} {down : Bool} {q : Nat} {l : List (Int × Int)}
theorem chL_far (hl : l = chL R A B down q) {z : Int} (hz : ((q : Int) * (A % 7) + B % 11) % 11 = z) (h : ¬ z < 5) : l = chL R A B down (q + 1) := by
  have e : pick R A B down q = false := by simp [pick, hz, h]
  simp [chL, e, hl]
theorem chL_low (hl : l = chL R A B true q) {c : Int × Int} (hc : R[q]? = some c) (h : c.2 = 0) : l = chL R A B true (q + 1) := by
  have e : pick R A B true q = false := by simp [pick, hc, h]
  simp [chL, e, hl]
theorem pick_yes {z : Int} (hz : ((q : Int) * (A % 7) + B % 11) % 11 = z) (h : z < 5) {c : Int × Int} (hc : R[q]? = some c) (hd : (down && (c.2 == 0)) = false) : pick R A B down q = true := by
  simp [pick, hz, h, hc, hd]
theorem chL_one (hl : l = chL R A B down q) (hp : pick R A B down q = true) (h : ∀ r, l.getLast? = some r → r.2 ≠ (q : Int)) : l ++ [((q : Int), (q : Int) + 1)] = chL R A B down (q + 1) := by
  rw [chL, if_pos hp, ← hl]
  unfold addP
  cases e : l.getLast? with
  | none => rfl
  | some r => simp only; rw [if_neg (h r e)]
theorem chL_longer {a : Int} (hl : l ++ [(a, (q : Int))] = chL R A B down q) (hp : pick R A B down q = true) : l ++ [(a, (q : Int) + 1)] = chL R A B down (q + 1) := by
  rw [chL, if_pos hp, ← hl]
  exact (addP_last l q q a rfl).symm
end
end Go.Proofs.YtokclnjaglklhaaDoor

namespace Go.Proofs.YtokclnjaglklhaaDoor
open Go.RowKit Go.Lib
set_option maxRecDepth 100000

set_option maxHeartbeats 8000000 in
/-- The statement's own choice of cells. -/
theorem chosen_any {w : World} {a : Option Addr} {n cap : Nat} {R : List (Int × Int)} (h : Rw cellV 2 w a n cap R) (hn : n ≤ 1048576) (A B : Int) (down : Bool) :
    Calls Tryd.prog 21 #[.slice a n cap, .int .i64 A, .int .i64 B, .bool down] w fun e w' => ∃ v l, e = .returned v ∧ OwnF pieceV 2 91 w' w.heap.size v l ∧ Chs R down n l ∧ Below w.heap.size w w' ∧ l = chL R A B down n := by
  have hro := h.room
  have HR : Hid (Rw cellV 2 w a n cap R) := h
  have ha0 := Int.emod_nonneg A (show (7 : Int) ≠ 0 by decide)
  have ha1 := Int.emod_lt_of_pos A (show (0 : Int) < 7 by decide)
  have hb0 := Int.emod_nonneg B (show (11 : Int) ≠ 0 by decide)
  have hb1 := Int.emod_lt_of_pos B (show (0 : Int) < 11 by decide)
  obtain ⟨x, hx⟩ : ∃ x, A % 7 = x := ⟨_, rfl⟩
  obtain ⟨y, hy⟩ : ∃ y, B % 11 = y := ⟨_, rfl⟩
  have H1 : Hid (∀ w : World, Calls Tryd.prog 6 #[.int .i64 A, .int .i64 7] w fun e w' => e = .returned (.int .i64 x) ∧ w' = w) := by subst hx; exact rest_any A 7 (by decide) (by decide)
  have H2 : Hid (∀ w : World, Calls Tryd.prog 6 #[.int .i64 B, .int .i64 11] w fun e w' => e = .returned (.int .i64 y) ∧ w' = w) := by subst hy; exact rest_any B 11 (by decide) (by decide)
  rw [hx] at ha0 ha1
  rw [hy] at hb0 hb1
  have HXY : Hid (A % 7 = x ∧ B % 11 = y) := ⟨hx, hy⟩
  clear h hx hy
  go_enter Tryd.func21, Tryd.ntmps21
  go_wp2_with fail
  go_loopw [9, 10] (fun v vq wr => ∃ (q : Nat) (l : List (Int × Int)), q ≤ n ∧ vq = .int .i64 (q : Int) ∧ OwnF pieceV 2 91 wr w.heap.size v l ∧ Chs R down q l ∧ Below w.heap.size w wr ∧ l = chL R A B down q) (fun _ vq _ => n - (RowKit.intOf vq).toNat)
  case atStart => exact ⟨0, [], Nat.zero_le _, rfl, ownF_nil _ _, chs_nil _ _ _, Below.refl _ _, rfl⟩
  case round =>
    obtain ⟨q, l, hq, rfl, ho, hC, hb, hcl⟩ := hrel
    have HCL : Hid (l = chL R A B down q) := hcl
    clear hcl
    have hsz := hb.size
    by_cases hlt : q < n
    · have hxq : 0 ≤ (q : Int) * x ∧ (q : Int) * x ≤ 7340032 := by
        constructor
        · exact Int.mul_nonneg (by omega) ha0
        · have h1 : (q : Int) * x ≤ (q : Int) * 7 := Int.mul_le_mul_of_nonneg_left (by omega) (by omega)
          omega
      have u0 : IntKind.i64.wrap ((q : Int) * x) = (q : Int) * x := IntWalk.i64_in _ (by omega)
      obtain ⟨qx, hqx⟩ : ∃ k, (q : Int) * x = k := ⟨_, rfl⟩
      rw [hqx] at hxq u0
      obtain ⟨z, hz⟩ : ∃ z, (qx + y) % 11 = z := ⟨_, rfl⟩
      have HZ : Hid (((q : Int) * (A % 7) + B % 11) % 11 = z) := by show _ = _; rw [HXY.out.1, HXY.out.2, hqx]; exact hz
      have H3 : Hid (∀ w : World, Calls Tryd.prog 6 #[.int .i64 (qx + y), .int .i64 11] w fun e w' => e = .returned (.int .i64 z) ∧ w' = w) := by subst hz; exact rest_any (qx + y) 11 (by decide) (by decide)
      have u1 : IntKind.i64.wrap (qx + y) = qx + y := IntWalk.i64_in _ (by omega)
      obtain ⟨g, off, c, rfl, hg, hx, hc⟩ := HR.out.at q hlt
      have c1 : wr.cell? ⟨g, off + q * 2 + 1, none⟩ = some (.int .i64 c.2) := (hb.cell (p := ⟨g, off + q * 2 + 1, none⟩) hg).trans (hc 1 _ rfl)
      have HX : Hid (R[q]? = some c) := hx
      have HC : Hid (Chs R down q l) := hC
      have HO : Hid (OwnF pieceV 2 91 wr w.heap.size u9 l) := ho
      clear hc hx hz hC ho
      go_wp2_with fail
      refine (H1.out _).mono ?_
      rintro e w1 ⟨rfl, rfl⟩
      go_wp2_with fail
      refine (H2.out _).mono ?_
      rintro e w2 ⟨rfl, rfl⟩
      go_wp2_with fail
      refine (H3.out _).mono ?_
      rintro e w3 ⟨rfl, rfl⟩
      clear H1 H2 H3
      by_cases hz5 : z < 5
      · have b5 : decide (z < 5) = true := decide_eq_true hz5
        by_cases hdc : down = true ∧ c.2 = 0
        · obtain ⟨rfl, hc0⟩ := hdc
          rw [hc0] at c1
          go_wp2_with fail
          go_roundw
          case rel => exact ⟨q + 1, l, by omega, by go_num, HO.out, HC.out.skip, hb, chL_low HCL.out HX.out hc0⟩
          case measure => simp [RowKit.intOf]; omega
        · have hdn : down = true → ∀ c', R[q]? = some c' → c'.2 ≠ 0 := fun e c' hc' h0 => by
            rw [HX.out] at hc'
            cases hc'
            exact hdc ⟨e, h0⟩
          have HN : Hid (down = true → ∀ c', R[q]? = some c' → c'.2 ≠ 0) := hdn
          have b6 : (down && (c.2 == 0)) = false := by
            cases down with
            | false => rfl
            | true => simp only [Bool.true_and, beq_eq_false_iff_ne]; exact hdn rfl c HX.out
          have HPK : Hid (pick R A B down q = true) := pick_yes HZ.out hz5 HX.out b6
          clear hdn hdc
          have ho := HO.out
          clear HO
          obtain ⟨a9, cap9, rfl⟩ := ho.shape
          have hfew := HC.out.few
          rcases List.eq_nil_or_concat l with rfl | ⟨l', r, rfl⟩
          · have HC2 : Hid (Chs R down (q + 1) ([] ++ [((q : Int), (q : Int) + 1)])) := HC.out.one (fun r h => by cases h) HN.out
            have HQ2 : Hid ([] ++ [((q : Int), (q : Int) + 1)] = chL R A B down (q + 1)) := chL_one HCL.out HPK.out (fun r h => by cases h)
            clear HCL HPK
            have u5 : IntKind.i64.wrap ((q : Int) + 1) = (q : Int) + 1 := IntWalk.i64_in _ (by omega)
            obtain ⟨g5, cap5, w6, hr, ho6, hb6, _, _⟩ := appendF_one kindRg layP ho hb.size ((q : Int), (q : Int) + 1) #[.int .i64 (q : Int), .int .i64 ((q : Int) + 1)] rfl 91 (by simp) (by simp) 71
            simp only [List.length_nil] at ho ho6 hr ⊢
            clear ho
            cases down with
            | false =>
              go_wp2_with (at_builtin; refine wpList_append_hr rfl _ _ 71 rfl _ _ rfl rfl hr ?_)
              go_roundw
              case rel => exact ⟨q + 1, _, by omega, by go_num, ho6, HC2.out, hb.trans hb6, HQ2.out⟩
              case measure => simp [RowKit.intOf]; omega
            | true =>
              go_wp2_with (at_builtin; refine wpList_append_hr rfl _ _ 71 rfl _ _ rfl rfl hr ?_)
              go_roundw
              case rel => exact ⟨q + 1, _, by omega, by go_num, ho6, HC2.out, hb.trans hb6, HQ2.out⟩
              case measure => simp [RowKit.intOf]; omega
          · rw [List.concat_eq_append] at *
            have hll : (l' ++ [r]).length = l'.length + 1 := by simp
            obtain ⟨g9, cp9, hv, hg9, hg9s, hcp1, hcp2, hfz⟩ := ho.ptr (by omega)
            obtain ⟨g', o', x', e', hg', hx', hc'⟩ := (ho.rw_ layP).at l'.length (by omega)
            cases hv
            cases e'
            have e9 : x' = r := by simpa using hx'.symm
            subst e9
            have c7 : w3.cell? ⟨g9, l'.length * 2 + 1, none⟩ = some (.int .i64 x'.2) := by have := hc' 1 _ rfl; simpa using this
            have f7 := hfz (l'.length * 2 + 1)
            rw [hll] at ho ⊢
            clear hc' hx' hfz
            by_cases hr2 : x'.2 = (q : Int)
            · have ex : x' = (x'.1, (q : Int)) := Prod.ext rfl hr2
              have HC3 : Hid (Chs R down (q + 1) (l' ++ [(x'.1, (q : Int) + 1)])) := Chs.longer (by rw [← ex]; exact HC.out) HN.out
              have HQ3 : Hid (l' ++ [(x'.1, (q : Int) + 1)] = chL R A B down (q + 1)) := chL_longer (by rw [← ex]; exact HCL.out) HPK.out
              clear HCL HPK
              have HSL : Hid (OwnF pieceV 2 91 (w3.setCell ⟨g9, l'.length * 2 + 1, none⟩ (.int .i64 ((q : Int) + 1))) w.heap.size (.slice (some ⟨g9, 0, none⟩) (l'.length + 1) cap9) (l' ++ [(x'.1, (q : Int) + 1)])) := OwnF.setLast (x := x'.1) (y := x'.2) ho ((q : Int) + 1)
              clear ex ho HC HN
              cases down with
              | false =>
                go_wp2_with fail
                exact ⟨⟨q + 1, l' ++ [(x'.1, (q : Int) + 1)], by omega, by go_num, HSL.out, HC3.out, hb.setCell (p := ⟨g9, l'.length * 2 + 1, none⟩) hg9 _, HQ3.out⟩, by simp [RowKit.intOf]; omega⟩
              | true =>
                go_wp2_with fail
                exact ⟨⟨q + 1, l' ++ [(x'.1, (q : Int) + 1)], by omega, by go_num, HSL.out, HC3.out, hb.setCell (p := ⟨g9, l'.length * 2 + 1, none⟩) hg9 _, HQ3.out⟩, by simp [RowKit.intOf]; omega⟩
            · have HC2 : Hid (Chs R down (q + 1) ((l' ++ [x']) ++ [((q : Int), (q : Int) + 1)])) := HC.out.one (fun r h => by rw [List.getLast?_append] at h; simp only [List.getLast?_singleton, Option.some_or, Option.some.injEq] at h; rw [← h]; exact hr2) HN.out
              have HQ2 : Hid ((l' ++ [x']) ++ [((q : Int), (q : Int) + 1)] = chL R A B down (q + 1)) := chL_one HCL.out HPK.out (fun r h => by rw [List.getLast?_append] at h; simp only [List.getLast?_singleton, Option.some_or, Option.some.injEq] at h; rw [← h]; exact hr2)
              clear HCL HPK
              have b7 : (x'.2 == (q : Int)) = false := beq_eq_false_iff_ne.2 hr2
              have u5 : IntKind.i64.wrap ((q : Int) + 1) = (q : Int) + 1 := IntWalk.i64_in _ (by omega)
              obtain ⟨g5, cap5, w6, hr, ho6, hb6, _, _⟩ := appendF_one kindRg layP ho hb.size ((q : Int), (q : Int) + 1) #[.int .i64 (q : Int), .int .i64 ((q : Int) + 1)] rfl 91 (by omega) (by omega) 71
              rw [hll] at ho6 hr
              have hfew2 : l'.length + 1 ≤ q := by omega
              clear ho HC HN hr2 hfew hll
              cases down with
              | false =>
                go_wp2_with (at_builtin; refine wpList_append_hr rfl _ _ 71 rfl _ _ rfl rfl hr ?_)
                go_roundw
                case rel => exact ⟨q + 1, _, by omega, by go_num, ho6, HC2.out, hb.trans hb6, HQ2.out⟩
                case measure => simp [RowKit.intOf]; omega
              | true =>
                go_wp2_with (at_builtin; refine wpList_append_hr rfl _ _ 71 rfl _ _ rfl rfl hr ?_)
                go_roundw
                case rel => exact ⟨q + 1, _, by omega, by go_num, ho6, HC2.out, hb.trans hb6, HQ2.out⟩
                case measure => simp [RowKit.intOf]; omega
      · have b5 : decide (z < 5) = false := decide_eq_false hz5
        go_wp2_with fail
        go_roundw
        case rel => exact ⟨q + 1, l, by omega, by go_num, HO.out, HC.out.skip, hb, chL_far HCL.out HZ.out (show ¬ z < 5 by omega)⟩
        case measure => simp [RowKit.intOf]; omega
    · obtain rfl : q = n := by omega
      go_wp2_with fail
      go_ret
      exact ⟨_, l, rfl, ho, hC, hb, HCL.out⟩
end Go.Proofs.YtokclnjaglklhaaDoor
