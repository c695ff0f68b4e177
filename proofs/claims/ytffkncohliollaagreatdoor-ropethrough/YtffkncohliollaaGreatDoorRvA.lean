import Derived.Test.YtffkncohliollaaGreatDoorRrEJ
import Derived.Test.YtffkncohliollaaGreatDoorRrPI
/-! The statement's own words and choice of cells, as functions. -/
namespace Go.Proofs.YtffkncohliollaaGreatDoor
open Go.RowKit Go.Lib
set_option maxRecDepth 100000

def sgn (k : Int) : Int := if k % 5 = 1 then 233 else if k % 5 = 2 then 8364 else if k % 5 = 3 then 128512 else 97 + k % 26
theorem sgn_ok (k : Int) : okR (sgn k) := by
  have h7 := Int.emod_nonneg k (show (26 : Int) ≠ 0 by decide)
  have h8 := Int.emod_lt_of_pos k (show (0 : Int) < 26 by decide)
  refine IsSign.ok ⟨?_⟩
  unfold sgn
  split
  · omega
  · split
    · omega
    · split
      · omega
      · omega
set_option maxHeartbeats 400000 in
theorem sign_is (k : Int) (w : World) : Calls Tryz.prog 52 #[.int .i64 k] w fun e w' => e = .returned (.int .i32 (sgn k)) ∧ w' = w := by
  have h5 := Int.emod_nonneg k (show (5 : Int) ≠ 0 by decide)
  have h6 := Int.emod_lt_of_pos k (show (0 : Int) < 5 by decide)
  have h7 := Int.emod_nonneg k (show (26 : Int) ≠ 0 by decide)
  have h8 := Int.emod_lt_of_pos k (show (0 : Int) < 26 by decide)
  have H5 := rest_any k 5 (by decide) (by decide)
  have H26 := rest_any k 26 (by decide) (by decide)
  unfold sgn
  generalize k % 5 = a at *
  generalize k % 26 = b at *
  obtain ⟨r, hr⟩ : ∃ r, (if a = 1 then (233 : Int) else if a = 2 then 8364 else if a = 3 then 128512 else 97 + b) = r := ⟨_, rfl⟩
  rw [hr]
  go_enter Tryz.func52, Tryz.ntmps52
  go_wp2_with fail
  refine (H5 _).mono ?_
  rintro e w1 ⟨rfl, rfl⟩
  by_cases a1 : a = 1
  · subst a1
    subst hr
    go_wp2_with fail
    go_ret
    exact ⟨rfl, rfl⟩
  · by_cases a2 : a = 2
    · subst a2
      subst hr
      go_wp2_with fail
      go_ret
      exact ⟨rfl, rfl⟩
    · by_cases a3 : a = 3
      · subst a3
        subst hr
        go_wp2_with fail
        go_ret
        exact ⟨rfl, rfl⟩
      · rw [if_neg a1, if_neg a2, if_neg a3] at hr
        go_wp2_with fail
        refine (H26 _).mono ?_
        rintro e w2 ⟨rfl, rfl⟩
        go_wp2_with fail
        go_ret
        exact ⟨by rw [← hr]; rfl, rfl⟩
def wrds (k : Int) (n : Nat) : List Int := (List.range n).map fun i : Nat => sgn (wrap64 (k + (i : Int)))
theorem wrds_succ (k : Int) (n : Nat) : wrds k (n + 1) = wrds k n ++ [sgn (wrap64 (k + (n : Int)))] := by simp [wrds, List.range_succ]
theorem wrds_len (k : Int) (n : Nat) : (wrds k n).length = n := by simp [wrds]
theorem wrds_ok (k : Int) (n : Nat) : ∀ r ∈ wrds k n, okR r := fun r hr => by
  obtain ⟨i, _, rfl⟩ := List.mem_map.1 hr
  exact sgn_ok _
theorem wrds_text (k : Int) (n : Nat) : IsText (strOf (wrds k n)) (wrds k n) := ⟨by simp [strOf], wrds_ok k n⟩
theorem strOf_snoc {rs : List Int} (h : ∀ r ∈ rs, okR r) {r : Int} (hr : okR r) : strOf rs ++ Utf8.encode r = strOf (rs ++ [r]) :=
  tx_eq (IsText.snoc (s := strOf rs) ⟨by simp [strOf], h⟩ hr).bytes
set_option maxHeartbeats 2000000 in
theorem words_is (n : Nat) (k : Int) (hn : n ≤ 1048576) (w : World) :
    Calls Tryz.prog 19 #[.int .i64 (n : Int), .int .i64 k] w fun e w' => e = .returned (.string (strOf (wrds k n))) ∧ w' = w := by
  go_enter Tryz.func19, Tryz.ntmps19
  go_wp2_with fail
  go_loop [5, 6] (fun vs vi => ∃ i : Nat, vs = .string (strOf (wrds k i)) ∧ vi = .int .i64 (i : Int) ∧ i ≤ n) (fun _ i => n - (RowKit.intOf i).toNat)
  case atStart => exact ⟨0, rfl, rfl, Nat.zero_le _⟩
  case round =>
    obtain ⟨i, rfl, rfl, hl⟩ := hrel
    by_cases hlt : i < n
    · have hb := (wrds_text k i).small
      rw [wrds_len] at hb
      have HE : Hid (strOf (wrds k i) ++ Utf8.encode (sgn (wrap64 (k + (i : Int)))) = strOf (wrds k (i + 1))) := by
        show _ = _
        rw [strOf_snoc (wrds_ok k i) (sgn_ok _), ← wrds_succ]
      have hz : (Utf8.encode (sgn (wrap64 (k + (i : Int))))).size ≤ 4 := by have := encB_le _ (sgn_ok (wrap64 (k + (i : Int)))); rw [size_data]; exact this
      have HS := sign_is (wrap64 (k + (i : Int)))
      generalize hsg : sgn (wrap64 (k + (i : Int))) = r at *
      generalize hst : strOf (wrds k i) = st at *
      go_wp2_with fail
      refine (HS _).mono ?_
      rintro e w1 ⟨rfl, rfl⟩
      go_wp2_with fail
      exact ⟨⟨i + 1, by rw [← HE.out], by simp, by omega⟩, by simp [RowKit.intOf]; omega⟩
    · obtain rfl : i = n := by omega
      go_wp2_with fail
      go_ret
      exact ⟨rfl, rfl⟩
/-- Is a cell of the row chosen? -/
def pick (R : List (Int × Int)) (A B : Int) (down : Bool) (q : Nat) : Bool := decide (((q : Int) * (A % 7) + B % 11) % 11 < 5) && !(down && ((R[q]?.map fun c => c.2 == 0).getD false))
def addP (l : List (Int × Int)) (q : Nat) : List (Int × Int) := match l.getLast? with
  | some r => if r.2 = (q : Int) then l.dropLast ++ [(r.1, (q : Int) + 1)] else l ++ [((q : Int), (q : Int) + 1)]
  | none => l ++ [((q : Int), (q : Int) + 1)]
def chL (R : List (Int × Int)) (A B : Int) (down : Bool) : Nat → List (Int × Int)
  | 0 => []
  | q + 1 => if pick R A B down q then addP (chL R A B down q) q else chL R A B down q
theorem addP_last (l : List (Int × Int)) (x q : Nat) (a : Int) (h : x = q) : addP (l ++ [(a, (x : Int))]) q = l ++ [(a, (q : Int) + 1)] := by
  subst h
  simp [addP]
section
variable {R : List (Int × Int)} {A B : Int} {down : Bool} {q : Nat} {l : List (Int × Int)}
theorem chL_far (hl : l = chL R A B down q) {z : Int} (hz : ((q : Int) * (A % 7) + B % 11) % 11 = z) (h : ¬ z < 5) : l = chL R A B down (q + 1) := by
  have e : pick R A B down q = false := by simp [pick, hz, h]
  simp [chL, e, hl]
theorem chL_low (hl : l = chL R A B true q) {c : Int × Int} (hc : R[q]? = some c) (h : c.2 = 0) : l = chL R A B true (q + 1) := by
  have e : pick R A B true q = false := by simp [pick, hc, h]
  simp [chL, e, hl]
theorem pick_yes {z : Int} (hz : ((q : Int) * (A % 7) + B % 11) % 11 = z) (h : z < 5) {c : Int × Int} (hc : R[q]? = some c) (hd : (down && (c.2 == 0)) = false) : pick R A B down q = true := by
  simp [pick, hz, h, hc, hd]
theorem chL_one (hl : l = chL R A B down q) (hp : pick R A B down q = true) (h : ∀ r, l.getLast? = some r → r.2 ≠ (q : Int)) : l ++ [((q : Int), (q : Int) + 1)] = chL R A B down (q + 1) := by
  rw [chL, if_pos hp, ← hl]
  unfold addP
  cases e : l.getLast? with
  | none => rfl
  | some r => simp only; rw [if_neg (h r e)]
theorem chL_longer {a : Int} (hl : l ++ [(a, (q : Int))] = chL R A B down q) (hp : pick R A B down q = true) : l ++ [(a, (q : Int) + 1)] = chL R A B down (q + 1) := by
  rw [chL, if_pos hp, ← hl]
  exact (addP_last l q q a rfl).symm
end
end Go.Proofs.YtffkncohliollaaGreatDoor
