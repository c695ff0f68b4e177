import Derived.Test.YtdmhajlhpieedaaLaAC
import Derived.Shelf.Abstract
/-! cmp.Compare, the search for a number, find. -/
namespace Go.Proofs.Ytdmhajlhpieedaa
open Go.RowKit Go.Lib Go.Shelf
set_option maxRecDepth 100000

def cmpV (x y : Int) : Int := if x < y then -1 else if y < x then 1 else 0
set_option maxHeartbeats 1000000 in
theorem isNaN_any (x : Int) (w : World) : Calls Try.prog 56 #[.int .i64 x] w fun e w' => e = .returned (.bool false) ∧ w' = w := by
  have h1 : (x != x) = false := by simp
  go_enter Try.func56, Try.ntmps56
  go_wp2_with fail
  go_ret
  exact ⟨rfl, rfl⟩
set_option maxHeartbeats 1000000 in
theorem compare_any (x y : Int) (w : World) : Calls Try.prog 47 #[.int .i64 x, .int .i64 y] w fun e w' => e = .returned (.int .i64 (cmpV x y)) ∧ w' = w := by
  have HN : Hid (∀ x w, Calls Try.prog 56 #[.int .i64 x] w fun e w' => e = .returned (.bool false) ∧ w' = w) := isNaN_any
  obtain ⟨r, hr⟩ : ∃ r, r = cmpV x y := ⟨_, rfl⟩
  rw [← hr]
  have hr' : Hid (r = cmpV x y) := hr
  clear hr
  by_cases h1 : x < y
  · go_enter Try.func47, Try.ntmps47
    go_wp2_with fail
    refine (HN.out _ _).mono ?_
    rintro e w1 ⟨rfl, rfl⟩
    go_wp2_with fail
    refine (HN.out _ _).mono ?_
    rintro e w1 ⟨rfl, rfl⟩
    go_wp2_with fail
    go_ret
    refine ⟨?_, rfl⟩
    rw [hr'.out]; simp [cmpV, h1]
  · by_cases h2 : y < x
    · go_enter Try.func47, Try.ntmps47
      go_wp2_with fail
      refine (HN.out _ _).mono ?_
      rintro e w1 ⟨rfl, rfl⟩
      go_wp2_with fail
      refine (HN.out _ _).mono ?_
      rintro e w1 ⟨rfl, rfl⟩
      go_wp2_with fail
      go_ret
      refine ⟨?_, rfl⟩
      rw [hr'.out]; simp [cmpV, h1, h2]
    · go_enter Try.func47, Try.ntmps47
      go_wp2_with fail
      refine (HN.out _ _).mono ?_
      rintro e w1 ⟨rfl, rfl⟩
      go_wp2_with fail
      refine (HN.out _ _).mono ?_
      rintro e w1 ⟨rfl, rfl⟩
      go_wp2_with fail
      go_ret
      refine ⟨?_, rfl⟩
      rw [hr'.out]; unfold cmpV; rw [if_neg (by omega), if_neg (by omega)]; rfl
set_option maxHeartbeats 1000000 in
theorem find1_any (n fr tt : Int) (a : Option Addr) (m cap : Nat) (sp : Bool) (k : Int) (w : World) : Calls Try.prog 46 #[.agg #[.int .i64 n, .int .i64 fr, .int .i64 tt, .slice a m cap, .bool sp], .int .i64 k] w fun e w' => e = .returned (.int .i64 (cmpV n k)) ∧ Below w.heap.size w w' := by
  have HC : Hid (∀ x y w, Calls Try.prog 47 #[.int .i64 x, .int .i64 y] w fun e w' => e = .returned (.int .i64 (cmpV x y)) ∧ w' = w) := compare_any
  go_enter Try.func46, Try.ntmps46
  go_wp2_with fail
  refine (HC.out _ _ _).mono ?_
  rintro e w1 ⟨rfl, rfl⟩
  go_wp2_with fail
  go_ret
  exact ⟨rfl, (Below.refl _ _).alloc (Nat.le_refl _) _⟩
def numAt (xs : List X) (j : Nat) : Int := ((xs.map (fun x => (x.num : Int))).getD j 0)
theorem numAt_of {xs : List X} {j : Nat} {x : X} (h : xs[j]? = some x) : numAt xs j = (x.num : Int) := by
  unfold numAt; rw [List.getD_eq_getElem?_getD, List.getElem?_map, h]; rfl
/-- Where the search ends. -/
def FoundK (xs : List X) (k : Int) (i : Nat) : Prop := i ≤ xs.length ∧ (0 < i → numAt xs (i - 1) < k) ∧ (i < xs.length → k ≤ numAt xs i)
set_option maxHeartbeats 4000000 in
theorem search_any {W : World} {a : Option Addr} {n cap : Nat} {xs : List X} (h : Rw fv 5 W a n cap xs) (hn : n ≤ 4294967296) (k : Int) :
    Calls Try.prog 45 #[.slice a n cap, .int .i64 k, .func (.func 46) #[] #[]] W fun e w' => ∃ i : Nat, e = .returned (.tuple #[.int .i64 (i : Int), .bool (decide (i < n) && decide (numAt xs i = k))]) ∧ FoundK xs k i ∧ Below W.heap.size W w' := by
  have hl := h.len
  have hC : Hid (∀ j W', j < n → Below W.heap.size W W' → ∃ (g off : Nat) (x : X), a = some ⟨g, off, none⟩ ∧ numAt xs j = (x.num : Int) ∧ W'.cell? ⟨g, off + j * 5, none⟩ = some (.int .i64 (x.num : Int)) ∧ W'.cell? ⟨g, off + j * 5 + 1, none⟩ = some (.int .i64 x.fr) ∧ W'.cell? ⟨g, off + j * 5 + 2, none⟩ = some (.int .i64 x.tt) ∧ W'.cell? ⟨g, off + j * 5 + 3, none⟩ = some (.slice x.a x.bs.length x.cap) ∧ W'.cell? ⟨g, off + j * 5 + 4, none⟩ = some (.bool x.sp)) := fun j W' hj hb => by
    obtain ⟨g, off, x, ha, hg, hx, hc⟩ := (h.below hb).at j hj
    exact ⟨g, off, x, ha, numAt_of hx, hc 0 _ rfl, hc 1 _ rfl, hc 2 _ rfl, hc 3 _ rfl, hc 4 _ rfl⟩
  have HF : Hid (∀ (n fr tt : Int) (a : Option Addr) (m cap : Nat) (sp : Bool) (k : Int) (w : World), Calls Try.prog 46 #[.agg #[.int .i64 n, .int .i64 fr, .int .i64 tt, .slice a m cap, .bool sp], .int .i64 k] w fun e w' => e = .returned (.int .i64 (cmpV n k)) ∧ Below w.heap.size w w') := find1_any
  have hl' : Hid (xs.length = n) := hl
  clear hl h
  go_enter Try.func45, Try.ntmps45
  go_wp2_with fail
  go_loopw [9, 10, 11] (fun v3 v4 _ W' => ∃ i j : Nat, i ≤ j ∧ j ≤ n ∧ v3 = .int .i64 i ∧ v4 = .int .i64 j ∧ (0 < i → numAt xs (i - 1) < k) ∧ (j < n → k ≤ numAt xs j) ∧ Below W.heap.size W W') (fun v3 v4 _ _ => (RowKit.intOf v4 - RowKit.intOf v3).toNat)
  case atStart => exact ⟨0, n, by omega, by omega, rfl, rfl, by omega, by omega, Below.refl _ _⟩
  case round =>
    obtain ⟨i, j, hij, hj, rfl, rfl, hi1, hj1, hB⟩ := hrel
    have hI : Hid ((0 < i → numAt xs (i - 1) < k) ∧ (j < n → k ≤ numAt xs j) ∧ Below W.heap.size W wr) := ⟨hi1, hj1, hB⟩
    clear hi1 hj1
    by_cases hlt : i < j
    · have b1 : decide ((i : Int) < (j : Int)) = true := decide_eq_true (by omega)
      obtain ⟨h, hh⟩ : ∃ h, (i + j) / 2 = h := ⟨_, rfl⟩
      have hhi : i ≤ h ∧ h < j := by omega
      have e1 : IntKind.i64.wrap ((i : Int) + (j : Int)) = (i : Int) + (j : Int) := IntWalk.i64_in _ (by omega)
      have e2 : IntKind.u64.wrap ((i : Int) + (j : Int)) = (i : Int) + (j : Int) := by rw [IntKind.wrap_u64]; omega
      have e3 : ((i : Int) + (j : Int)) / 2 = (h : Int) := by omega
      have e4 : IntKind.i64.wrap (h : Int) = (h : Int) := IntWalk.i64_in _ (by omega)
      obtain ⟨g, off, x, rfl, hx, c0, c1, c2, c3, c4⟩ := hC.out h wr (by omega) hB
      have hx' : Hid (numAt xs h = (x.num : Int)) := hx
      have n1 : h < n := by omega
      clear hx hB
      go_wp2_with fail
      refine (HF.out _ _ _ _ _ _ _ _ _).mono ?_
      rintro e W1 ⟨rfl, hb1⟩
      have hb1' : Hid (Below wr.heap.size wr W1) := hb1
      clear hb1
      by_cases hp : (x.num : Int) < k
      · have q1 : cmpV (x.num : Int) k = -1 := by simp [cmpV, hp]
        rw [q1]
        go_wp2_with fail
        obtain ⟨hi1, hj1, hB⟩ := hI.out
        have hB1 := hB.trans (hb1'.out.mono hB.size)
        exact ⟨⟨h + 1, j, by omega, by omega, by simp, rfl, fun _ => by rw [Nat.add_sub_cancel, hx'.out]; exact hp, hj1, hB1⟩, by simp [RowKit.intOf]; omega⟩
      · have q1 : decide (cmpV (x.num : Int) k < 0) = false := by
          unfold cmpV; rw [if_neg hp]; split <;> rfl
        obtain ⟨c, hc⟩ : ∃ c, cmpV (x.num : Int) k = c := ⟨_, rfl⟩
        rw [hc] at q1 ⊢
        have q2 : ¬ c < 0 := by simpa using q1
        clear hc
        go_wp2_with fail
        obtain ⟨hi1, hj1, hB⟩ := hI.out
        have hB1 := hB.trans (hb1'.out.mono hB.size)
        exact ⟨⟨i, h, by omega, by omega, rfl, rfl, hi1, fun _ => by rw [hx'.out]; omega, hB1⟩, by simp [RowKit.intOf]; omega⟩
    · have b1 : decide ((i : Int) < (j : Int)) = false := decide_eq_false (by omega)
      obtain rfl : i = j := by omega
      by_cases hin : i < n
      · have b2 : decide ((i : Int) < (n : Int)) = true := decide_eq_true (by omega)
        have b3 : (i : Int) < (n : Int) := by omega
        obtain ⟨g, off, x, rfl, hx, c0, c1, c2, c3, c4⟩ := hC.out i wr hin hB
        have hx' : Hid (numAt xs i = (x.num : Int)) := hx
        clear hx hB
        by_cases hp : (x.num : Int) = k
        · go_wp2_with fail
          refine (HF.out _ _ _ _ _ _ _ _ _).mono ?_
          rintro e W1 ⟨rfl, hb1⟩
          have hb1' : Hid (Below wr.heap.size wr W1) := hb1
          clear hb1
          have q1 : cmpV k k = 0 := by simp [cmpV]
          rw [q1]
          go_wp2_with fail
          go_ret2
          obtain ⟨hi1, hj1, hB⟩ := hI.out
          refine ⟨i, ?_, ⟨by rw [hl'.out]; omega, hi1, fun _ => hj1 hin⟩, hB.trans (hb1'.out.mono hB.size)⟩
          rw [hx'.out]; simp [hin, hp]
        · go_wp2_with fail
          refine (HF.out _ _ _ _ _ _ _ _ _).mono ?_
          rintro e W1 ⟨rfl, hb1⟩
          have hb1' : Hid (Below wr.heap.size wr W1) := hb1
          clear hb1
          obtain ⟨c, hc⟩ : ∃ c, cmpV (x.num : Int) k = c := ⟨_, rfl⟩
          have q1 : (c == 0) = false := by
            subst hc; unfold cmpV; split; rfl; split; rfl; omega
          have q2 : ¬ c = 0 := by simpa using q1
          rw [hc]
          clear hc
          go_wp2_with fail
          go_ret2
          obtain ⟨hi1, hj1, hB⟩ := hI.out
          refine ⟨i, ?_, ⟨by rw [hl'.out]; omega, hi1, fun _ => hj1 hin⟩, hB.trans (hb1'.out.mono hB.size)⟩
          rw [hx'.out]; simp [hp]
      · have b2 : decide ((i : Int) < (n : Int)) = false := decide_eq_false (by omega)
        have b3 : ¬ (i : Int) < (n : Int) := by omega
        obtain rfl : i = n := by omega
        clear hB
        go_wp2_with fail
        go_ret2
        obtain ⟨hi1, hj1, hB⟩ := hI.out
        exact ⟨i, by simp, ⟨by rw [hl'.out]; omega, hi1, fun h => by rw [hl'.out] at h; omega⟩, hB⟩
end Go.Proofs.Ytdmhajlhpieedaa
