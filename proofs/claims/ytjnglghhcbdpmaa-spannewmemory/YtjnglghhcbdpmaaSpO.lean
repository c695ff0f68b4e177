import Derived.Test.YtjnglghhcbdpmaaSpH
import Derived.Test.YtjnglghhcbdpmaaSpL
namespace Go.Proofs.Ytjnglghhcbdpmaa
open Go.RowKit Go.Lib
set_option maxRecDepth 100000

theorem rng_lit1 (w : World) (x y : Int) (t : TypeId) : Rng (w.alloc (.cells #[.int .i64 x, .int .i64 y] t)) (some ⟨w.heap.size, 0, none⟩) 1 1 [(x, y)] := by
  refine ⟨rfl, ⟨Nat.le_refl _, by simp [maxLen]⟩, fun j hj => ⟨w.heap.size, 0, rfl, by simp, ?_, ?_⟩⟩
  all_goals
    obtain rfl : j = 0 := by omega
    have hh := heap_alloc_new w (.cells #[.int .i64 x, .int .i64 y] t)
    simp only [World.cell?, hh]
    rfl
theorem rng_lit2 (w : World) (x y x2 y2 : Int) (t : TypeId) : Rng (w.alloc (.cells #[.int .i64 x, .int .i64 y, .int .i64 x2, .int .i64 y2] t)) (some ⟨w.heap.size, 0, none⟩) 2 2 [(x, y), (x2, y2)] := by
  refine ⟨rfl, ⟨Nat.le_refl _, by simp [maxLen]⟩, fun j hj => ⟨w.heap.size, 0, rfl, by simp, ?_, ?_⟩⟩
  all_goals
    have hh := heap_alloc_new w (.cells #[.int .i64 x, .int .i64 y, .int .i64 x2, .int .i64 y2] t)
    simp only [World.cell?, hh]
    match j, hj with
    | 0, _ => rfl
    | 1, _ => rfl
theorem lst_one (x y : Int) (h : 0 ≤ x ∧ x < y ∧ y ≤ 1048576) : Lst [(x, y)] :=
  ⟨⟨by simp only; omega, by simp only; omega, trivial⟩, fun r hr => by simp only [List.mem_singleton] at hr; subst hr; exact h.2.2, by simp⟩
theorem lst_two (x y x2 y2 : Int) (h : 0 ≤ x ∧ x < y ∧ y < x2 ∧ x2 < y2 ∧ y2 ≤ 1048576) : Lst [(x, y), (x2, y2)] :=
  ⟨⟨by simp only; omega, by simp only; omega, by simp only; omega, by simp only; omega, trivial⟩, fun r hr => by simp only [List.mem_cons, List.not_mem_nil, or_false] at hr; rcases hr with rfl | rfl <;> simp only <;> omega, by simp⟩

set_option maxHeartbeats 2000000 in
theorem awake_any (w : World) : Calls Try.prog 8 #[] w fun e w' => e = .returned (.bool true) ∧ Below w.heap.size w w' := by
  have HU : Hid (∀ (W : World) (a b : Option Addr) (n cap m capb : Nat), Rng W a n cap [(0, 2), (5, 7)] → Rng W b m capb [(2, 5)] → Calls Try.prog 21 #[.slice a n cap, .slice b m capb] W fun e w' => ∃ a' cap', e = .returned (.tuple #[.slice a' 1 cap', .int .i64 0]) ∧ Rng w' a' 1 cap' [(0, 7)] ∧ Below W.heap.size W w') := fun W a b n cap m capb h1 h2 =>
    (union_ok h1 h2 (lst_two _ _ _ _ (by omega)) (lst_one _ _ (by omega))).mono fun e w' ⟨U, hN, hM, hA, hB⟩ => by
      have hU : U = [(0, 7)] := norm_unique hN (show Norm (-1) [(0, 7)] from ⟨by simp, by simp, trivial⟩) fun q => by
        rw [hM q]
        simp only [lies_cons, lies_nil, or_false]
        omega
      subst hU
      rcases hA with ⟨h, _⟩ | ⟨_, a', cap', he, ho⟩
      · simp at h
      · exact ⟨a', cap', he, ho.rng, hB⟩
  have HT : Hid (∀ (W : World) (a : Option Addr) (n cap : Nat), Rng W a n cap [(2, 5)] → Calls Try.prog 22 #[.slice a n cap, .int .i64 3, .int .i64 2] W fun e w' => ∃ a' cap', e = .returned (.tuple #[.slice a' 2 cap', .int .i64 0]) ∧ Rng w' a' 2 cap' [(2, 3), (5, 7)] ∧ Below W.heap.size W w') := fun W a n cap h1 =>
    (through_ok h1 (lst_one _ _ (by omega)) (at_ := 3) (k := 2) (by omega) (fun ⟨r, hr, _, h2⟩ => by simp only [List.getLast?_singleton, Option.some.injEq] at hr; subst hr; simp only at h2; omega)).mono fun e w' ⟨hA, hB⟩ => by
      have hU : throughL [(2, 5)] 3 2 = [(2, 3), (5, 7)] := by rfl
      rw [hU] at hA
      rcases hA with ⟨h, _⟩ | ⟨_, a', cap', he, ho⟩
      · simp at h
      · exact ⟨a', cap', he, ho.rng, hB⟩
  have HC : Hid (∀ (W : World) (a : Option Addr) (n cap : Nat), Rng W a n cap [(2, 5), (5, 9)] → Calls Try.prog 20 #[.slice a n cap] W fun e w' => e = .returned (.tuple #[.int .i64 1, .int .i64 22]) ∧ Below W.heap.size W w') := fun W a n cap h1 =>
    (check_any h1).mono fun e w' ⟨he, hb⟩ => ⟨by rw [he]; rfl, hb⟩
  have HS : Hid (∀ (W : World) (l : List (Int × Int)) (a b : Option Addr) (n cap m capb : Nat), Rng W a n cap l → Rng W b m capb l → Calls Try.prog 12 #[.slice a n cap, .slice b m capb] W fun e w' => e = .returned (.bool true) ∧ Below W.heap.size W w') := fun W l a b n cap m capb h1 h2 =>
    (same_any h1 h2).mono fun e w' ⟨he, hb⟩ => ⟨by rw [he]; simp, hb⟩
  have hnum := num_any
  go_enter Try.func8, Try.ntmps8
  go_wp2_with fail
  refine (HC.out _ _ _ _ (rng_lit2 _ _ _ _ _ _)).mono ?_
  rintro e w1 ⟨rfl, hb1⟩
  have hB1 : Below w.heap.size w w1 := ((Below.refl _ w).alloc (Nat.le_refl _) _).trans (hb1.mono (by simp))
  clear hb1
  go_wp2_with fail
  refine (hnum _ _).mono ?_
  rintro e w2 ⟨rfl, rfl⟩
  go_wp2_with fail
  have r1 := (rng_lit2 w2 0 2 5 7 39).below ((Below.refl _ _).alloc (Nat.le_refl _) (.cells #[.int .i64 2, .int .i64 5] 39))
  have r2 := rng_lit1 (w2.alloc (.cells #[.int .i64 0, .int .i64 2, .int .i64 5, .int .i64 7] 39)) 2 5 39
  rw [World.size_alloc] at r2
  have hs2 := hB1.size
  refine (HU.out _ _ _ _ _ _ _ r1 r2).mono ?_
  rintro e w3 ⟨a3, cap3, rfl, hr3, hb3⟩
  have hB3 : Below w.heap.size w w3 := ((hB1.alloc (by omega) _).alloc (by simp; omega) _).trans (hb3.mono (by simp; omega))
  clear hb3 r1 r2 hB1 hs2
  go_wp2_with fail
  refine (hnum _ _).mono ?_
  rintro e w4 ⟨rfl, rfl⟩
  go_wp2_with fail
  have r3 := hr3.below ((Below.refl _ _).alloc (Nat.le_refl _) (.cells #[.int .i64 0, .int .i64 7] 39))
  have hs3 := hB3.size
  refine (HS.out _ _ _ _ _ _ _ _ r3 (rng_lit1 _ 0 7 _)).mono ?_
  rintro e w5 ⟨rfl, hb5⟩
  have hB5 : Below w.heap.size w w5 := (hB3.alloc (by omega) _).trans (hb5.mono (by simp; omega))
  clear hb5 hB3 hr3 r3 hs3
  go_wp2_with fail
  refine (HT.out _ _ _ _ (rng_lit1 _ 2 5 _)).mono ?_
  rintro e w6 ⟨a6, cap6, rfl, hr6, hb6⟩
  have hs5 := hB5.size
  have hB6 : Below w.heap.size w w6 := (hB5.alloc (by omega) _).trans (hb6.mono (by simp; omega))
  clear hb6 hB5 hs5
  go_wp2_with fail
  refine (hnum _ _).mono ?_
  rintro e w7 ⟨rfl, rfl⟩
  go_wp2_with fail
  have r6 := hr6.below ((Below.refl _ _).alloc (Nat.le_refl _) (.cells #[.int .i64 2, .int .i64 3, .int .i64 5, .int .i64 7] 39))
  have hs6 := hB6.size
  refine (HS.out _ _ _ _ _ _ _ _ r6 (rng_lit2 _ 2 3 5 7 _)).mono ?_
  rintro e w8 ⟨rfl, hb8⟩
  have hB8 : Below w.heap.size w w8 := (hB6.alloc (by omega) _).trans (hb8.mono (by simp; omega))
  go_wp2_with fail
  go_ret
  exact ⟨rfl, hB8⟩
end Go.Proofs.Ytjnglghhcbdpmaa
