import Derived.Test.YtkdhcokefnffaaaDoorMaQ
/-! The sentences' own steps. -/
namespace Go.Proofs.YtkdhcokefnffaaaDoor
open Go.RowKit Go.Lib Sp
set_option maxRecDepth 100000

theorem own_lit {w : World} {B g : Nat} {x y : Int} (h : w.heap[g]? = some (.cells #[.int .i64 x, .int .i64 y] 83)) (hB : B ≤ g) : OwnF rangeV 2 83 w B (.slice (some ⟨g, 0, none⟩) 1 1) [(x, y)] :=
  ⟨rfl, .inr ⟨g, 1, _, rfl, hB, h, Nat.le_refl _, by decide, rfl, rfl⟩⟩


set_option maxHeartbeats 4000000 in
theorem steps_any {w : World} {a : Option Addr} {n cap : Nat} {zs : List Int} (h : Rw int1 1 w a n cap zs) (hn : n ≤ 9223372036854775807) :
    Calls Tryd.prog 23 #[.slice a n cap] w fun e w' => ∃ b m c, e = .returned (.slice b m c) ∧ Below w.heap.size w w' := by
  have hlen := h.len
  have hown : OwnF rangeV 2 83 (w.alloc (.cells #[.int .i64 1, .int .i64 3] 83)) w.heap.size (.slice (some ⟨w.heap.size, 0, none⟩) 1 1) [(1, 3)] := own_lit (heap_alloc_new _ _) (Nat.le_refl _)
  go_enter Tryd.func23, Tryd.ntmps23
  go_wp2_with fail
  go_loopw [3, 4, 5] (fun v3 v4 v5 W => ∃ (rs : List (Int × Int)) (hi j : Nat), v4 = .int .i64 hi ∧ v5 = .int .i64 j ∧ hi ≤ 1048576 ∧ (j ≤ n ∧ j % 2 = 0) ∧ rs.length ≤ 1000 ∧ OwnF rangeV 2 83 W w.heap.size v3 rs ∧ Below w.heap.size w W) (fun _ _ v5 _ => n + 1 - (RowKit.intOf v5).toNat)
  case atStart => exact ⟨[(1, 3)], 3, 0, rfl, rfl, by omega, ⟨Nat.zero_le _, rfl⟩, by simp, hown, (Below.refl _ _).alloc (Nat.le_refl _) _⟩
  case round =>
    clear hown
    obtain ⟨rs, hi, j, rfl, rfl, hhi, hj, hrl, ho, hB⟩ := hrel
    obtain ⟨va, vc, rfl⟩ := ho.shape
    have e1 : IntKind.i64.wrap ((j : Int) + 1) = (j : Int) + 1 := IntWalk.i64_in _ (by omega)
    by_cases hj1 : j + 1 < n
    · have b1 : (j : Int) + 1 < (n : Int) := by omega
      by_cases hr1 : rs.length < 1000
      · have b2 : (rs.length : Int) < 1000 := by omega
        obtain ⟨g, off, x, rfl, hg, hx, hc⟩ := h.at j (by omega)
        have c0 := (hB.cell (p := ⟨g, off + j * 1 + 0, none⟩) hg).trans (hc 0 _ rfl)
        obtain ⟨g', off', y, e', hg', hy, hc'⟩ := h.at (j + 1) (by omega)
        cases e'
        have c1 := (hB.cell (p := ⟨g, off + (j + 1) * 1 + 0, none⟩) hg).trans (hc' 0 _ rfl)
        simp only [Nat.add_zero, Nat.mul_one] at c0 c1
        clear hc hc' hx hy
        have HP1 := fun w => pick_any x 20000 (by omega) (by omega) w
        have HP2 := fun w => pick_any y 20000 (by omega) (by omega) w
        have HO : Hid (OwnF rangeV 2 83 wr w.heap.size (.slice va rs.length vc) rs ∧ Below w.heap.size w wr) := ⟨ho, hB⟩
        clear ho hB h
        have e2 : IntKind.i64.wrap ((hi : Int) + 1) = (hi : Int) + 1 := IntWalk.i64_in _ (by omega)
        go_wp2_with fail
        refine (HP1 _).mono ?_
        rintro e w1 ⟨z, rfl, hz, rfl⟩
        have e3 : IntKind.i64.wrap ((hi : Int) + 1 + (z : Int)) = (hi : Int) + 1 + (z : Int) := IntWalk.i64_in _ (by omega)
        have e4 : IntKind.i64.wrap ((hi : Int) + 1 + (z : Int) + 1) = (hi : Int) + 1 + (z : Int) + 1 := IntWalk.i64_in _ (by omega)
        clear HP1
        go_wp2_with fail
        refine (HP2 _).mono ?_
        rintro e w2 ⟨u, rfl, hu, rfl⟩
        clear HP2
        have e5 : IntKind.i64.wrap ((hi : Int) + 1 + (z : Int) + 1 + (u : Int)) = (hi : Int) + 1 + (z : Int) + 1 + (u : Int) := IntWalk.i64_in _ (by omega)
        by_cases hbig : (1048576 : Int) < (hi : Int) + 1 + (z : Int) + 1 + (u : Int)
        · have d1 : decide ((1048576 : Int) < (hi : Int) + 1 + (z : Int) + 1 + (u : Int)) = true := decide_eq_true hbig
          go_wp2_with fail
          go_ret
          exact ⟨_, _, _, rfl, HO.out.2⟩
        · have d1 : decide ((1048576 : Int) < (hi : Int) + 1 + (z : Int) + 1 + (u : Int)) = false := decide_eq_false hbig
          obtain ⟨ho, hB⟩ := HO.out
          obtain ⟨g5, cap5, w6, hr, ho6, hb6, _, _⟩ := appendF_one kindG layG ho hB.size ((hi : Int) + 1 + (z : Int), (hi : Int) + 1 + (z : Int) + 1 + (u : Int)) #[.int .i64 ((hi : Int) + 1 + (z : Int)), .int .i64 ((hi : Int) + 1 + (z : Int) + 1 + (u : Int))] rfl 83 (by omega) (by omega) 33
          have hb7 : Below w.heap.size w w6 := hB.trans hb6
          clear ho hB HO hb6
          go_wp2_with (at_builtin; refine wpList_append_hr rfl _ _ 33 rfl _ _ rfl rfl hr ?_)
          exact ⟨⟨rs ++ [((hi : Int) + 1 + (z : Int), (hi : Int) + 1 + (z : Int) + 1 + (u : Int))], hi + 1 + z + 1 + u, j + 2, by simp, by simp, by omega, ⟨by omega, by omega⟩, by simp; omega, by simpa using ho6, hb7⟩, by simp [RowKit.intOf]; omega⟩
      · have b2 : ¬ (rs.length : Int) < 1000 := by omega
        clear h
        go_wp2_with fail
        go_ret
        exact ⟨⟨_, _, _, rfl⟩, hB⟩
    · have b1 : ¬ (j : Int) + 1 < (n : Int) := by omega
      clear h
      go_wp2_with fail
      go_ret
      exact ⟨⟨_, _, _, rfl⟩, hB⟩
end Go.Proofs.YtkdhcokefnffaaaDoor
