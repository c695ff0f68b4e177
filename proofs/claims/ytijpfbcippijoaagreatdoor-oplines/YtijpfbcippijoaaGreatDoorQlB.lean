import Derived.Test.YtijpfbcippijoaaGreatDoorQlL
import Derived.Test.YtijpfbcippijoaaGreatDoorOgAB
import Derived.Test.YtijpfbcippijoaaGreatDoorQbBR
namespace Go.Proofs.YtijpfbcippijoaaGreatDoor
open Go.RowKit Go.Lib
set_option maxRecDepth 100000
theorem idB_no : idB 0 0 = [45] := by unfold idB; rw [if_pos ⟨rfl, rfl⟩]
theorem idB_yes {c n : Nat} (h : ¬ ((c : Int) = 0 ∧ (n : Int) = 0)) : idB (c : Int) (n : Int) = Lib.decDigits c ++ [46] ++ Lib.decDigits n := by
  unfold idB
  rw [if_neg h, Lib.itoa_nonneg, Lib.itoa_nonneg]
theorem dec_le (u : Nat) (h : u ≤ 9223372036854775807) : (Lib.decDigits u).length ≤ 21 := by
  have := Lib.itoa_length_le (u : Int) (by omega) (by omega)
  rwa [Lib.itoa_nonneg] at this
theorem box2k {W : World} {b : Nat} {T : TypeId} {v0 v1 : Value} (h : W.heap[b]? = some (.cells #[v0, v1] T)) : W.cell? ⟨b, 0, none⟩ = some v0 ∧ W.cell? ⟨b, 1, none⟩ = some v1 := by
  simp only [Lib.cell_of_heap h]
  exact ⟨rfl, rfl⟩
set_option maxHeartbeats 4000000 in
theorem gName_any (c n : Nat) (hc : c ≤ 9223372036854775807) (hn : n ≤ 9223372036854775807) (w : World) : Calls Tryz.prog 78 #[.agg #[.int .i64 (c : Int), .int .i64 (n : Int)]] w fun e w' => e = .returned (.string (bs (idB (c : Int) (n : Int)))) ∧ Below w.heap.size w w' := by
  obtain ⟨W1, hW1⟩ : ∃ W1, w.alloc (Obj.cells #[.int .i64 (c : Int), .int .i64 (n : Int)] 38) = W1 := ⟨_, rfl⟩
  have hX : Below w.heap.size w W1 := hW1 ▸ (Below.refl w.heap.size w).alloc (Nat.le_refl _) _
  have hx1 : W1.heap[w.heap.size]? = some (Obj.cells #[.int .i64 (c : Int), .int .i64 (n : Int)] 38) := hW1 ▸ alloc_last _ _ _ rfl
  obtain ⟨y0, y1⟩ := box2k hx1
  have HN := gNone_any (c : Int) (n : Int) W1
  go_enter Tryz.func78, Tryz.ntmps78
  go_wp2_with fail
  refine HN.mono ?_
  rintro e w2 ⟨rfl, hb2⟩
  have hB2 : Below w.heap.size w w2 := hX.trans (hb2.mono hX.size)
  have hx2 := (hb2.block _ (Array.getElem?_eq_some_iff.1 hx1).1).trans hx1
  by_cases h0 : (c : Int) = 0 ∧ (n : Int) = 0
  · rw [decide_eq_true h0]
    obtain ⟨rfl, rfl⟩ : c = 0 ∧ n = 0 := by omega
    clear y0 y1 hx1 hx2 HN hX hW1 hb2 h0
    go_wp2_with fail
    go_ret
    exact ⟨by rw [show ((0 : Nat) : Int) = 0 from rfl, idB_no]; rfl, hB2⟩
  · rw [decide_eq_false h0]
    have hid := idB_yes h0
    have hd1 : Hid (Calls Tryz.prog 79 #[.int .i64 (c : Int)] w2.drew fun e w' => e = .returned (.string (bs (Lib.decDigits c))) ∧ w' = w2.drew) := gDigits_any c hc _
    have hd2 : Hid (Calls Tryz.prog 79 #[.int .i64 (n : Int)] w2.drew fun e w' => e = .returned (.string (bs (Lib.decDigits n))) ∧ w' = w2.drew) := gDigits_any n hn _
    have l1 := dec_le c hc
    have l2 := dec_le n hn
    have k0 : w2.drew.cell? ⟨w.heap.size, 0, none⟩ = some (.int .i64 (c : Int)) ∧ w2.drew.cell? ⟨w.heap.size, 1, none⟩ = some (.int .i64 (n : Int)) := box2k (W := w2.drew) hx2
    have e1 : bs (Lib.decDigits c) ++ ⟨#[46]⟩ = bs (Lib.decDigits c ++ [46]) := bs_append _ [46]
    have e2 : bs (Lib.decDigits c ++ [46]) ++ bs (Lib.decDigits n) = bs (idB (c : Int) (n : Int)) := by rw [bs_append, hid]
    have n1 : ¬ ((bs (Lib.decDigits c)).size + (⟨#[46]⟩ : ByteArray).size > 9223372036854775807) := by rw [bs_size]; show ¬ ((Lib.decDigits c).length + 1 > _); omega
    have n2 : ¬ ((bs (Lib.decDigits c ++ [46])).size + (bs (Lib.decDigits n)).size > 9223372036854775807) := by rw [bs_size, bs_size, List.length_append]; simp only [List.length_singleton]; omega
    obtain ⟨s1, hs1⟩ : ∃ s, bs (Lib.decDigits c) = s := ⟨_, rfl⟩
    obtain ⟨s2, hs2⟩ : ∃ s, bs (Lib.decDigits n) = s := ⟨_, rfl⟩
    obtain ⟨s3, hs3⟩ : ∃ s, bs (Lib.decDigits c ++ [46]) = s := ⟨_, rfl⟩
    obtain ⟨s4, hs4⟩ : ∃ s, bs (idB (c : Int) (n : Int)) = s := ⟨_, rfl⟩
    rw [hs1] at hd1 e1 n1
    rw [hs2] at hd2 e2 n2
    rw [hs3] at e1 e2 n2
    rw [hs4] at e2
    have HS4 : Hid (bs (idB (c : Int) (n : Int)) = s4) := hs4
    have n3 : ¬ (9223372036854775807 < s1.size + (⟨#[46]⟩ : ByteArray).size) := n1
    have n4 : ¬ (9223372036854775807 < s3.size + s2.size) := n2
    have n5 : ¬ (9223372036854775807 < s1.size + 1) := n1
    have HD1 : Hid (Calls Tryz.prog 79 #[.int .i64 (c : Int)] w2.drew fun e w' => e = .returned (.string s1) ∧ w' = w2.drew) := hd1
    have HD2 : Hid (Calls Tryz.prog 79 #[.int .i64 (n : Int)] w2.drew fun e w' => e = .returned (.string s2) ∧ w' = w2.drew) := hd2
    have HB : Hid (Below w.heap.size w w2.drew) := hB2.drew
    clear y0 y1 hx1 hx2 HN hX hW1 hb2 h0 hid l1 l2 hs1 hs2 hs3 hs4 hd1 hd2 hB2
    go_wp2_with fail
    refine wp_region_E (S := (fun w' => w'.cell? ⟨w.heap.size, 0, none⟩ = some (.int .i64 (c : Int)) ∧ w'.cell? ⟨w.heap.size, 1, none⟩ = some (.int .i64 (n : Int)))) (E := []) (by kernel_rfl) ?_
    refine takeE (i := 0) (d := some 7) (v := ?vT36) rfl rfl (by kernel_rfl) (by kernel_rfl) (by kernel_rfl) (by kernel_rfl) (fun _ _ _ h => h) (Or.inl ⟨by rfl, ?hyT36⟩) k0 ?rstT36
    case hyT36 => (intro w hSw; (try dsimp only at hSw); obtain ⟨z0, z1⟩ := hSw; go_simp; (try with_reducible rfl))
    try simp only [Act.put, List.setIfInBounds_toArray, List.set_cons_zero, List.set_cons_succ]
    refine takeE (i := 1) (d := some 8) (v := ?vT37) rfl rfl (by kernel_rfl) (by kernel_rfl) (by kernel_rfl) (by kernel_rfl) (fun _ _ _ h => h) (Or.inl ⟨by rfl, ?hyT37⟩) k0 ?rstT37
    case hyT37 => (intro w hSw; (try dsimp only at hSw); obtain ⟨z0, z1⟩ := hSw; go_simp; (try with_reducible rfl))
    try simp only [Act.put, List.setIfInBounds_toArray, List.set_cons_zero, List.set_cons_succ]
    refine takeE (i := 4) (d := some 11) (v := ?vT38) rfl rfl (by kernel_rfl) (by kernel_rfl) (by kernel_rfl) (by kernel_rfl) (fun _ _ _ h => h) (Or.inl ⟨by rfl, ?hyT38⟩) k0 ?rstT38
    case hyT38 => (intro w hSw; (try dsimp only at hSw); obtain ⟨z0, z1⟩ := hSw; go_simp; (try with_reducible rfl))
    try simp only [Act.put, List.setIfInBounds_toArray, List.set_cons_zero, List.set_cons_succ]
    refine takeE (i := 5) (d := some 12) (v := ?vT39) rfl rfl (by kernel_rfl) (by kernel_rfl) (by kernel_rfl) (by kernel_rfl) (fun _ _ _ h => h) (Or.inl ⟨by rfl, ?hyT39⟩) k0 ?rstT39
    case hyT39 => (intro w hSw; (try dsimp only at hSw); obtain ⟨z0, z1⟩ := hSw; go_simp; (try with_reducible rfl))
    try simp only [Act.put, List.setIfInBounds_toArray, List.set_cons_zero, List.set_cons_succ]
    refine oneE (i := 2) (by kernel_rfl) rfl (fun K hK => ?_)
    go_simp
    refine HD1.out.mono ?_
    rintro e w3 ⟨rfl, hw⟩
    obtain rfl := hw.symm
    clear hw
    dsimp only
    refine hK.out _ _ ?hS40 ?rest40
    case hS40 => exact fun _ => k0
    clear hK K
    try simp only [Act.put, List.setIfInBounds_toArray, List.set_cons_zero, List.set_cons_succ]
    refine takeE (i := 3) (d := some 10) (v := ?vT41) rfl rfl (by kernel_rfl) (by kernel_rfl) (by kernel_rfl) (by kernel_rfl) (fun _ _ _ h => h) (Or.inl ⟨by rfl, ?hyT41⟩) k0 ?rstT41
    case hyT41 => (intro w hSw; (try dsimp only at hSw); skip; go_simp; (try with_reducible rfl))
    try simp only [Act.put, List.setIfInBounds_toArray, List.set_cons_zero, List.set_cons_succ]
    refine oneE (i := 6) (by kernel_rfl) rfl (fun K hK => ?_)
    go_simp
    refine HD2.out.mono ?_
    rintro e w3 ⟨rfl, hw⟩
    obtain rfl := hw.symm
    clear hw
    dsimp only
    refine hK.out _ _ ?hS42 ?rest42
    case hS42 => exact fun _ => k0
    clear hK K
    try simp only [Act.put, List.setIfInBounds_toArray, List.set_cons_zero, List.set_cons_succ]
    refine takeE (i := 7) (d := some 14) (v := ?vT43) rfl rfl (by kernel_rfl) (by kernel_rfl) (by kernel_rfl) (by kernel_rfl) (fun _ _ _ h => h) (Or.inl ⟨by rfl, ?hyT43⟩) k0 ?rstT43
    case hyT43 => (intro w hSw; (try dsimp only at hSw); skip; go_simp; (try with_reducible rfl))
    try simp only [Act.put, List.setIfInBounds_toArray, List.set_cons_zero, List.set_cons_succ]
    refine oneE (i := 8) (by kernel_rfl) rfl (fun K hK => ?_)
    go_simp
    refine hK.out _ _ ?hS44 ?rest44
    case hS44 => exact fun _ => k0
    clear hK K
    try simp only [Act.put, List.setIfInBounds_toArray, List.set_cons_zero, List.set_cons_succ]
    refine doneE (by kernel_rfl) ?_ _
    go_wp2_with fail
    go_ret
    exact ⟨by rw [HS4.out]; rfl, HB.out⟩
end Go.Proofs.YtijpfbcippijoaaGreatDoor
