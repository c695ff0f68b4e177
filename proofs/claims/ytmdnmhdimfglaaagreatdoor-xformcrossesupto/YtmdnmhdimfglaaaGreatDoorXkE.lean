import Derived.Test.YtmdnmhdimfglaaaGreatDoorGaI
namespace Go.Proofs.YtmdnmhdimfglaaaGreatDoor
open Go.RowKit Go.Lib
set_option maxRecDepth 100000
set_option maxHeartbeats 8000000 in
theorem plays_runs {x : XOp} {w : World} (hk : x.k = 4 ∨ x.k = 5 ∨ x.k = 6)
    (HR : ∀ W, Below w.heap.size w W → Calls Tryz.prog 30 #[.agg (xopF x).toArray] W fun e w' => e = .returned (.bool true) ∧ Below W.heap.size W w') :
    Calls Tryz.prog 14 #[.agg (xopF x).toArray] w fun e w' => e = .returned (.bool true) ∧ Below w.heap.size w w' := by
  obtain ⟨v1, v2, v3, v4, v5, v6, v7, v8, v9, v10, v11, v12, v13, v14, v15, v16, v17, v18, v19, v20, v21, v22, v23, hv⟩ := xopF_eq x
  generalize x.k = K at *
  have h1c : (Array.all ((xopF x).toArray) (fun v => v.oneCell')) = true := all_oneCell_toArray (layXo.one x)
  rw [hv] at HR h1c ⊢
  have HRR : Hid (∀ W, Below w.heap.size w W → Calls Tryz.prog 30 #[.agg #[.int .i64 K, v1, v2, v3, v4, v5, v6, v7, v8, v9, v10, v11, v12, v13, v14, v15, v16, v17, v18, v19, v20, v21, v22, v23]] W fun e w' => e = .returned (.bool true) ∧ Below W.heap.size W w') := HR
  have H1C : Hid ((Array.all (#[.int .i64 K, v1, v2, v3, v4, v5, v6, v7, v8, v9, v10, v11, v12, v13, v14, v15, v16, v17, v18, v19, v20, v21, v22, v23]) (fun v => v.oneCell')) = true) := h1c
  clear HR h1c hv
  obtain ⟨X1, hX1⟩ : ∃ V, w.alloc (Obj.cells #[.int .i64 K, v1, v2, v3, v4, v5, v6, v7, v8, v9, v10, v11, v12, v13, v14, v15, v16, v17, v18, v19, v20, v21, v22, v23] 46) = V := ⟨_, rfl⟩
  have hB1 : Below w.heap.size w X1 := hX1 ▸ (Below.refl w.heap.size w).alloc (Nat.le_refl _) _
  have hb1 : X1.heap[w.heap.size]? = some (.cells #[.int .i64 K, v1, v2, v3, v4, v5, v6, v7, v8, v9, v10, v11, v12, v13, v14, v15, v16, v17, v18, v19, v20, v21, v22, v23] 46) := hX1 ▸ heap_alloc_new _ _
  have HBX : Hid (X1.rangeAt w.heap.size 0 [.int .i64 K, v1, v2, v3, v4, v5, v6, v7, v8, v9, v10, v11, v12, v13, v14, v15, v16, v17, v18, v19, v20, v21, v22, v23]) := range_blockX hb1
  have x0 : X1.cell? ⟨w.heap.size, 0, none⟩ = some (.int .i64 K) := by rw [Lib.cell_of_heap hb1]; rfl
  clear hb1
  go_enter Tryz.func14, Tryz.ntmps14
  rcases hk with rfl | rfl | rfl
  all_goals
    go_wp2_with (first | refine wpList_load_mid rfl 46 _ rfl w.heap.size 0 rfl _ _ HBX.out Tryz.underlying46 rfl (by kernel_rfl) ?_ | fail)
    refine (HRR.out _ hB1).mono ?_
    rintro e w2 ⟨rfl, hb2⟩
    have hB2 := hB1.trans (hb2.mono hB1.size)
    clear hb2 HBX HRR x0 hB1 H1C
    go_wp2_with fail
    go_ret
    exact ⟨rfl, hB2⟩
end Go.Proofs.YtmdnmhdimfglaaaGreatDoor
