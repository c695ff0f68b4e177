import Derived.Test.YtkdhcokefnffaaaDoorMaH
/-! appendMessage of a Hello. -/
namespace Go.Proofs.YtkdhcokefnffaaaDoor
open Go.RowKit Go.Lib Sp
set_option maxRecDepth 100000

theorem box13 {W : World} {b : Nat} {T : TypeId} {v0 v1 v2 v3 v4 v5 v6 v7 v8 v9 v10 v11 v12 : Value} (h : W.heap[b]? = some (.cells #[v0, v1, v2, v3, v4, v5, v6, v7, v8, v9, v10, v11, v12] T)) :
    W.cell? ⟨b, 0, none⟩ = some v0 ∧ W.cell? ⟨b, 1, none⟩ = some v1 ∧ W.cell? ⟨b, 2, none⟩ = some v2 ∧ W.cell? ⟨b, 3, none⟩ = some v3 ∧ W.cell? ⟨b, 4, none⟩ = some v4 ∧ W.cell? ⟨b, 5, none⟩ = some v5 ∧ W.cell? ⟨b, 6, none⟩ = some v6 ∧ W.cell? ⟨b, 7, none⟩ = some v7 ∧ W.cell? ⟨b, 8, none⟩ = some v8 ∧ W.cell? ⟨b, 9, none⟩ = some v9 ∧ W.cell? ⟨b, 10, none⟩ = some v10 ∧ W.cell? ⟨b, 11, none⟩ = some v11 ∧ W.cell? ⟨b, 12, none⟩ = some v12 := by
  simp only [Lib.cell_of_heap h]
  exact ⟨rfl, rfl, rfl, rfl, rfl, rfl, rfl, rfl, rfl, rfl, rfl, rfl, rfl⟩

set_option maxHeartbeats 4000000 in
theorem appendMessage_hello (w : World) (k r : Nat) (hk : k < 268435456) (hr : r < 268435456) (q : Int) (o : OpV) (sl : Value) :
    Calls Tryd.prog 16 #[.slice none 0 0, msgV 1 k r q o sl] w fun e w' => ∃ v', e = .returned v' ∧ OwnF byV 1 5 w' w.heap.size v' (encL [1, k, r]) ∧ Below w.heap.size w w' := by
  have hb1 := (Below.refl w.heap.size w).alloc (Nat.le_refl _) (.cells (msgA 1 k r q o sl) 37)
  have HA := appendNumbers_any (two_new (B := w.heap.size + 1) (w := w.alloc (.cells (msgA 1 k r q o sl) 37)) (ownF_nil _ _) (by simp) #[.int .i64 (1 : Nat), .int .i64 (k : Int)] [1, k] rfl (by simp)) (by simp) (by simp; exact hk) (by simp)
  have HR : Hid (k < 268435456 ∧ r < 268435456) := ⟨hk, hr⟩
  clear hb1 hk hr
  simp only [msgV, msgA, List.length_cons, List.length_nil, World.size_alloc] at *
  go_enter Tryd.func16, Tryd.ntmps16
  go_wp2_with fail
  refine HA.mono ?_
  rintro e w1 ⟨v1, rfl, ho, hg⟩
  clear HA
  have hq : w1.heap[w.heap.size]? = some (.cells #[.int .i64 1, .int .i64 k, .int .i64 r, .int .i64 q, .int .i64 o.c, .int .i64 o.n, .int .i64 o.k, .int .i64 o.p, .string o.s, sl, .int .i64 o.tc, .int .i64 o.tn, .bool o.on] 37) := by
    rw [hg.below.block _ (by omega), Below.heap_alloc _ _ _ (by simp)]
    exact heap_alloc_new _ _
  have hs1 : w.heap.size + 1 + 1 ≤ w1.heap.size := by have := hg.below.size; simpa using this
  have hb : Below w.heap.size w w1 := (((Below.refl w.heap.size w).alloc (Nat.le_refl _) _).alloc (by simp) _).trans (hg.below.mono (by omega))
  have HO : Hid (OwnF byV 1 5 w1 (w.heap.size + 1) v1 (encL [1, k]) ∧ Below w.heap.size w w1) := ⟨by simpa using ho, hb⟩
  clear ho hg hb
  obtain ⟨q0, q1, q2, q3, q4, q5, q6, q7, q8, q9, q10, q11, q12⟩ := box13 hq
  go_wp2_with fail
  refine (fieldsOf_1 _).mono ?_
  rintro e w2 ⟨g, rfl, hg2, hF, hb2⟩
  clear q0 q1 q2 q3 q4 q5 q6 q7 q8 q9 q10 q11 q12
  have hqq : w2.heap[w.heap.size]? = some (.cells #[.int .i64 1, .int .i64 k, .int .i64 r, .int .i64 q, .int .i64 o.c, .int .i64 o.n, .int .i64 o.k, .int .i64 o.p, .string o.s, sl, .int .i64 o.tc, .int .i64 o.tn, .bool o.on] 37) := (hb2.block _ (by omega)).trans hq
  have HO2 : Hid (OwnF byV 1 5 w2 (w.heap.size + 1) v1 (encL [1, k]) ∧ Below w.heap.size w w2 ∧ w.heap.size + 1 ≤ w2.heap.size) := ⟨HO.out.1.below hb2, HO.out.2.trans (hb2.mono (by omega)), by have := hb2.size; omega⟩
  clear HO hq hs1 hb2 hg2
  go_wp2_with fail
  go_loopw [0, 18] (fun v0 v18 W => (v18 = .int .i64 0 ∧ v0 = v1 ∧ W = w2) ∨ (v18 = .int .i64 1 ∧ OwnF byV 1 5 W (w.heap.size + 1) v0 (encL [1, k, r]) ∧ Below w.heap.size w W)) (fun _ v18 _ => 1 - (RowKit.intOf v18).toNat)
  case atStart => exact .inl ⟨rfl, rfl, rfl⟩
  case round =>
    rcases hrel with ⟨rfl, rfl, rfl⟩ | ⟨rfl, hO3, hb3⟩
    · obtain ⟨q0, q1, q2, q3, q4, q5, q6, q7, q8, q9, q10, q11, q12⟩ := box13 hqq
      obtain ⟨g', off', e', hg', hc'⟩ := hF.cells (by omega)
      cases e'
      have f0 := hc' 0 _ rfl 0 _ rfl
      have f1 := hc' 0 _ rfl 1 _ rfl
      simp only [Nat.zero_mul, Nat.zero_add, Nat.add_zero] at f0 f1
      have HW : Hid (∀ (b c : Value), Calls Tryd.prog 44 #[u0, msgV 1 k r q o sl] (wr.alloc (.cells #[b, c] 74)) fun e w' => ∃ v', e = .returned v' ∧ OwnF byV 1 5 w' (w.heap.size + 1) v' (encL [1, k] ++ encP r) ∧ GB (w.heap.size + 1) (wr.alloc (.cells #[b, c] 74)) u0 w' v') := fun b c =>
        appendRev_any (HO2.out.1.below ((Below.refl _ _).alloc (Nat.le_refl _) _)) (by have := HO2.out.2.2; simp; omega) (by have := encL_len [1, k]; simp at this ⊢; omega) 1 k q r HR.out.2 o sl
      simp only [msgV, msgA] at HW
      have hlq : w.heap.size < wr.heap.size := by have := HO2.out.2.2; omega
      clear hF hc' hqq
      go_wp2_with fail
      refine (HW.out _ _).mono ?_
      rintro e w4 ⟨v4, rfl, ho4, hg4⟩
      have hB4 : Hid (OwnF byV 1 5 w4 (w.heap.size + 1) v4 (encL [1, k, r]) ∧ Below w.heap.size w w4) := by
        obtain ⟨_, hb, hs⟩ := HO2.out
        exact ⟨by simpa [encL] using ho4, (hb.alloc hb.size _).trans (hg4.below.mono (by omega))⟩
      clear HW ho4 hg4 q0 q1 q2 q3 q4 q5 q6 q7 q8 q9 q10 q11 q12 f0 f1
      go_wp2_with fail
      exact ⟨.inr ⟨rfl, hB4.out⟩, by simp [RowKit.intOf]⟩
    · go_wp2_with fail
      go_ret
      exact ⟨_, rfl, hO3.mono (by omega), hb3⟩
end Go.Proofs.YtkdhcokefnffaaaDoor
