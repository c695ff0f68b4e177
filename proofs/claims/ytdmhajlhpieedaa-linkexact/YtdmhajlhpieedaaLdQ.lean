import Derived.Test.YtdmhajlhpieedaaLdP
/-! plays: a Send; marked. -/
namespace Go.Proofs.Ytdmhajlhpieedaa
open Go.RowKit Go.Lib Go.Shelf
set_option maxRecDepth 100000

set_option maxHeartbeats 4000000 in
theorem plays_send {K J : Nat → Prop} {W : World} {q r : Nat} {S : Lk} (h : Duo K J W q r S) (sp : Sp) (bv : Value) {ps : List Pk} (hi : SndIn K J W sp.pa sp.pn sp.pc ps S) (hk : sp.kind = 1) : Calls Try.prog 21 #[.pointer (some ⟨q, 0, none⟩), .pointer (some ⟨r, 0, none⟩), sp.val, bv] W fun e w' => e = .returned (.bool true) ∧ DuoP K J W q r (sendR S ps) w' := by
  obtain ⟨W1, hW1⟩ : ∃ W1, W.alloc (spBox sp) = W1 := ⟨_, rfl⟩
  have hB1 : Below W.heap.size W W1 := by rw [← hW1]; exact (Below.refl _ _).alloc (Nat.le_refl _) _
  have hx1 : W1.heap[W.heap.size]? = some (spBox sp) := by rw [← hW1]; exact heap_alloc_new W _
  have HS := sends_any (h.below hB1) sp (hi.below hB1)
  have HF : Hid (∀ w', DuoP K J W1 q r (sendR S ps) w' → DuoP K J W q r (sendR S ps) w') := fun w' hp => DuoP.from hB1 hp
  obtain ⟨r0, r1, r2, r3, r4, r5⟩ := box6 hx1
  unfold Sp.val at HS ⊢
  unfold spBox at hW1
  rw [hk] at hW1 HS r0 ⊢
  obtain ⟨mk, hmk⟩ : ∃ mk : Int, (sp.mask.toNat : Int) = mk := ⟨_, rfl⟩
  rw [hmk] at hW1 HS r4 ⊢
  clear h hi hB1 hx1 hk hmk
  go_enter Try.func21, Try.ntmps21
  go_wp2_with fail
  refine HS.mono ?_
  rintro e w2 ⟨rfl, hp⟩
  have HG : Hid (DuoP K J W q r (sendR S ps) w2) := HF.out w2 hp
  clear hp HF HS
  go_wp2_with fail
  go_ret
  exact ⟨rfl, HG.out⟩
set_option maxHeartbeats 2000000 in
theorem marked_any {W : World} {k : Nat} (hk : k ≤ 4611686018427387904) : Calls Try.prog 55 #[.int .i64 (k : Int)] W fun e w' => e = .returned (.agg #[.int .i64 (-1 - (k : Int)), .int .i64 0, .int .i64 0, .slice none 0 0, .bool false]) ∧ Below W.heap.size W w' := by
  have e1 : IntKind.i64.wrap (-1 - (k : Int)) = -1 - (k : Int) := IntWalk.i64_in _ (by omega)
  obtain ⟨W0, hW0⟩ : ∃ W0, W.alloc (.cells #[.int .i64 0, .int .i64 0, .int .i64 0, .slice none 0 0, .bool false] 73) = W0 := ⟨_, rfl⟩
  have hB0 : Below W.heap.size W W0 := by rw [← hW0]; exact (Below.refl _ _).alloc (Nat.le_refl _) _
  have hx0 : W0.heap[W.heap.size]? = some (.cells #[.int .i64 0, .int .i64 0, .int .i64 0, .slice none 0 0, .bool false] 73) := by rw [← hW0]; exact heap_alloc_new W _
  obtain ⟨mk, hmk⟩ : ∃ mk : Int, -1 - (k : Int) = mk := ⟨_, rfl⟩
  rw [hmk] at e1 ⊢
  obtain ⟨⟨r0, r1, r2, r3, r4⟩, z0, z1, z2, z3, z4⟩ := five_cells hx0
  have hx1 := heap_setCell_cells hx0 0 (.int .i64 mk)
  obtain ⟨W1, hW1⟩ : ∃ W1, W0.setCell ⟨W.heap.size, 0, none⟩ (.int .i64 mk) = W1 := ⟨_, rfl⟩
  rw [hW1] at hx1
  have hx1' : W1.heap[W.heap.size]? = some (.cells #[.int .i64 mk, .int .i64 0, .int .i64 0, .slice none 0 0, .bool false] 73) := hx1
  have hC1 : Chg (fun g => g = W.heap.size) W0 W1 := by rw [← hW1]; exact Chg.set (D := fun g => g = W.heap.size) (q := W.heap.size) 0 _ _ rfl
  obtain ⟨⟨s0, s1, s2, s3, s4⟩, y0, y1, y2, y3, y4⟩ := five_cells hx1'
  have e5 := setCell_self s1
  have e6 := setCell_self s2
  have e7 := setCell_self s3
  have e8 := setCell_self s4
  have HB : Hid (Below W.heap.size W W1) := hB0.trans (hC1.below (fun g e => by omega) hB0.size)
  clear hB0 hx0 hx1 hx1' hC1 hk
  go_enter Try.func55, Try.ntmps55
  go_wp2_with fail
  refine bodyPost_ret (v := .agg #[.int .i64 mk, .int .i64 0, .int .i64 0, .slice none 0 0, .bool false]) (by simp [results, Try.results55, go_sem, s0, s1, s2, s3, s4]) rfl ?_
  exact ⟨rfl, HB.out⟩
end Go.Proofs.Ytdmhajlhpieedaa
