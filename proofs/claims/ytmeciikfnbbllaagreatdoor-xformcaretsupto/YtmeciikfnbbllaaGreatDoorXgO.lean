import Derived.Test.YtmeciikfnbbllaaGreatDoorXbI
namespace Go.Proofs.YtmeciikfnbbllaaGreatDoor
open Go.RowKit Go.Lib
set_option maxRecDepth 100000
theorem num_any (e : Int) (w : World) : Calls Tryz.prog 11 #[.int .i64 e] w fun r w' => r = .returned (.int .i64 e) ∧ w' = w := by
  go_enter Tryz.func11, Tryz.ntmps11
  go_wp2_with fail
  go_ret
  exact ⟨rfl, rfl⟩
set_option maxHeartbeats 1000000 in
theorem ins_any (c n p : Int) (s : ByteArray) (w : World) : Calls Tryz.prog 10 #[.int .i64 c, .int .i64 n, .int .i64 p, .string s] w fun e w' => e = .returned (opVal ⟨c, n, 1, p, s, [], 0, 0, false⟩ (.slice none 0 0)) ∧ Below w.heap.size w w' := by
  go_enter Tryz.func10, Tryz.ntmps10
  go_wp2_with fail
  refine bodyPost_ret (v := opVal ⟨c, n, 1, p, s, [], 0, 0, false⟩ (.slice none 0 0)) (by simp [results, Tryz.results10, go_sem, opVal]) rfl ⟨rfl, (Below.refl _ _).alloc (Nat.le_refl _) _⟩
set_option maxHeartbeats 2000000 in
theorem copy_any {o : OpV} {w : World} {a : Option Addr} {m cap : Nat} (h : Sp.Rng w a m cap o.l) (hm : m ≤ 1000000000) :
    Calls Tryz.prog 26 #[opVal o (.slice a m cap)] w fun e w' => ∃ a' cap', e = .returned (opVal o (.slice a' m cap')) ∧ OwnF rangeV 2 94 w' w.heap.size (.slice a' m cap') o.l ∧ Below w.heap.size w w' := by
  have hln := h.len
  obtain ⟨c, n, k, p, s, l, tc, tn, on⟩ := o
  simp only [opVal] at *
  obtain ⟨W0, hW0⟩ : ∃ W0, (w.alloc (Obj.cells #[.int .i64 c, .int .i64 n, .int .i64 k, .int .i64 p, .string s, .slice a m cap, .int .i64 tc, .int .i64 tn, .bool on] 33)).alloc (Obj.cells #[.int .i64 0, .int .i64 0, .int .i64 0, .int .i64 0, .string ⟨#[]⟩, .slice none 0 0, .int .i64 0, .int .i64 0, .bool false] 33) = W0 := ⟨_, rfl⟩
  have hX : W0.heap[w.heap.size]? = some (Obj.cells #[.int .i64 c, .int .i64 n, .int .i64 k, .int .i64 p, .string s, .slice a m cap, .int .i64 tc, .int .i64 tn, .bool on] 33) := by rw [← hW0]; exact (Below.heap_alloc _ _ _ (by simp)).trans (alloc_last _ _ _ rfl)
  have hZ : W0.heap[w.heap.size + 1]? = some (Obj.cells #[.int .i64 0, .int .i64 0, .int .i64 0, .int .i64 0, .string ⟨#[]⟩, .slice none 0 0, .int .i64 0, .int .i64 0, .bool false] 33) := by rw [← hW0]; exact alloc_last _ _ _ (by simp)
  have hB0 : Below w.heap.size w W0 := by rw [← hW0]; exact ((Below.refl w.heap.size w).alloc (Nat.le_refl _) _).alloc (by simp) _
  obtain ⟨ak0, ak1, ak2, ak3, ak4, ak5, ak6, ak7, ak8⟩ := box9 hX
  obtain ⟨va, vc, w1, hr, ho, hcur, _⟩ := appendF_all kindG layG (ownF_nil (f := rangeV) (k := 2) (T := 94) W0 W0.heap.size) (Nat.le_refl _) (rw_of_rng (h.below hB0)) (by simp; omega) (by simp; omega) 31
  simp only [List.length_nil, List.nil_append, Nat.zero_add] at hr ho
  have hX1 := (hcur.block _ (Array.getElem?_eq_some_iff.1 hX).1).trans hX
  have hZ1 := (hcur.block _ (Array.getElem?_eq_some_iff.1 hZ).1).trans hZ
  have hB1 := hB0.trans (hcur.mono hB0.size)
  have hlt : w.heap.size + 1 < W0.heap.size := (Array.getElem?_eq_some_iff.1 hZ).1
  have HO : Hid (OwnF rangeV 2 94 w1 W0.heap.size (.slice va m vc) l) := ho
  clear ho h hcur hX hZ hB0
  obtain ⟨bk0, bk1, bk2, bk3, bk4, bk5, bk6, bk7, bk8⟩ := box9 hX1
  obtain ⟨bz0, bz1, bz2, bz3, bz4, bz5, bz6, bz7, bz8⟩ := wr9 hX1
  have hB2 := hB1.setCell (p := ⟨w.heap.size, 5, none⟩) (Nat.le_refl _) (.slice va m vc)
  have hZ2 : (w1.setCell ⟨w.heap.size, 5, none⟩ (.slice va m vc)).heap[w.heap.size + 1]? = some (Obj.cells #[.int .i64 0, .int .i64 0, .int .i64 0, .int .i64 0, .string ⟨#[]⟩, .slice none 0 0, .int .i64 0, .int .i64 0, .bool false] 33) := (Below.heap_setCell _ _ _ _ (by simp)).trans hZ1
  have HO2 : Hid (OwnF rangeV 2 94 (w1.setCell ⟨w.heap.size, 5, none⟩ (.slice va m vc)) W0.heap.size (.slice va m vc) l) := (But.set _ _ _ _).own HO.out (by omega)
  clear HO
  obtain ⟨W9, e9, hx9, hB9, hK9⟩ := store9 hZ2 hB2 (by omega) (.int .i64 c) (.int .i64 n) (.int .i64 k) (.int .i64 p) (.string s) (.slice va m vc) (.int .i64 tc) (.int .i64 tn) (.bool on)
  obtain ⟨d0, d1, d2, d3, d4, d5, d6, d7, d8⟩ := box9 hZ2
  obtain ⟨dz0, dz1, dz2, dz3, dz4, dz5, dz6, dz7, dz8⟩ := wr9 hZ2
  obtain ⟨d10, d11, d12, d13, d14, d15, d16, d17, d18⟩ := box9 hZ1
  obtain ⟨dy0, dy1, dy2, dy3, dy4, dy5, dy6, dy7, dy8⟩ := wr9 hZ1
  obtain ⟨r0, r1, r2, r3, r4, r5, r6, r7, r8⟩ := box9 hx9
  go_enter Tryz.func26, Tryz.ntmps26
  go_wp2_with (at_builtin; refine wpList_append_hr rfl _ _ 31 rfl _ _ rfl rfl hr ?_)
  try rw [e9]
  refine bodyPost_ret (v := .agg #[.int .i64 c, .int .i64 n, .int .i64 k, .int .i64 p, .string s, .slice va m vc, .int .i64 tc, .int .i64 tn, .bool on]) (by simp [results, Tryz.results26, go_sem, r0, r1, r2, r3, r4, r5, r6, r7, r8]) rfl ⟨va, vc, rfl, (hK9.own HO2.out (by omega)).mono (by omega), hB9⟩
end Go.Proofs.YtmeciikfnbbllaaGreatDoor
