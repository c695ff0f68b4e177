import Derived.Test.YthkfcocakhekaaaDoorXcA
namespace Go.Proofs.YthkfcocakhekaaaDoor
open Go.RowKit Go.Lib
set_option maxRecDepth 100000
section
variable {α : Type} {f : α → List Value} {k : Nat} {S T : TypeId} {by_ : Nat}
theorem cut_high (hK : Kind Tryd.prog S T k by_) (he : Tryd.prog.elem S = T) (W : World) (a : Option Addr) (n cap m : Nat) (hm : m ≤ cap) : (Instr.slice S (.slice a n cap) none (some (.int .i64 (m : Int))) none).run Tryd.prog W = .ok (.slice a m cap) W := by
  obtain ⟨i, z, hi, hz, hsz, hby, _⟩ := hK.info
  have := run_slice_h (P := Tryd.prog) W S a n cap (by rw [he]; exact hK.under) .i64 (m : Int) (by omega) (by omega)
  rw [this, he]
  simp [sizeOf, typeInfo, hi, hsz, sliced, Addr.add]
theorem cut_low (hK : Kind Tryd.prog S T k by_) (he : Tryd.prog.elem S = T) (W : World) (g off n cap m : Nat) (hm : m ≤ n) (hc : m < cap) : (Instr.slice S (.slice (some ⟨g, off, none⟩) n cap) (some (.int .i64 (m : Int))) none none).run Tryd.prog W = .ok (.slice (some ⟨g, off + m * k, none⟩) (n - m) (cap - m)) W := by
  obtain ⟨i, z, hi, hz, hsz, hby, _⟩ := hK.info
  have := run_slice_l (P := Tryd.prog) W S (some ⟨g, off, none⟩) n cap (by rw [he]; exact hK.under) .i64 (m : Int) (by omega) (by omega)
  rw [this, he]
  simp [sizeOf, typeInfo, hi, hsz, sliced, addr_add']
  omega
theorem cut_tail (hK : Kind Tryd.prog S T k by_) (he : Tryd.prog.elem S = T) {W0 : World} {a : Option Addr} {n cap : Nat} {l : List α} (h : Rw f k W0 a n cap l) (m : Nat) (hm : m ≤ n) :
    ∃ a' cap', (∀ W : World, (Instr.slice S (.slice a n cap) (some (.int .i64 (m : Int))) none none).run Tryd.prog W = .ok (.slice a' (n - m) cap') W) ∧ ∀ W, Rw f k W a n cap l → Rw f k W a' (n - m) cap' (l.drop m) := by
  have hl := h.len
  have hro := h.room
  by_cases e : n - m = 0
  · obtain ⟨i, z, hi, hz, hsz, hby, _⟩ := hK.info
    refine ⟨if cap = m then a else a.map (·.add (m * i.size)), cap - m, fun W => ?_, fun W _ => ⟨by rw [List.length_drop]; omega, ⟨by omega, by omega⟩, fun h0 => by omega⟩⟩
    have := run_slice_l (P := Tryd.prog) W S a n cap (by rw [he]; exact hK.under) .i64 (m : Int) (by omega) (by omega)
    rw [this, he]
    simp [sizeOf, typeInfo, hi, sliced]
  · obtain ⟨g, off, rfl, _⟩ := h.cells (by omega)
    exact ⟨_, _, fun W => cut_low hK he W g off n cap m hm (by omega), fun W hW => hW.drop m hm⟩
end

/-- A cell of a row of the sentences: the id of its insert, its number there, its counter. -/
abbrev CellW := (Int × Int) × Int × Int
def cellW (x : CellW) : List Value := [.int .i64 x.1.1, .int .i64 x.1.2, .int .i64 x.2.1, .int .i64 x.2.2]
theorem layW : Lay cellW 4 := ⟨fun _ => rfl, by decide, fun x u hu => by simp [cellW] at hu; rcases hu with rfl | rfl | rfl | rfl <;> rfl⟩
theorem kindW : Kind Tryd.prog 27 48 4 32 := kind_of Tryd.underlying27 (z := .agg #[.int .i64 0, .int .i64 0, .int .i64 0, .int .i64 0]) (by kernel_rfl) rfl
theorem elemW : Tryd.prog.elem 27 = 48 := by kernel_rfl

set_option maxHeartbeats 1000000 in
theorem ins_any (c n p : Int) (s : ByteArray) (w : World) : Calls Tryd.prog 16 #[.int .i64 c, .int .i64 n, .int .i64 p, .string s] w fun e w' => e = .returned (opVal ⟨c, n, 1, p, s, [], 0, 0, false⟩ (.slice none 0 0)) ∧ Below w.heap.size w w' := by
  go_enter Tryd.func16, Tryd.ntmps16
  go_wp2_with fail
  refine bodyPost_ret (v := opVal ⟨c, n, 1, p, s, [], 0, 0, false⟩ (.slice none 0 0)) (by simp [results, Tryd.results16, go_sem, opVal]) rfl ⟨rfl, (Below.refl _ _).alloc (Nat.le_refl _) _⟩

set_option maxHeartbeats 2000000 in
theorem copy_any {o : OpV} {w : World} {a : Option Addr} {m cap : Nat} (h : Sp.Rng w a m cap o.l) (hm : m ≤ 1000000000) :
    Calls Tryd.prog 13 #[opVal o (.slice a m cap)] w fun e w' => ∃ a' cap', e = .returned (opVal o (.slice a' m cap')) ∧ OwnF rangeV 2 87 w' w.heap.size (.slice a' m cap') o.l ∧ Below w.heap.size w w' := by
  have hln := h.len
  obtain ⟨c, n, k, p, s, l, tc, tn, on⟩ := o
  simp only [opVal] at *
  obtain ⟨W0, hW0⟩ : ∃ W0, (w.alloc (Obj.cells #[.int .i64 c, .int .i64 n, .int .i64 k, .int .i64 p, .string s, .slice a m cap, .int .i64 tc, .int .i64 tn, .bool on] 41)).alloc (Obj.cells #[.int .i64 0, .int .i64 0, .int .i64 0, .int .i64 0, .string ⟨#[]⟩, .slice none 0 0, .int .i64 0, .int .i64 0, .bool false] 41) = W0 := ⟨_, rfl⟩
  have hX : W0.heap[w.heap.size]? = some (Obj.cells #[.int .i64 c, .int .i64 n, .int .i64 k, .int .i64 p, .string s, .slice a m cap, .int .i64 tc, .int .i64 tn, .bool on] 41) := by rw [← hW0]; exact (Below.heap_alloc _ _ _ (by simp)).trans (alloc_last _ _ _ rfl)
  have hZ : W0.heap[w.heap.size + 1]? = some (Obj.cells #[.int .i64 0, .int .i64 0, .int .i64 0, .int .i64 0, .string ⟨#[]⟩, .slice none 0 0, .int .i64 0, .int .i64 0, .bool false] 41) := by rw [← hW0]; exact alloc_last _ _ _ (by simp)
  have hB0 : Below w.heap.size w W0 := by rw [← hW0]; exact ((Below.refl w.heap.size w).alloc (Nat.le_refl _) _).alloc (by simp) _
  obtain ⟨ak0, ak1, ak2, ak3, ak4, ak5, ak6, ak7, ak8⟩ := box9 hX
  obtain ⟨va, vc, w1, hr, ho, hcur, _⟩ := appendF_all kindG layG (ownF_nil (f := rangeV) (k := 2) (T := 87) W0 W0.heap.size) (Nat.le_refl _) (rw_of_rng (h.below hB0)) (by simp; omega) (by simp; omega) 39
  simp only [List.length_nil, List.nil_append, Nat.zero_add] at hr ho
  have hX1 := (hcur.block _ (Array.getElem?_eq_some_iff.1 hX).1).trans hX
  have hZ1 := (hcur.block _ (Array.getElem?_eq_some_iff.1 hZ).1).trans hZ
  have hB1 := hB0.trans (hcur.mono hB0.size)
  have hlt : w.heap.size + 1 < W0.heap.size := (Array.getElem?_eq_some_iff.1 hZ).1
  have HO : Hid (OwnF rangeV 2 87 w1 W0.heap.size (.slice va m vc) l) := ho
  clear ho h hcur hX hZ hB0
  obtain ⟨bk0, bk1, bk2, bk3, bk4, bk5, bk6, bk7, bk8⟩ := box9 hX1
  obtain ⟨bz0, bz1, bz2, bz3, bz4, bz5, bz6, bz7, bz8⟩ := wr9 hX1
  have hB2 := hB1.setCell (p := ⟨w.heap.size, 5, none⟩) (Nat.le_refl _) (.slice va m vc)
  have hZ2 : (w1.setCell ⟨w.heap.size, 5, none⟩ (.slice va m vc)).heap[w.heap.size + 1]? = some (Obj.cells #[.int .i64 0, .int .i64 0, .int .i64 0, .int .i64 0, .string ⟨#[]⟩, .slice none 0 0, .int .i64 0, .int .i64 0, .bool false] 41) := (Below.heap_setCell _ _ _ _ (by simp)).trans hZ1
  have HO2 : Hid (OwnF rangeV 2 87 (w1.setCell ⟨w.heap.size, 5, none⟩ (.slice va m vc)) W0.heap.size (.slice va m vc) l) := (But.set _ _ _ _).own HO.out (by omega)
  clear HO
  obtain ⟨W9, e9, hx9, hB9, hK9⟩ := store9 hZ2 hB2 (by omega) (.int .i64 c) (.int .i64 n) (.int .i64 k) (.int .i64 p) (.string s) (.slice va m vc) (.int .i64 tc) (.int .i64 tn) (.bool on)
  obtain ⟨d0, d1, d2, d3, d4, d5, d6, d7, d8⟩ := box9 hZ2
  obtain ⟨dz0, dz1, dz2, dz3, dz4, dz5, dz6, dz7, dz8⟩ := wr9 hZ2
  obtain ⟨d10, d11, d12, d13, d14, d15, d16, d17, d18⟩ := box9 hZ1
  obtain ⟨dy0, dy1, dy2, dy3, dy4, dy5, dy6, dy7, dy8⟩ := wr9 hZ1
  obtain ⟨r0, r1, r2, r3, r4, r5, r6, r7, r8⟩ := box9 hx9
  go_enter Tryd.func13, Tryd.ntmps13
  go_wp2_with (at_builtin; refine wpList_append_hr rfl _ _ 39 rfl _ _ rfl rfl hr ?_)
  try rw [e9]
  refine bodyPost_ret (v := .agg #[.int .i64 c, .int .i64 n, .int .i64 k, .int .i64 p, .string s, .slice va m vc, .int .i64 tc, .int .i64 tn, .bool on]) (by simp [results, Tryd.results13, go_sem, r0, r1, r2, r3, r4, r5, r6, r7, r8]) rfl ⟨va, vc, rfl, (hK9.own HO2.out (by omega)).mono (by omega), hB9⟩
end Go.Proofs.YthkfcocakhekaaaDoor
