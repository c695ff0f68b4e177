import Derived.Test.YtlebbffpbbjakaaDoorXcA
import Derived.BigQuiet
namespace Go.Proofs.YtlebbffpbbjakaaDoor
open Go.RowKit Go.Lib
set_option maxRecDepth 100000
section
variable {α : Type} {f : α → List Value} {k : Nat} {S T : TypeId} {by_ : Nat}
theorem cut_high (hK : Kind Tryd.prog S T k by_) (he : Tryd.prog.elem S = T) (W : World) (a : Option Addr) (n cap m : Nat) (hm : m ≤ cap) : (Instr.slice S (.slice a n cap) none (some (.int .i64 (m : Int))) none).run Tryd.prog W = .ok (.slice a m cap) W := by
  obtain ⟨i, z, hi, hz, hsz, hby, _⟩ := hK.info
  have := run_slice_h (P := Tryd.prog) W S a n cap (by rw [he]; exact hK.under) .i64 (m : Int) (by omega) (by omega)
  rw [this, he]
  simp [sizeOf, typeInfo, hi, hsz, sliced, Addr.add]
theorem cut_low (hK : Kind Tryd.prog S T k by_) (he : Tryd.prog.elem S = T) (W : World) (g off n cap m : Nat) (hm : m ≤ n) (hc : m < cap) : (Instr.slice S (.slice (some ⟨g, off, none⟩) n cap) (some (.int .i64 (m : Int))) none none).run Tryd.prog W = .ok (.slice (some ⟨g, off + m * k, none⟩) (n - m) (cap - m)) W := by
  obtain ⟨i, z, hi, hz, hsz, hby, _⟩ := hK.info
  have := run_slice_l (P := Tryd.prog) W S (some ⟨g, off, none⟩) n cap (by rw [he]; exact hK.under) .i64 (m : Int) (by omega) (by omega)
  rw [this, he]
  simp [sizeOf, typeInfo, hi, hsz, sliced, addr_add']
  omega
theorem cut_tail (hK : Kind Tryd.prog S T k by_) (he : Tryd.prog.elem S = T) {W0 : World} {a : Option Addr} {n cap : Nat} {l : List α} (h : Rw f k W0 a n cap l) (m : Nat) (hm : m ≤ n) :
    ∃ a' cap', (∀ W : World, (Instr.slice S (.slice a n cap) (some (.int .i64 (m : Int))) none none).run Tryd.prog W = .ok (.slice a' (n - m) cap') W) ∧ ∀ W, Rw f k W a n cap l → Rw f k W a' (n - m) cap' (l.drop m) := by
  have hl := h.len
  have hro := h.room
  by_cases e : n - m = 0
  · obtain ⟨i, z, hi, hz, hsz, hby, _⟩ := hK.info
    refine ⟨if cap = m then a else a.map (·.add (m * i.size)), cap - m, fun W => ?_, fun W _ => ⟨by rw [List.length_drop]; omega, ⟨by omega, by omega⟩, fun h0 => by omega⟩⟩
    have := run_slice_l (P := Tryd.prog) W S a n cap (by rw [he]; exact hK.under) .i64 (m : Int) (by omega) (by omega)
    rw [this, he]
    simp [sizeOf, typeInfo, hi, sliced]
  · obtain ⟨g, off, rfl, _⟩ := h.cells (by omega)
    exact ⟨_, _, fun W => cut_low hK he W g off n cap m hm (by omega), fun W hW => hW.drop m hm⟩
end

/-- A cell of a row of the sentences: the id of its insert, its number there, its counter. -/
abbrev CellW := (Int × Int) × Int × Int
def cellW (x : CellW) : List Value := [.int .i64 x.1.1, .int .i64 x.1.2, .int .i64 x.2.1, .int .i64 x.2.2]
theorem layW : Lay cellW 4 := ⟨fun _ => rfl, by decide, fun x u hu => by simp [cellW] at hu; rcases hu with rfl | rfl | rfl | rfl <;> rfl⟩
theorem kindW : Kind Tryd.prog 44 78 4 32 := kind_of Tryd.underlying44 (z := .agg #[.int .i64 0, .int .i64 0, .int .i64 0, .int .i64 0]) (by kernel_rfl) rfl
theorem elemW : Tryd.prog.elem 44 = 78 := by kernel_rfl

set_option maxHeartbeats 1000000 in
theorem ins_any (c n p : Int) (s : ByteArray) (w : World) : Calls Tryd.prog 24 #[.int .i64 c, .int .i64 n, .int .i64 p, .string s] w fun e w' => e = .returned (opVal ⟨c, n, 1, p, s, [], 0, 0, false⟩ (.slice none 0 0)) ∧ Below w.heap.size w w' := by
  go_enter Tryd.func24, Tryd.ntmps24
  go_wp2_with fail
  refine bodyPost_ret (v := opVal ⟨c, n, 1, p, s, [], 0, 0, false⟩ (.slice none 0 0)) (by simp [results, Tryd.results24, go_sem, opVal]) rfl ⟨rfl, (Below.refl _ _).alloc (Nat.le_refl _) _⟩

set_option maxHeartbeats 2000000 in
theorem copy_any {o : OpV} {w : World} {a : Option Addr} {m cap : Nat} (h : Sp.Rng w a m cap o.l) (hm : m ≤ 1000000000) :
    Calls Tryd.prog 18 #[opVal o (.slice a m cap)] w fun e w' => ∃ a' cap', e = .returned (opVal o (.slice a' m cap')) ∧ OwnF rangeV 2 85 w' w.heap.size (.slice a' m cap') o.l ∧ Below w.heap.size w w' := by
  have hln := h.len
  obtain ⟨c, n, k, p, s, l, tc, tn, on⟩ := o
  simp only [opVal] at *
  obtain ⟨W0, hW0⟩ : ∃ W0, (w.alloc (Obj.cells #[.int .i64 c, .int .i64 n, .int .i64 k, .int .i64 p, .string s, .slice a m cap, .int .i64 tc, .int .i64 tn, .bool on] 42)).alloc (Obj.cells #[.int .i64 0, .int .i64 0, .int .i64 0, .int .i64 0, .string ⟨#[]⟩, .slice none 0 0, .int .i64 0, .int .i64 0, .bool false] 42) = W0 := ⟨_, rfl⟩
  have hX : W0.heap[w.heap.size]? = some (Obj.cells #[.int .i64 c, .int .i64 n, .int .i64 k, .int .i64 p, .string s, .slice a m cap, .int .i64 tc, .int .i64 tn, .bool on] 42) := by rw [← hW0]; exact (Below.heap_alloc _ _ _ (by simp)).trans (alloc_last _ _ _ rfl)
  have hZ : W0.heap[w.heap.size + 1]? = some (Obj.cells #[.int .i64 0, .int .i64 0, .int .i64 0, .int .i64 0, .string ⟨#[]⟩, .slice none 0 0, .int .i64 0, .int .i64 0, .bool false] 42) := by rw [← hW0]; exact alloc_last _ _ _ (by simp)
  have hB0 : Below w.heap.size w W0 := by rw [← hW0]; exact ((Below.refl w.heap.size w).alloc (Nat.le_refl _) _).alloc (by simp) _
  obtain ⟨ak0, ak1, ak2, ak3, ak4, ak5, ak6, ak7, ak8⟩ := box9 hX
  obtain ⟨va, vc, w1, hr, ho, hcur, _⟩ := appendF_all kindG layG (ownF_nil (f := rangeV) (k := 2) (T := 85) W0 W0.heap.size) (Nat.le_refl _) (rw_of_rng (h.below hB0)) (by simp; omega) (by simp; omega) 40
  simp only [List.length_nil, List.nil_append, Nat.zero_add] at hr ho
  have hX1 := (hcur.block _ (Array.getElem?_eq_some_iff.1 hX).1).trans hX
  have hZ1 := (hcur.block _ (Array.getElem?_eq_some_iff.1 hZ).1).trans hZ
  have hB1 := hB0.trans (hcur.mono hB0.size)
  have hlt : w.heap.size + 1 < W0.heap.size := (Array.getElem?_eq_some_iff.1 hZ).1
  have HO : Hid (OwnF rangeV 2 85 w1 W0.heap.size (.slice va m vc) l) := ho
  clear ho h hcur hX hZ hB0
  obtain ⟨bk0, bk1, bk2, bk3, bk4, bk5, bk6, bk7, bk8⟩ := box9 hX1
  obtain ⟨bz0, bz1, bz2, bz3, bz4, bz5, bz6, bz7, bz8⟩ := wr9 hX1
  have hB2 := hB1.setCell (p := ⟨w.heap.size, 5, none⟩) (Nat.le_refl _) (.slice va m vc)
  have hZ2 : (w1.setCell ⟨w.heap.size, 5, none⟩ (.slice va m vc)).heap[w.heap.size + 1]? = some (Obj.cells #[.int .i64 0, .int .i64 0, .int .i64 0, .int .i64 0, .string ⟨#[]⟩, .slice none 0 0, .int .i64 0, .int .i64 0, .bool false] 42) := (Below.heap_setCell _ _ _ _ (by simp)).trans hZ1
  have HO2 : Hid (OwnF rangeV 2 85 (w1.setCell ⟨w.heap.size, 5, none⟩ (.slice va m vc)) W0.heap.size (.slice va m vc) l) := (But.set _ _ _ _).own HO.out (by omega)
  clear HO
  obtain ⟨W9, e9, hx9, hB9, hK9⟩ := store9 hZ2 hB2 (by omega) (.int .i64 c) (.int .i64 n) (.int .i64 k) (.int .i64 p) (.string s) (.slice va m vc) (.int .i64 tc) (.int .i64 tn) (.bool on)
  obtain ⟨d0, d1, d2, d3, d4, d5, d6, d7, d8⟩ := box9 hZ2
  obtain ⟨dz0, dz1, dz2, dz3, dz4, dz5, dz6, dz7, dz8⟩ := wr9 hZ2
  obtain ⟨d10, d11, d12, d13, d14, d15, d16, d17, d18⟩ := box9 hZ1
  obtain ⟨dy0, dy1, dy2, dy3, dy4, dy5, dy6, dy7, dy8⟩ := wr9 hZ1
  obtain ⟨r0, r1, r2, r3, r4, r5, r6, r7, r8⟩ := box9 hx9
  go_enter Tryd.func18, Tryd.ntmps18
  go_wp2_with (at_builtin; refine wpList_append_hr rfl _ _ 40 rfl _ _ rfl rfl hr ?_)
  try rw [e9]
  refine bodyPost_ret (v := .agg #[.int .i64 c, .int .i64 n, .int .i64 k, .int .i64 p, .string s, .slice va m vc, .int .i64 tc, .int .i64 tn, .bool on]) (by simp [results, Tryd.results18, go_sem, r0, r1, r2, r3, r4, r5, r6, r7, r8]) rfl ⟨va, vc, rfl, (hK9.own HO2.out (by omega)).mono (by omega), hB9⟩
end Go.Proofs.YtlebbffpbbjakaaDoor

namespace Go.Proofs.YtlebbffpbbjakaaDoor
open Go.RowKit Go.Lib
set_option maxRecDepth 100000

set_option maxHeartbeats 2000000 in
theorem lawWidth_1 {c n p : Int} {s : ByteArray} {l : List (Int × Int)} {tc tn : Int} {on : Bool} {v : Value} {w : World} (hs : s.size ≤ 1000) :
    Calls Tryd.prog 22 #[opVal ⟨c, n, 1, p, s, l, tc, tn, on⟩ v] w fun e w' => e = .returned (.int .i64 (lawW s s.size : Nat)) ∧ Below w.heap.size w w' := by
  simp only [opVal]
  obtain ⟨W0, hW0⟩ : ∃ W0, w.alloc (Obj.cells #[.int .i64 c, .int .i64 n, .int .i64 1, .int .i64 p, .string s, v, .int .i64 tc, .int .i64 tn, .bool on] 42) = W0 := ⟨_, rfl⟩
  have hX : W0.heap[w.heap.size]? = some (Obj.cells #[.int .i64 c, .int .i64 n, .int .i64 1, .int .i64 p, .string s, v, .int .i64 tc, .int .i64 tn, .bool on] 42) := by rw [← hW0]; exact alloc_last _ _ _ rfl
  have hB0 : Below w.heap.size w W0 := by rw [← hW0]; exact (Below.refl w.heap.size w).alloc (Nat.le_refl _) _
  obtain ⟨ak0, ak1, ak2, ak3, ak4, ak5, ak6, ak7, ak8⟩ := box9 hX
  go_enter Tryd.func22, Tryd.ntmps22
  go_wp2_with fail
  clear hW0 hX
  go_loopw [3, 4] (fun vc vi W => ∃ j : Nat, j ≤ s.size ∧ vi = .int .i64 j ∧ vc = .int .i64 (lawW s j : Nat) ∧ W = W0) (fun _ vi _ => s.size - (RowKit.intOf vi).toNat)
  case atStart => exact ⟨0, Nat.zero_le _, rfl, rfl, rfl⟩
  case round =>
    obtain ⟨j, hj, rfl, rfl, rfl⟩ := hrel
    by_cases hlt : j < s.size
    · have b1 : (j : Int) < (s.size : Int) := by omega
      have b0 : (0 : Int) ≤ (j : Int) := by omega
      go_wp2_with fail
      all_goals first
        | (rename_i h1 h2; have e1 := lawW_no s j hlt (by omega) (by omega); exact ⟨⟨j + 1, by omega, by go_num, by rw [e1], trivial⟩, by simp [RowKit.intOf]; omega⟩)
        | (rename_i h1 h2; have e1 := lawW_yes s j hlt (by omega); have e2 := lawW_le s j; have e3 : wrap64 ((lawW s j : Int) + 1) = (lawW s j : Int) + 1 := IntWalk.wrap64_in _ (by omega); exact ⟨⟨j + 1, by omega, by go_num, by rw [e1, e3]; push_cast; rfl, trivial⟩, by simp [RowKit.intOf]; omega⟩)
        | (rename_i h1; have e1 := lawW_yes s j hlt (by omega); have e2 := lawW_le s j; have e3 : wrap64 ((lawW s j : Int) + 1) = (lawW s j : Int) + 1 := IntWalk.wrap64_in _ (by omega); exact ⟨⟨j + 1, by omega, by go_num, by rw [e1, e3]; push_cast; rfl, trivial⟩, by simp [RowKit.intOf]; omega⟩)
    · obtain rfl : j = s.size := by omega
      go_wp2_with fail
      go_ret
      exact ⟨rfl, hB0⟩

set_option maxHeartbeats 2000000 in
theorem lawWidth_0 {o : OpV} {v : Value} {w : World} (hk : o.k ≠ 1) :
    Calls Tryd.prog 22 #[opVal o v] w fun e w' => e = .returned (.int .i64 0) ∧ Below w.heap.size w w' := by
  obtain ⟨c, n, k, p, s, l, tc, tn, on⟩ := o
  simp only [opVal] at *
  have t1 : (k == 1) = false := beq_eq_false_iff_ne.2 hk
  have hB0 : Below w.heap.size w (w.alloc (Obj.cells #[.int .i64 c, .int .i64 n, .int .i64 k, .int .i64 p, .string s, v, .int .i64 tc, .int .i64 tn, .bool on] 42)) := (Below.refl w.heap.size w).alloc (Nat.le_refl _) _
  clear hk
  go_enter Tryd.func22, Tryd.ntmps22
  go_wp2_with fail
  go_ret
  exact ⟨rfl, hB0⟩
/-- What the sentences take for an operation's width. -/
def wdL (o : OpV) : Nat := if o.k = 1 then lawW o.s o.s.size else 0
theorem lawWidth_any {o : OpV} {v : Value} {w : World} (hs : o.s.size ≤ 1000) :
    Calls Tryd.prog 22 #[opVal o v] w fun e w' => e = .returned (.int .i64 (wdL o : Nat)) ∧ Below w.heap.size w w' := by
  by_cases hk : o.k = 1
  · obtain ⟨c, n, k, p, s, l, tc, tn, on⟩ := o
    simp only at hk
    subst hk
    exact lawWidth_1 hs
  · have e : wdL o = 0 := if_neg hk
    rw [e]
    exact lawWidth_0 hk

set_option maxHeartbeats 2000000 in
theorem row_any (n : Nat) (hn : n ≤ 1000) (w : World) : Calls Tryd.prog 14 #[.int .i64 n] w fun e w' => ∃ v, e = .returned v ∧ OwnF cellW 4 78 w' w.heap.size v ((List.range n).map fun i => ((0, 0), ((i : Nat) : Int), 0)) ∧ Below w.heap.size w w' := by
  go_enter Tryd.func14, Tryd.ntmps14
  go_wp2_with fail
  go_loopw [3, 4] (fun v vi W => ∃ j : Nat, j ≤ n ∧ vi = .int .i64 j ∧ OwnF cellW 4 78 W w.heap.size v ((List.range j).map fun i => ((0, 0), ((i : Nat) : Int), 0)) ∧ Below w.heap.size w W) (fun _ vi _ => n - (RowKit.intOf vi).toNat)
  case atStart => exact ⟨0, Nat.zero_le _, rfl, ownF_nil _ _, Below.refl _ _⟩
  case round =>
    obtain ⟨j, hj, rfl, ho, hb⟩ := hrel
    by_cases hlt : j < n
    · obtain ⟨ao, co, rfl⟩ := ho.shape
      obtain ⟨g5, cap5, w6, hr, ho6, hb6, _, _⟩ := appendF_one kindW layW ho hb.size ((0, 0), ((j : Nat) : Int), 0) #[.int .i64 0, .int .i64 0, .int .i64 j, .int .i64 0] rfl 78 (by simp; omega) (by simp; omega) 44
      have hb7 := hb.trans hb6
      have e1 : ((List.range j).map fun i => (((0, 0), ((i : Nat) : Int), 0) : CellW)) ++ [((0, 0), ((j : Nat) : Int), 0)] = (List.range (j + 1)).map fun i => ((0, 0), ((i : Nat) : Int), 0) := by rw [List.range_succ, List.map_append]; rfl
      rw [e1] at ho6
      simp only [List.length_map, List.length_range] at hr ho6
      have HO : Hid (OwnF cellW 4 78 w6 w.heap.size (.slice (some ⟨g5, 0, none⟩) (j + 1) cap5) ((List.range (j + 1)).map fun i => ((0, 0), ((i : Nat) : Int), 0))) := ho6
      clear ho ho6 hb hb6 e1
      simp only [List.length_map, List.length_range]
      go_wp2_with (at_builtin; refine wpList_append_hr rfl _ _ 44 rfl _ _ rfl rfl hr ?_)
      go_roundw
      case rel => exact ⟨j + 1, by omega, by go_num, HO.out, hb7⟩
      case measure => simp [RowKit.intOf]; omega
    · obtain rfl : j = n := by omega
      go_wp2_with fail
      go_ret
      exact ⟨_, rfl, ho, hb⟩
end Go.Proofs.YtlebbffpbbjakaaDoor

namespace Go.Proofs.YtlebbffpbbjakaaDoor
open Go.RowKit Go.Lib
set_option maxRecDepth 100000

/-- The cells that an Ins puts in. -/
def newL (c n : Int) (k : Nat) : List CellW := (List.range k).map fun i => ((c, n), ((i : Nat) : Int), 0)
theorem newL_length (c n : Int) (k : Nat) : (newL c n k).length = k := by simp [newL]
theorem newL_succ (c n : Int) (k : Nat) : newL c n k ++ [((c, n), ((k : Nat) : Int), 0)] = newL c n (k + 1) := by unfold newL; rw [List.range_succ, List.map_append]; rfl
def insL (R : List CellW) (p : Nat) (N : List CellW) : List CellW := R.take p ++ N ++ R.drop p
theorem insL_length (R : List CellW) (p : Nat) (N : List CellW) (h : p ≤ R.length) : (insL R p N).length = R.length + N.length := by
  simp only [insL, List.length_append, List.length_take, List.length_drop]; omega

set_option maxHeartbeats 4000000 in
theorem does_ins {c n : Int} {pn : Nat} {s : ByteArray} {l : List (Int × Int)} {tc tn : Int} {on : Bool} {w : World} {a : Option Addr} {m cap : Nat} {R : List CellW} (h : Rw cellW 4 w a m cap R) (hm : m ≤ 1000) (hp : pn ≤ m) (hs : s.size ≤ 1000) {a2 : Option Addr} {m2 cap2 : Nat} :
    Calls Tryd.prog 46 #[.slice a m cap, opVal ⟨c, n, 1, pn, s, l, tc, tn, on⟩ (.slice a2 m2 cap2)] w fun e w' => ∃ v, e = .returned (.tuple #[v, .bool true]) ∧ OwnF cellW 4 78 w' w.heap.size v (insL R pn (newL c n (lawW s s.size))) ∧ Below w.heap.size w w' := by
  have hln := h.len
  have hro := h.room
  have hwl := lawW_le s s.size
  have HW : Hid (∀ W : World, Calls Tryd.prog 22 #[opVal ⟨c, n, 1, pn, s, l, tc, tn, on⟩ (.slice a2 m2 cap2)] W fun e w' => e = .returned (.int .i64 (lawW s s.size : Nat)) ∧ Below W.heap.size W w') := fun W => lawWidth_1 hs
  generalize lawW s s.size = wd at *
  simp only [opVal] at *
  obtain ⟨W0, hW0⟩ : ∃ W0, w.alloc (Obj.cells #[.int .i64 c, .int .i64 n, .int .i64 1, .int .i64 pn, .string s, .slice a2 m2 cap2, .int .i64 tc, .int .i64 tn, .bool on] 42) = W0 := ⟨_, rfl⟩
  have hX : W0.heap[w.heap.size]? = some (Obj.cells #[.int .i64 c, .int .i64 n, .int .i64 1, .int .i64 pn, .string s, .slice a2 m2 cap2, .int .i64 tc, .int .i64 tn, .bool on] 42) := by rw [← hW0]; exact alloc_last _ _ _ rfl
  have hB0 : Below w.heap.size w W0 := by rw [← hW0]; exact (Below.refl w.heap.size w).alloc (Nat.le_refl _) _
  have alt : w.heap.size < W0.heap.size := (Array.getElem?_eq_some_iff.1 hX).1
  have h0 := h.below hB0
  obtain ⟨va, vc, w1, hr1, ho1, hb1, _⟩ := appendF_all kindW layW (ownF_nil (f := cellW) (k := 4) (T := 78) W0 W0.heap.size) (Nat.le_refl _) h0 (by simp; omega) (by simp; omega) 44
  simp only [List.length_nil, List.nil_append, Nat.zero_add] at hr1 ho1
  have h1 := h0.below hb1
  obtain ⟨va2, vc2, w2, hr2, ho2, hb2, _⟩ := appendF_all kindW layW (ownF_nil (f := cellW) (k := 4) (T := 78) w1 W0.heap.size) hb1.size (h1.take pn hp) (by simp; omega) (by simp; omega) 44
  simp only [List.length_nil, List.nil_append, Nat.zero_add] at hr2 ho2
  have hcut : ∀ W, (Instr.slice 44 (.slice a m cap) none (some (.int .i64 (pn : Int))) none).run Tryd.prog W = .ok (.slice a pn cap) W := fun W => cut_high kindW elemW W _ _ _ pn (by omega)
  obtain ⟨a', cap', htail, hRt⟩ := cut_tail kindW elemW h pn hp
  have hB2 : Below W0.heap.size W0 w2 := hb1.trans hb2
  have H0 : Hid (Rw cellW 4 W0 a m cap R) := h0
  have HT : Hid (∀ W, Rw cellW 4 W a m cap R → Rw cellW 4 W a' (m - pn) cap' (R.drop pn)) := hRt
  have HO2 : Hid (OwnF cellW 4 78 w2 W0.heap.size (.slice va2 pn vc2) (R.take pn ++ newL c n 0)) := by
    show OwnF _ _ _ _ _ _ _
    rw [show newL c n 0 = [] from rfl, List.append_nil]
    exact ho2
  have t1 : decide ((pn : Int) < 0) = false := decide_eq_false (by omega)
  have t2 : decide ((m : Int) < (pn : Int)) = false := decide_eq_false (by omega)
  clear h h0 h1 ho1 ho2 hRt hb2
  obtain ⟨ak0, ak1, ak2, ak3, ak4, ak5, ak6, ak7, ak8⟩ := box9 hX
  have hX1 := (hb1.block _ alt).trans hX
  obtain ⟨bk0, bk1, bk2, bk3, bk4, bk5, bk6, bk7, bk8⟩ := box9 hX1
  go_enter Tryd.func46, Tryd.ntmps46
  go_upto_region 6 with (at_builtin; refine wpList_append_hr rfl _ _ 44 rfl _ _ rfl rfl hr1 ?_)
  go_wp2_with (at_builtin; refine wpList_append_hr rfl _ _ 44 rfl _ _ rfl rfl hr2 ?_)
  clear hr1 hr2 hb1 hX1 ak0 ak1 ak2 ak3 ak4 ak5 ak6 ak7 ak8 bk0 bk1 bk2 bk3 bk4 bk5 bk6 bk7 bk8 hcut t1 t2 hW0
  go_loopw [6, 7] (fun v vi W => ∃ j : Nat, j ≤ wd ∧ vi = .int .i64 j ∧ OwnF cellW 4 78 W W0.heap.size v (R.take pn ++ newL c n j) ∧ Below W0.heap.size W0 W) (fun _ vi _ => wd - (RowKit.intOf vi).toNat)
  case atStart => exact ⟨0, Nat.zero_le _, rfl, HO2.out, hB2⟩
  case round =>
    obtain ⟨j, hj, rfl, ho, hb⟩ := hrel
    clear HO2 hB2
    have hX1 := (hb.block _ alt).trans hX
    obtain ⟨bk0, bk1, bk2, bk3, bk4, bk5, bk6, bk7, bk8⟩ := box9 hX1
    have htl : (R.take pn ++ newL c n j).length = pn + j := by rw [List.length_append, List.length_take, newL_length]; omega
    go_wp2_with fail
    refine (HW.out _).mono ?_
    rintro e w3 ⟨rfl, hb3⟩
    have hb4 := hb.trans (hb3.mono hb.size)
    have ho4 := ho.below hb3
    have hX2 := (hb3.block _ (by have := hb.size; omega)).trans hX1
    clear bk0 bk1 bk2 bk3 bk4 bk5 bk6 bk7 bk8 hX1 hb3 ho hb
    obtain ⟨bk0, bk1, bk2, bk3, bk4, bk5, bk6, bk7, bk8⟩ := box9 hX2
    obtain ⟨ao, co, rfl⟩ := ho4.shape
    by_cases hlt : j < wd
    · obtain ⟨g5, cap5, w6, hr, ho6, hb6, _, _⟩ := appendF_one kindW layW ho4 hb4.size ((c, n), ((j : Nat) : Int), 0) #[.int .i64 c, .int .i64 n, .int .i64 j, .int .i64 0] rfl 78 (by omega) (by omega) 44
      rw [List.append_assoc, newL_succ] at ho6
      rw [htl] at hr ho6 ⊢
      have hb7 := hb4.trans hb6
      have HO : Hid (OwnF cellW 4 78 w6 W0.heap.size (.slice (some ⟨g5, 0, none⟩) (pn + j + 1) cap5) (R.take pn ++ newL c n (j + 1))) := ho6
      have b1 : (j : Int) < (wd : Int) := by omega
      clear ho4 ho6 hb4 hb6 htl
      go_wp2_with (at_builtin; refine wpList_append_hr rfl _ _ 44 rfl _ _ rfl rfl hr ?_)
      go_roundw
      case rel => exact ⟨j + 1, by omega, by go_num, HO.out, hb7⟩
      case measure => simp [RowKit.intOf]; omega
    · obtain rfl : j = wd := by omega
      obtain ⟨va9, vc9, w9, hr9, ho9, hb9, _⟩ := appendF_all kindW layW ho4 hb4.size (HT.out _ (H0.out.below hb4)) (by omega) (by omega) 44
      rw [htl] at hr9 ho9 ⊢
      have hb8 : Below w.heap.size w w9 := hB0.trans ((hb4.trans hb9).mono hB0.size)
      have HO : Hid (OwnF cellW 4 78 w9 w.heap.size (.slice va9 (pn + j + (m - pn)) vc9) (insL R pn (newL c n j))) := ho9.mono hB0.size
      clear ho4 ho9 hb4 hb9 htl
      go_wp2_with (at_builtin; refine wpList_append_hr rfl _ _ 44 rfl _ _ rfl rfl hr9 ?_)
      go_ret2
      exact ⟨_, rfl, HO.out, hb8⟩
end Go.Proofs.YtlebbffpbbjakaaDoor

namespace Go.Proofs.YtlebbffpbbjakaaDoor
open Go.RowKit Go.Lib
set_option maxRecDepth 100000
/-- The row with by on the counters of its cells lo to q - 1. -/
def upTo (R : List CellW) (lo q : Nat) (by_ : Int) : List CellW := R.mapIdx fun j c => if lo ≤ j ∧ j < q then (c.1, c.2.1, c.2.2 + by_) else c
theorem upTo_len (R : List CellW) (lo q : Nat) (by_ : Int) : (upTo R lo q by_).length = R.length := by simp [upTo]
theorem upTo_get (R : List CellW) (lo q : Nat) (by_ : Int) (j : Nat) : (upTo R lo q by_)[j]? = R[j]?.map fun c => if lo ≤ j ∧ j < q then (c.1, c.2.1, c.2.2 + by_) else c := by simp [upTo]
theorem upTo_self (R : List CellW) (lo : Nat) (by_ : Int) : upTo R lo lo by_ = R := by
  apply List.ext_getElem?
  intro j
  rw [upTo_get]
  cases R[j]? with
  | none => rfl
  | some c => simp only [Option.map_some]; rw [if_neg (by omega)]
theorem upTo_succ (R : List CellW) (lo q : Nat) (by_ : Int) (h : lo ≤ q) (c : CellW) (hc : R[q]? = some c) : (upTo R lo q by_).set q (c.1, c.2.1, c.2.2 + by_) = upTo R lo (q + 1) by_ := by
  have hq := (List.getElem?_eq_some_iff.1 hc).1
  apply List.ext_getElem?
  intro j
  rw [upTo_get, List.getElem?_set, upTo_get, upTo_len]
  by_cases e : q = j
  · subst e
    rw [if_pos rfl, if_pos hq, hc]
    simp only [Option.map_some]
    rw [if_pos (by omega)]
  · rw [if_neg e]
    cases R[j]? with
    | none => rfl
    | some d =>
      simp only [Option.map_some]
      by_cases k : lo ≤ j ∧ j < q
      · rw [if_pos k, if_pos (by omega)]
      · rw [if_neg k, if_neg (by omega)]
/-- The row with by on the counters of a list's cells. -/
def upAll (R : List CellW) (l : List (Int × Int)) (by_ : Int) : List CellW := l.foldl (fun R r => upTo R r.1.toNat r.2.toNat by_) R
theorem upAll_len (l : List (Int × Int)) (by_ : Int) : ∀ R : List CellW, (upAll R l by_).length = R.length := by
  induction l with
  | nil => intro R; rfl
  | cons r l ih => intro R; show (upAll (upTo R r.1.toNat r.2.toNat by_) l by_).length = _; rw [ih, upTo_len]
theorem upAll_snoc (R : List CellW) (l : List (Int × Int)) (r : Int × Int) (by_ : Int) : upAll R (l ++ [r]) by_ = upTo (upAll R l by_) r.1.toNat r.2.toNat by_ := by simp [upAll]

theorem flatW_set : ∀ (l : List CellW) (i : Nat) (x : Int × Int) (k y z : Int), l[i]? = some (x, k, y) → (flatF cellW l).set (i * 4 + 3) (.int .i64 z) = flatF cellW (l.set i (x, k, z))
  | [], i, x, k, y, z, h => by simp at h
  | c :: l, 0, x, k, y, z, h => by
    simp at h
    subst h
    rfl
  | c :: l, i + 1, x, k, y, z, h => by
    have ih := flatW_set l i x k y z (by simpa using h)
    have e : (i + 1) * 4 + 3 = (i * 4 + 3) + 1 + 1 + 1 + 1 := by omega
    rw [e]
    show Value.int .i64 c.1.1 :: Value.int .i64 c.1.2 :: Value.int .i64 c.2.1 :: Value.int .i64 c.2.2 :: (flatF cellW l).set (i * 4 + 3) (.int .i64 z) = _
    rw [ih]
    rfl
theorem OwnF.setHidW {w : World} {B g cap : Nat} {l : List CellW} (h : OwnF cellW 4 78 w B (.slice (some ⟨g, 0, none⟩) l.length cap) l) (i : Nat) (x : Int × Int) (k y z : Int) (hx : l[i]? = some (x, k, y)) :
    OwnF cellW 4 78 (w.setCell ⟨g, i * 4 + 3, none⟩ (.int .i64 z)) B (.slice (some ⟨g, 0, none⟩) l.length cap) (l.set i (x, k, z)) := by
  have := (World.ownsRow.stored h (i * 4 + 3) (.int .i64 z)).1
  rw [flatW_set l i x k y z hx] at this
  unfold OwnF
  rw [List.length_set]
  exact this
theorem OwnF.ptr {α : Type} {f : α → List Value} {k : Nat} {T : TypeId} {w : World} {B : Nat} {v : Value} {l : List α} (h : OwnF f k T w B v l) (hn : 0 < l.length) : ∃ g cap, v = .slice (some ⟨g, 0, none⟩) l.length cap ∧ B ≤ g ∧ g < w.heap.size ∧ l.length ≤ cap ∧ cap ≤ maxLen ∧ ∀ j, w.frozen? ⟨g, j, none⟩ = false := by
  rcases h.2 with ⟨e, h0⟩ | ⟨g, cap, cur, e, hb, hh, h1, h2, _⟩
  · omega
  · exact ⟨g, cap, e, hb, (Array.getElem?_eq_some_iff.1 hh).1, h1, h2, fun j => frozen_of_row w g j cur _ hh⟩
/-- Counters are small. -/
def Small (M : Int) (R : List CellW) : Prop := ∀ c ∈ R, -M ≤ c.2.2 ∧ c.2.2 ≤ M
theorem Small.up {M : Int} {R : List CellW} (h : Small M R) (lo q : Nat) {by_ : Int} (h1 : -1 ≤ by_) (h2 : by_ ≤ 1) : Small (M + 1) (upTo R lo q by_) := fun c hc => by
  obtain ⟨j, hj⟩ := List.getElem?_of_mem hc
  rw [upTo_get] at hj
  obtain ⟨d, hd, rfl⟩ := Option.map_eq_some_iff.1 hj
  have := h d (List.mem_of_getElem? hd)
  by_cases k : lo ≤ j ∧ j < q
  · rw [if_pos k]; simp only; omega
  · rw [if_neg k]; omega
theorem norm_next {b : Int} {l : List (Int × Int)} (h : Sp.Norm b l) : ∀ i, i + 1 < l.length → (l.getD i (0, 0)).2 < (l.getD (i + 1) (0, 0)).1 := by
  induction l generalizing b with
  | nil => intro i hi; simp at hi
  | cons x t ih =>
    intro i hi
    cases i with
    | zero =>
      cases t with
      | nil => simp at hi
      | cons y u => exact h.2.2.1
    | succ i => exact ih h.2.2 i (by simpa using hi)
theorem take_snoc_getD (l : List (Int × Int)) (i : Nat) (h : i < l.length) : l.take (i + 1) = l.take i ++ [l.getD i (0, 0)] := by
  rw [List.take_succ_eq_append_getElem h, List.getD_eq_getElem?_getD, List.getElem?_eq_getElem h]
  rfl
def byP (k : Int) : Int := if k = 3 then -1 else 1

set_option maxHeartbeats 8000000 in
theorem does_rng {c n k p : Int} {s : ByteArray} {l : List (Int × Int)} {tc tn : Int} {on : Bool} {w : World} {a : Option Addr} {m cap : Nat} {R : List CellW} (h : Rw cellW 4 w a m cap R) (hm : m ≤ 1000) {a2 : Option Addr} {m2 cap2 : Nat} (hl : Sp.Rng w a2 m2 cap2 l) (hfw : m2 ≤ 1000000)
    (hk : k = 2 ∨ k = 3) (hne : l ≠ []) (hN : Sp.Norm (-1) l) (hin : ∀ r ∈ l, 0 ≤ r.1 ∧ r.1 < r.2 ∧ r.2 ≤ (m : Int)) (hS : Small 4194304 R) :
    Calls Tryd.prog 46 #[.slice a m cap, opVal ⟨c, n, k, p, s, l, tc, tn, on⟩ (.slice a2 m2 cap2)] w fun e w' => ∃ v, e = .returned (.tuple #[v, .bool true]) ∧ OwnF cellW 4 78 w' w.heap.size v (upAll R l (byP k)) ∧ Below w.heap.size w w' := by
  have hRl := h.len
  have hll := hl.len
  have hlr := hl.room
  have hm2 : m2 ≤ 9223372036854775807 := by simp only [maxLen] at hlr; omega
  obtain ⟨d, hd⟩ : ∃ d, byP k = d := ⟨_, rfl⟩
  have h1 : -1 ≤ d := by rw [← hd]; unfold byP; split <;> omega
  have h2 : d ≤ 1 := by rw [← hd]; unfold byP; split <;> omega
  have hd2 : (k = 2 ∧ d = 1) ∨ (k = 3 ∧ d = -1) := by rw [← hd]; unfold byP; rcases hk with rfl | rfl <;> simp
  rw [hd]
  simp only [opVal] at *
  obtain ⟨W0, hW0⟩ : ∃ W0, w.alloc (Obj.cells #[.int .i64 c, .int .i64 n, .int .i64 k, .int .i64 p, .string s, .slice a2 m2 cap2, .int .i64 tc, .int .i64 tn, .bool on] 42) = W0 := ⟨_, rfl⟩
  have hX : W0.heap[w.heap.size]? = some (Obj.cells #[.int .i64 c, .int .i64 n, .int .i64 k, .int .i64 p, .string s, .slice a2 m2 cap2, .int .i64 tc, .int .i64 tn, .bool on] 42) := by rw [← hW0]; exact alloc_last _ _ _ rfl
  have hB0 : Below w.heap.size w W0 := by rw [← hW0]; exact (Below.refl w.heap.size w).alloc (Nat.le_refl _) _
  have alt : w.heap.size < W0.heap.size := (Array.getElem?_eq_some_iff.1 hX).1
  obtain ⟨va, vc, w1, hr1, ho1, hb1, _⟩ := appendF_all kindW layW (ownF_nil (f := cellW) (k := 4) (T := 78) W0 W0.heap.size) (Nat.le_refl _) (h.below hB0) (by simp; omega) (by simp; omega) 44
  simp only [List.length_nil, List.nil_append, Nat.zero_add] at hr1 ho1
  have HL : Hid (Sp.Rng w a2 m2 cap2 l) := hl
  have HIN : Hid (∀ r ∈ l, 0 ≤ r.1 ∧ r.1 < r.2 ∧ r.2 ≤ (m : Int)) := hin
  have HN : Hid (∀ i, i + 1 < l.length → (l.getD i (0, 0)).2 < (l.getD (i + 1) (0, 0)).1) := norm_next hN
  have HS : Hid (Small 4194304 R) := hS
  have hpos : 0 < m2 := by rw [← hll]; exact List.length_pos_iff.2 hne
  clear h hl hin hS hN hne
  obtain ⟨ak0, ak1, ak2, ak3, ak4, ak5, ak6, ak7, ak8⟩ := box9 hX
  have hX1 := (hb1.block _ alt).trans hX
  obtain ⟨bk0, bk1, bk2, bk3, bk4, bk5, bk6, bk7, bk8⟩ := box9 hX1
  clear hd hk
  rcases hd2 with ⟨rfl, rfl⟩ | ⟨rfl, rfl⟩
  all_goals
    go_enter Tryd.func46, Tryd.ntmps46
    go_wp2_with (at_builtin; refine wpList_append_hr rfl _ _ 44 rfl _ _ rfl rfl hr1 ?_)
    clear ak0 ak1 ak2 ak3 ak4 ak5 ak6 ak7 ak8 bk0 bk1 bk2 bk3 bk4 bk5 bk6 bk7 bk8 hr1 hW0
  · go_loopw [9, 10, 11] (fun vi vg vq W => ∃ i : Nat, i ≤ m2 ∧ vi = .int .i64 (i : Int) ∧ OwnF cellW 4 78 W W0.heap.size (.slice va m vc) (upAll R (l.take i) 1) ∧ Small (4194304 + (i : Int)) (upAll R (l.take i) 1) ∧ Below W0.heap.size W0 W) (fun vi _ _ _ => m2 - (RowKit.intOf vi).toNat)
    case atStart => exact ⟨0, Nat.zero_le _, rfl, ho1, by simpa [upAll] using HS.out, hb1⟩
    case round =>
      obtain ⟨i, hi, rfl, ho, hsm, hb⟩ := hrel
      have hsz := hb.size
      clear ho1 hb1 hX1 HS
      have hX1 := (hb.block _ alt).trans hX
      have hbw : Below w.heap.size w wr := hB0.trans (hb.mono hB0.size)
      obtain ⟨bk0, bk1, bk2, bk3, bk4, bk5, bk6, bk7, bk8⟩ := box9 hX1
      by_cases hlt : i < m2
      · obtain ⟨g, off, rfl, hg, hc0, hc1⟩ := HL.out.cells i hlt
        have HP : Hid (∀ i' : Nat, i = i' + 1 → ∀ W, Below w.heap.size w W → W.cell? ⟨g, off + i' * 2 + 1, none⟩ = some (.int .i64 (l.getD i' (0, 0)).2)) := fun i' e W hW => by
          obtain ⟨g2, off2, e2, hg2, _, hd1⟩ := HL.out.cells i' (by omega)
          cases e2
          exact (hW.cell (p := ⟨g, off + i' * 2 + 1, none⟩) hg2).trans hd1
        have hil : i < l.length := by omega
        have hmem : l.getD i (0, 0) ∈ l := by rw [List.getD_eq_getElem?_getD, List.getElem?_eq_getElem hil]; exact List.getElem_mem hil
        obtain ⟨hr1, hr2, hr3⟩ := HIN.out _ hmem
        have hsn : upAll R (l.take (i + 1)) 1 = upTo (upAll R (l.take i) 1) (l.getD i (0, 0)).1.toNat (l.getD i (0, 0)).2.toNat 1 := by rw [take_snoc_getD l i hil, upAll_snoc]
        have hpv : ∀ i' : Nat, i = i' + 1 → (l.getD i' (0, 0)).2 < (l.getD i (0, 0)).1 := fun i' e => by have := HN.out i' (by omega); rw [← e] at this; exact this
        have hul := upAll_len (l.take i) 1 R
        generalize upAll R (l.take i) 1 = Q at *
        obtain ⟨lo, hlo⟩ : ∃ lo : Nat, (l.getD i (0, 0)).1 = (lo : Int) := ⟨(l.getD i (0, 0)).1.toNat, by omega⟩
        obtain ⟨hi', hhi⟩ : ∃ hi' : Nat, (l.getD i (0, 0)).2 = (hi' : Int) := ⟨(l.getD i (0, 0)).2.toNat, by omega⟩
        rw [hlo, hhi] at hsn hr2
        rw [hlo] at hc0 hr1 hpv
        rw [hhi] at hc1 hr3
        rw [Int.toNat_natCast, Int.toNat_natCast] at hsn
        have HSN : Hid (upAll R (l.take (i + 1)) 1 = upTo Q lo hi' 1) := hsn
        have HPV : Hid (∀ i' : Nat, i = i' + 1 → (l.getD i' (0, 0)).2 < (lo : Int)) := hpv
        have HSM : Hid (Small (4194304 + (i : Int)) Q) := hsm
        have c0 := (hbw.cell (p := ⟨g, off + i * 2, none⟩) hg).trans hc0
        have c1 := (hbw.cell (p := ⟨g, off + i * 2 + 1, none⟩) hg).trans hc1
        have HO : Hid (OwnF cellW 4 78 wr W0.heap.size (.slice va m vc) Q) := ho
        obtain ⟨W1, hW1⟩ : ∃ W1, wr.alloc (Obj.cells #[.int .i64 lo, .int .i64 hi'] 85) = W1 := ⟨_, rfl⟩
        have h11 : Below wr.heap.size wr W1 := by rw [← hW1]; exact (Below.refl _ _).alloc (Nat.le_refl _) _
        have hG : W1.heap[wr.heap.size]? = some (Obj.cells #[.int .i64 lo, .int .i64 hi'] 85) := by rw [← hW1]; exact alloc_last _ _ _ rfl
        have g0 : W1.cell? ⟨wr.heap.size, 0, none⟩ = some (.int .i64 lo) := by rw [Lib.cell_of_heap hG]; rfl
        have g1 : W1.cell? ⟨wr.heap.size, 1, none⟩ = some (.int .i64 hi') := by rw [Lib.cell_of_heap hG]; rfl
        have b5 : W1.cell? ⟨w.heap.size, 5, none⟩ = some (.slice (some ⟨g, off, none⟩) m2 cap2) := (h11.cell (p := ⟨w.heap.size, 5, none⟩) (by simp only; omega)).trans bk5
        have hbW : Below w.heap.size w W1 := hbw.trans (h11.mono hbw.size)
        have hbX : Below W0.heap.size W0 W1 := hb.trans (h11.mono hb.size)
        have HO1 : Hid (OwnF cellW 4 78 W1 W0.heap.size (.slice va m vc) Q) := HO.out.below h11
        have t1 : decide ((lo : Int) < 0) = false := decide_eq_false (by omega)
        have t2 : decide ((hi' : Int) ≤ (lo : Int)) = false := decide_eq_false (by omega)
        have t3 : decide ((m : Int) < (hi' : Int)) = false := decide_eq_false (by omega)
        have t2' : decide (hi' ≤ lo) = false := decide_eq_false (by omega)
        have t3' : decide (m < hi') = false := decide_eq_false (by omega)
        have i0 : (0 : Int) ≤ (i : Int) := by omega
        have i1 : (i : Int) < (m2 : Int) := by omega
        clear hc0 hc1 hsn hpv hsm ho HO hmem hil
        cases i with
        | zero =>
          simp only [Nat.zero_mul, Nat.add_zero] at c0 c1
          go_wp2_with fail
          go_quiet (fail)
          go_wp2_with fail
          generalize hbg : wr.heap.size = bg at *
          have hbg1 : W0.heap.size ≤ bg := by omega
          clear hbg
          go_loopw [11] (fun vq w2 => ∃ q : Nat, lo ≤ q ∧ q ≤ hi' ∧ vq = .int .i64 (q : Int) ∧ OwnF cellW 4 78 w2 W0.heap.size (.slice va m vc) (upTo Q lo q 1) ∧ w2.heap[bg]? = some (Obj.cells #[.int .i64 lo, .int .i64 hi'] 85) ∧ Below W0.heap.size W0 w2) (fun vq _ => hi' - (RowKit.intOf vq).toNat)
          case atStart => exact ⟨lo, Nat.le_refl _, by omega, rfl, by rw [upTo_self]; exact HO1.out, hG, below_drewN hbX _⟩
          case round =>
            obtain ⟨q, hq1, hq2, rfl, ho2, hG2, hb2⟩ := hrel
            have d0 : wr.cell? ⟨bg, 0, none⟩ = some (.int .i64 lo) := by rw [Lib.cell_of_heap hG2]; rfl
            have d1 : wr.cell? ⟨bg, 1, none⟩ = some (.int .i64 hi') := by rw [Lib.cell_of_heap hG2]; rfl
            by_cases hq : q < hi'
            · have hQ : Q[q]? = some Q[q] := List.getElem?_eq_getElem (by omega)
              obtain ⟨y, hy⟩ : ∃ y, Q[q]? = some y := ⟨_, hQ⟩
              have hU : (upTo Q lo q 1)[q]? = some (y.1, y.2.1, y.2.2) := by rw [upTo_get, hy]; simp only [Option.map_some]; rw [if_neg (by omega)]
              have hys := HSM.out y (List.mem_of_getElem? hy)
              have hulen := upTo_len Q lo q 1
              obtain ⟨gg, cc, e, hBg, hgg, hroom1, hroom2, hfz⟩ := ho2.ptr (by omega)
              have hsl : m = (upTo Q lo q 1).length := by omega
              simp only [Value.slice.injEq] at e
              obtain ⟨rfl, _, rfl⟩ := e
              obtain ⟨g', off', x', ha', _, hx', hc'⟩ := (ho2.rw_ layW).at q (by omega)
              cases ha'
              have e1 : wr.cell? ⟨gg, q * 4 + 3, none⟩ = some (.int .i64 y.2.2) := by
                rw [hU] at hx'; cases hx'
                have := hc' 3 _ rfl
                rwa [Nat.zero_add] at this
              have f1 := hfz (q * 4 + 3)
              have hset : OwnF cellW 4 78 (wr.setCell ⟨gg, q * 4 + 3, none⟩ (.int .i64 (y.2.2 + 1))) W0.heap.size (.slice (some ⟨gg, 0, none⟩) m vc) (upTo Q lo (q + 1) 1) := by
                have hO : OwnF cellW 4 78 wr W0.heap.size (.slice (some ⟨gg, 0, none⟩) (upTo Q lo q 1).length vc) (upTo Q lo q 1) := by rw [← hsl]; exact ho2
                have := hO.setHidW q y.1 y.2.1 y.2.2 (y.2.2 + 1) hU
                rw [upTo_succ Q lo q 1 hq1 y hy, ← hsl] at this
                exact this
              have hne : bg ≠ gg := fun e => by
                subst e
                rcases ho2.2 with ⟨e, h0⟩ | ⟨gx, cx, cur, e, _, hh, _⟩
                · cases e
                · cases e
                  rw [hG2] at hh
                  simp at hh
              have hG3 : (wr.setCell ⟨gg, q * 4 + 3, none⟩ (.int .i64 (y.2.2 + 1))).heap[bg]? = some (Obj.cells #[.int .i64 lo, .int .i64 hi'] 85) := (Below.heap_setCell _ _ _ _ (by simp only; exact hne)).trans hG2
              have hb3 : Below W0.heap.size W0 (wr.setCell ⟨gg, q * 4 + 3, none⟩ (.int .i64 (y.2.2 + 1))) := hb2.setCell (p := ⟨gg, q * 4 + 3, none⟩) hBg _
              have HSET : Hid (OwnF cellW 4 78 (wr.setCell ⟨gg, q * 4 + 3, none⟩ (.int .i64 (y.2.2 + 1))) W0.heap.size (.slice (some ⟨gg, 0, none⟩) m vc) (upTo Q lo (q + 1) 1)) := hset
              have hkn : q < m := by omega
              have hqi : (q : Int) < (hi' : Int) := by omega
              have hqm : (q : Int) < (m : Int) := by omega
              have ew : IntKind.i64.wrap (y.2.2 + 1) = y.2.2 + 1 := IntWalk.i64_in _ (by omega)
              clear hset hc' hx' hfz hQ hy hU ho2 hsl hulen hne
              go_wp2_with fail
              go_roundw
              case rel => exact ⟨q + 1, by omega, by omega, by go_num, HSET.out, hG3, hb3⟩
              case measure => simp [RowKit.intOf]; omega
            · obtain rfl : q = hi' := by omega
              have hq2 : ¬ (q : Int) < (q : Int) := by omega
              go_wp2_with fail
              go_roundw
              case rel => exact ⟨0 + 1, by omega, by go_num, by rw [HSN.out]; exact ho2, by rw [HSN.out]; have := HSM.out.up lo q (by omega) (by omega) (by_ := 1); rw [show (4194304 : Int) + ((0 + 1 : Nat) : Int) = 4194304 + ((0 : Nat) : Int) + 1 by omega]; exact this, hb2⟩
              case measure => simp [RowKit.intOf]; omega
        | succ i' =>
          have p1 := HP.out i' rfl _ hbW
          have pv := HPV.out i' rfl
          generalize (l.getD i' (0, 0)).2 = ph at *
          have t5 : decide ((lo : Int) ≤ ph) = false := decide_eq_false (by omega)
          have e5 : IntKind.i64.wrap (((i' + 1 : Nat) : Int) - 1) = (i' : Int) := by rw [show (((i' + 1 : Nat) : Int) - 1) = (i' : Int) by omega]; exact IntWalk.i64_in _ (by omega)
          have i2 : (0 : Int) < ((i' + 1 : Nat) : Int) := by omega
          have i3 : (i' : Int) < (m2 : Int) := by omega
          have i4 : (0 : Int) ≤ (i' : Int) := by omega
          go_wp2_with fail
          go_quiet (fail)
          go_wp2_with fail
          generalize hbg : wr.heap.size = bg at *
          have hbg1 : W0.heap.size ≤ bg := by omega
          clear hbg
          go_loopw [11] (fun vq w2 => ∃ q : Nat, lo ≤ q ∧ q ≤ hi' ∧ vq = .int .i64 (q : Int) ∧ OwnF cellW 4 78 w2 W0.heap.size (.slice va m vc) (upTo Q lo q 1) ∧ w2.heap[bg]? = some (Obj.cells #[.int .i64 lo, .int .i64 hi'] 85) ∧ Below W0.heap.size W0 w2) (fun vq _ => hi' - (RowKit.intOf vq).toNat)
          case atStart => exact ⟨lo, Nat.le_refl _, by omega, rfl, by rw [upTo_self]; exact HO1.out, hG, below_drewN hbX _⟩
          case round =>
            obtain ⟨q, hq1, hq2, rfl, ho2, hG2, hb2⟩ := hrel
            have d0 : wr.cell? ⟨bg, 0, none⟩ = some (.int .i64 lo) := by rw [Lib.cell_of_heap hG2]; rfl
            have d1 : wr.cell? ⟨bg, 1, none⟩ = some (.int .i64 hi') := by rw [Lib.cell_of_heap hG2]; rfl
            by_cases hq : q < hi'
            · have hQ : Q[q]? = some Q[q] := List.getElem?_eq_getElem (by omega)
              obtain ⟨y, hy⟩ : ∃ y, Q[q]? = some y := ⟨_, hQ⟩
              have hU : (upTo Q lo q 1)[q]? = some (y.1, y.2.1, y.2.2) := by rw [upTo_get, hy]; simp only [Option.map_some]; rw [if_neg (by omega)]
              have hys := HSM.out y (List.mem_of_getElem? hy)
              have hulen := upTo_len Q lo q 1
              obtain ⟨gg, cc, e, hBg, hgg, hroom1, hroom2, hfz⟩ := ho2.ptr (by omega)
              have hsl : m = (upTo Q lo q 1).length := by omega
              simp only [Value.slice.injEq] at e
              obtain ⟨rfl, _, rfl⟩ := e
              obtain ⟨g', off', x', ha', _, hx', hc'⟩ := (ho2.rw_ layW).at q (by omega)
              cases ha'
              have e1 : wr.cell? ⟨gg, q * 4 + 3, none⟩ = some (.int .i64 y.2.2) := by
                rw [hU] at hx'; cases hx'
                have := hc' 3 _ rfl
                rwa [Nat.zero_add] at this
              have f1 := hfz (q * 4 + 3)
              have hset : OwnF cellW 4 78 (wr.setCell ⟨gg, q * 4 + 3, none⟩ (.int .i64 (y.2.2 + 1))) W0.heap.size (.slice (some ⟨gg, 0, none⟩) m vc) (upTo Q lo (q + 1) 1) := by
                have hO : OwnF cellW 4 78 wr W0.heap.size (.slice (some ⟨gg, 0, none⟩) (upTo Q lo q 1).length vc) (upTo Q lo q 1) := by rw [← hsl]; exact ho2
                have := hO.setHidW q y.1 y.2.1 y.2.2 (y.2.2 + 1) hU
                rw [upTo_succ Q lo q 1 hq1 y hy, ← hsl] at this
                exact this
              have hne : bg ≠ gg := fun e => by
                subst e
                rcases ho2.2 with ⟨e, h0⟩ | ⟨gx, cx, cur, e, _, hh, _⟩
                · cases e
                · cases e
                  rw [hG2] at hh
                  simp at hh
              have hG3 : (wr.setCell ⟨gg, q * 4 + 3, none⟩ (.int .i64 (y.2.2 + 1))).heap[bg]? = some (Obj.cells #[.int .i64 lo, .int .i64 hi'] 85) := (Below.heap_setCell _ _ _ _ (by simp only; exact hne)).trans hG2
              have hb3 : Below W0.heap.size W0 (wr.setCell ⟨gg, q * 4 + 3, none⟩ (.int .i64 (y.2.2 + 1))) := hb2.setCell (p := ⟨gg, q * 4 + 3, none⟩) hBg _
              have HSET : Hid (OwnF cellW 4 78 (wr.setCell ⟨gg, q * 4 + 3, none⟩ (.int .i64 (y.2.2 + 1))) W0.heap.size (.slice (some ⟨gg, 0, none⟩) m vc) (upTo Q lo (q + 1) 1)) := hset
              have hkn : q < m := by omega
              have hqi : (q : Int) < (hi' : Int) := by omega
              have hqm : (q : Int) < (m : Int) := by omega
              have ew : IntKind.i64.wrap (y.2.2 + 1) = y.2.2 + 1 := IntWalk.i64_in _ (by omega)
              clear hset hc' hx' hfz hQ hy hU ho2 hsl hulen hne
              go_wp2_with fail
              go_roundw
              case rel => exact ⟨q + 1, by omega, by omega, by go_num, HSET.out, hG3, hb3⟩
              case measure => simp [RowKit.intOf]; omega
            · obtain rfl : q = hi' := by omega
              have hq2 : ¬ (q : Int) < (q : Int) := by omega
              go_wp2_with fail
              go_roundw
              case rel => exact ⟨(i' + 1) + 1, by omega, by go_num, by rw [HSN.out]; exact ho2, by rw [HSN.out]; have := HSM.out.up lo q (by omega) (by omega) (by_ := 1); rw [show (4194304 : Int) + (((i' + 1) + 1 : Nat) : Int) = 4194304 + (((i' + 1) : Nat) : Int) + 1 by omega]; exact this, hb2⟩
              case measure => simp [RowKit.intOf]; omega
      · obtain rfl : i = m2 := by omega
        rw [show l.take i = l from List.take_of_length_le (by omega)] at ho
        have i2 : (0 : Int) < (i : Int) := by omega
        have i3 : decide ((i : Int) < (i : Int)) = false := decide_eq_false (by omega)
        have HO : Hid (OwnF cellW 4 78 wr w.heap.size (.slice va m vc) (upAll R l 1)) := ho.mono hB0.size
        clear ho hsm
        go_wp2_with fail
        go_quiet (fail)
        go_wp2_with fail
        go_ret2
        exact ⟨_, rfl, HO.out, below_drewN hbw _⟩
  · go_loopw [9, 10, 11] (fun vi vg vq W => ∃ i : Nat, i ≤ m2 ∧ vi = .int .i64 (i : Int) ∧ OwnF cellW 4 78 W W0.heap.size (.slice va m vc) (upAll R (l.take i) (-1)) ∧ Small (4194304 + (i : Int)) (upAll R (l.take i) (-1)) ∧ Below W0.heap.size W0 W) (fun vi _ _ _ => m2 - (RowKit.intOf vi).toNat)
    case atStart => exact ⟨0, Nat.zero_le _, rfl, ho1, by simpa [upAll] using HS.out, hb1⟩
    case round =>
      obtain ⟨i, hi, rfl, ho, hsm, hb⟩ := hrel
      have hsz := hb.size
      clear ho1 hb1 hX1 HS
      have hX1 := (hb.block _ alt).trans hX
      have hbw : Below w.heap.size w wr := hB0.trans (hb.mono hB0.size)
      obtain ⟨bk0, bk1, bk2, bk3, bk4, bk5, bk6, bk7, bk8⟩ := box9 hX1
      by_cases hlt : i < m2
      · obtain ⟨g, off, rfl, hg, hc0, hc1⟩ := HL.out.cells i hlt
        have HP : Hid (∀ i' : Nat, i = i' + 1 → ∀ W, Below w.heap.size w W → W.cell? ⟨g, off + i' * 2 + 1, none⟩ = some (.int .i64 (l.getD i' (0, 0)).2)) := fun i' e W hW => by
          obtain ⟨g2, off2, e2, hg2, _, hd1⟩ := HL.out.cells i' (by omega)
          cases e2
          exact (hW.cell (p := ⟨g, off + i' * 2 + 1, none⟩) hg2).trans hd1
        have hil : i < l.length := by omega
        have hmem : l.getD i (0, 0) ∈ l := by rw [List.getD_eq_getElem?_getD, List.getElem?_eq_getElem hil]; exact List.getElem_mem hil
        obtain ⟨hr1, hr2, hr3⟩ := HIN.out _ hmem
        have hsn : upAll R (l.take (i + 1)) (-1) = upTo (upAll R (l.take i) (-1)) (l.getD i (0, 0)).1.toNat (l.getD i (0, 0)).2.toNat (-1) := by rw [take_snoc_getD l i hil, upAll_snoc]
        have hpv : ∀ i' : Nat, i = i' + 1 → (l.getD i' (0, 0)).2 < (l.getD i (0, 0)).1 := fun i' e => by have := HN.out i' (by omega); rw [← e] at this; exact this
        have hul := upAll_len (l.take i) (-1) R
        generalize upAll R (l.take i) (-1) = Q at *
        obtain ⟨lo, hlo⟩ : ∃ lo : Nat, (l.getD i (0, 0)).1 = (lo : Int) := ⟨(l.getD i (0, 0)).1.toNat, by omega⟩
        obtain ⟨hi', hhi⟩ : ∃ hi' : Nat, (l.getD i (0, 0)).2 = (hi' : Int) := ⟨(l.getD i (0, 0)).2.toNat, by omega⟩
        rw [hlo, hhi] at hsn hr2
        rw [hlo] at hc0 hr1 hpv
        rw [hhi] at hc1 hr3
        rw [Int.toNat_natCast, Int.toNat_natCast] at hsn
        have HSN : Hid (upAll R (l.take (i + 1)) (-1) = upTo Q lo hi' (-1)) := hsn
        have HPV : Hid (∀ i' : Nat, i = i' + 1 → (l.getD i' (0, 0)).2 < (lo : Int)) := hpv
        have HSM : Hid (Small (4194304 + (i : Int)) Q) := hsm
        have c0 := (hbw.cell (p := ⟨g, off + i * 2, none⟩) hg).trans hc0
        have c1 := (hbw.cell (p := ⟨g, off + i * 2 + 1, none⟩) hg).trans hc1
        have HO : Hid (OwnF cellW 4 78 wr W0.heap.size (.slice va m vc) Q) := ho
        obtain ⟨W1, hW1⟩ : ∃ W1, wr.alloc (Obj.cells #[.int .i64 lo, .int .i64 hi'] 85) = W1 := ⟨_, rfl⟩
        have h11 : Below wr.heap.size wr W1 := by rw [← hW1]; exact (Below.refl _ _).alloc (Nat.le_refl _) _
        have hG : W1.heap[wr.heap.size]? = some (Obj.cells #[.int .i64 lo, .int .i64 hi'] 85) := by rw [← hW1]; exact alloc_last _ _ _ rfl
        have g0 : W1.cell? ⟨wr.heap.size, 0, none⟩ = some (.int .i64 lo) := by rw [Lib.cell_of_heap hG]; rfl
        have g1 : W1.cell? ⟨wr.heap.size, 1, none⟩ = some (.int .i64 hi') := by rw [Lib.cell_of_heap hG]; rfl
        have b5 : W1.cell? ⟨w.heap.size, 5, none⟩ = some (.slice (some ⟨g, off, none⟩) m2 cap2) := (h11.cell (p := ⟨w.heap.size, 5, none⟩) (by simp only; omega)).trans bk5
        have hbW : Below w.heap.size w W1 := hbw.trans (h11.mono hbw.size)
        have hbX : Below W0.heap.size W0 W1 := hb.trans (h11.mono hb.size)
        have HO1 : Hid (OwnF cellW 4 78 W1 W0.heap.size (.slice va m vc) Q) := HO.out.below h11
        have t1 : decide ((lo : Int) < 0) = false := decide_eq_false (by omega)
        have t2 : decide ((hi' : Int) ≤ (lo : Int)) = false := decide_eq_false (by omega)
        have t3 : decide ((m : Int) < (hi' : Int)) = false := decide_eq_false (by omega)
        have t2' : decide (hi' ≤ lo) = false := decide_eq_false (by omega)
        have t3' : decide (m < hi') = false := decide_eq_false (by omega)
        have i0 : (0 : Int) ≤ (i : Int) := by omega
        have i1 : (i : Int) < (m2 : Int) := by omega
        clear hc0 hc1 hsn hpv hsm ho HO hmem hil
        cases i with
        | zero =>
          simp only [Nat.zero_mul, Nat.add_zero] at c0 c1
          go_wp2_with fail
          go_quiet (fail)
          go_wp2_with fail
          generalize hbg : wr.heap.size = bg at *
          have hbg1 : W0.heap.size ≤ bg := by omega
          clear hbg
          go_loopw [11] (fun vq w2 => ∃ q : Nat, lo ≤ q ∧ q ≤ hi' ∧ vq = .int .i64 (q : Int) ∧ OwnF cellW 4 78 w2 W0.heap.size (.slice va m vc) (upTo Q lo q (-1)) ∧ w2.heap[bg]? = some (Obj.cells #[.int .i64 lo, .int .i64 hi'] 85) ∧ Below W0.heap.size W0 w2) (fun vq _ => hi' - (RowKit.intOf vq).toNat)
          case atStart => exact ⟨lo, Nat.le_refl _, by omega, rfl, by rw [upTo_self]; exact HO1.out, hG, below_drewN hbX _⟩
          case round =>
            obtain ⟨q, hq1, hq2, rfl, ho2, hG2, hb2⟩ := hrel
            have d0 : wr.cell? ⟨bg, 0, none⟩ = some (.int .i64 lo) := by rw [Lib.cell_of_heap hG2]; rfl
            have d1 : wr.cell? ⟨bg, 1, none⟩ = some (.int .i64 hi') := by rw [Lib.cell_of_heap hG2]; rfl
            by_cases hq : q < hi'
            · have hQ : Q[q]? = some Q[q] := List.getElem?_eq_getElem (by omega)
              obtain ⟨y, hy⟩ : ∃ y, Q[q]? = some y := ⟨_, hQ⟩
              have hU : (upTo Q lo q (-1))[q]? = some (y.1, y.2.1, y.2.2) := by rw [upTo_get, hy]; simp only [Option.map_some]; rw [if_neg (by omega)]
              have hys := HSM.out y (List.mem_of_getElem? hy)
              have hulen := upTo_len Q lo q (-1)
              obtain ⟨gg, cc, e, hBg, hgg, hroom1, hroom2, hfz⟩ := ho2.ptr (by omega)
              have hsl : m = (upTo Q lo q (-1)).length := by omega
              simp only [Value.slice.injEq] at e
              obtain ⟨rfl, _, rfl⟩ := e
              obtain ⟨g', off', x', ha', _, hx', hc'⟩ := (ho2.rw_ layW).at q (by omega)
              cases ha'
              have e1 : wr.cell? ⟨gg, q * 4 + 3, none⟩ = some (.int .i64 y.2.2) := by
                rw [hU] at hx'; cases hx'
                have := hc' 3 _ rfl
                rwa [Nat.zero_add] at this
              have f1 := hfz (q * 4 + 3)
              have hset : OwnF cellW 4 78 (wr.setCell ⟨gg, q * 4 + 3, none⟩ (.int .i64 (y.2.2 + (-1)))) W0.heap.size (.slice (some ⟨gg, 0, none⟩) m vc) (upTo Q lo (q + 1) (-1)) := by
                have hO : OwnF cellW 4 78 wr W0.heap.size (.slice (some ⟨gg, 0, none⟩) (upTo Q lo q (-1)).length vc) (upTo Q lo q (-1)) := by rw [← hsl]; exact ho2
                have := hO.setHidW q y.1 y.2.1 y.2.2 (y.2.2 + (-1)) hU
                rw [upTo_succ Q lo q (-1) hq1 y hy, ← hsl] at this
                exact this
              have hne : bg ≠ gg := fun e => by
                subst e
                rcases ho2.2 with ⟨e, h0⟩ | ⟨gx, cx, cur, e, _, hh, _⟩
                · cases e
                · cases e
                  rw [hG2] at hh
                  simp at hh
              have hG3 : (wr.setCell ⟨gg, q * 4 + 3, none⟩ (.int .i64 (y.2.2 + (-1)))).heap[bg]? = some (Obj.cells #[.int .i64 lo, .int .i64 hi'] 85) := (Below.heap_setCell _ _ _ _ (by simp only; exact hne)).trans hG2
              have hb3 : Below W0.heap.size W0 (wr.setCell ⟨gg, q * 4 + 3, none⟩ (.int .i64 (y.2.2 + (-1)))) := hb2.setCell (p := ⟨gg, q * 4 + 3, none⟩) hBg _
              have HSET : Hid (OwnF cellW 4 78 (wr.setCell ⟨gg, q * 4 + 3, none⟩ (.int .i64 (y.2.2 + (-1)))) W0.heap.size (.slice (some ⟨gg, 0, none⟩) m vc) (upTo Q lo (q + 1) (-1))) := hset
              have hkn : q < m := by omega
              have hqi : (q : Int) < (hi' : Int) := by omega
              have hqm : (q : Int) < (m : Int) := by omega
              have ew : IntKind.i64.wrap (y.2.2 + (-1)) = y.2.2 + (-1) := IntWalk.i64_in _ (by omega)
              clear hset hc' hx' hfz hQ hy hU ho2 hsl hulen hne
              go_wp2_with fail
              go_roundw
              case rel => exact ⟨q + 1, by omega, by omega, by go_num, HSET.out, hG3, hb3⟩
              case measure => simp [RowKit.intOf]; omega
            · obtain rfl : q = hi' := by omega
              have hq2 : ¬ (q : Int) < (q : Int) := by omega
              go_wp2_with fail
              go_roundw
              case rel => exact ⟨0 + 1, by omega, by go_num, by rw [HSN.out]; exact ho2, by rw [HSN.out]; have := HSM.out.up lo q (by omega) (by omega) (by_ := (-1)); rw [show (4194304 : Int) + ((0 + 1 : Nat) : Int) = 4194304 + ((0 : Nat) : Int) + 1 by omega]; exact this, hb2⟩
              case measure => simp [RowKit.intOf]; omega
        | succ i' =>
          have p1 := HP.out i' rfl _ hbW
          have pv := HPV.out i' rfl
          generalize (l.getD i' (0, 0)).2 = ph at *
          have t5 : decide ((lo : Int) ≤ ph) = false := decide_eq_false (by omega)
          have e5 : IntKind.i64.wrap (((i' + 1 : Nat) : Int) - 1) = (i' : Int) := by rw [show (((i' + 1 : Nat) : Int) - 1) = (i' : Int) by omega]; exact IntWalk.i64_in _ (by omega)
          have i2 : (0 : Int) < ((i' + 1 : Nat) : Int) := by omega
          have i3 : (i' : Int) < (m2 : Int) := by omega
          have i4 : (0 : Int) ≤ (i' : Int) := by omega
          go_wp2_with fail
          go_quiet (fail)
          go_wp2_with fail
          generalize hbg : wr.heap.size = bg at *
          have hbg1 : W0.heap.size ≤ bg := by omega
          clear hbg
          go_loopw [11] (fun vq w2 => ∃ q : Nat, lo ≤ q ∧ q ≤ hi' ∧ vq = .int .i64 (q : Int) ∧ OwnF cellW 4 78 w2 W0.heap.size (.slice va m vc) (upTo Q lo q (-1)) ∧ w2.heap[bg]? = some (Obj.cells #[.int .i64 lo, .int .i64 hi'] 85) ∧ Below W0.heap.size W0 w2) (fun vq _ => hi' - (RowKit.intOf vq).toNat)
          case atStart => exact ⟨lo, Nat.le_refl _, by omega, rfl, by rw [upTo_self]; exact HO1.out, hG, below_drewN hbX _⟩
          case round =>
            obtain ⟨q, hq1, hq2, rfl, ho2, hG2, hb2⟩ := hrel
            have d0 : wr.cell? ⟨bg, 0, none⟩ = some (.int .i64 lo) := by rw [Lib.cell_of_heap hG2]; rfl
            have d1 : wr.cell? ⟨bg, 1, none⟩ = some (.int .i64 hi') := by rw [Lib.cell_of_heap hG2]; rfl
            by_cases hq : q < hi'
            · have hQ : Q[q]? = some Q[q] := List.getElem?_eq_getElem (by omega)
              obtain ⟨y, hy⟩ : ∃ y, Q[q]? = some y := ⟨_, hQ⟩
              have hU : (upTo Q lo q (-1))[q]? = some (y.1, y.2.1, y.2.2) := by rw [upTo_get, hy]; simp only [Option.map_some]; rw [if_neg (by omega)]
              have hys := HSM.out y (List.mem_of_getElem? hy)
              have hulen := upTo_len Q lo q (-1)
              obtain ⟨gg, cc, e, hBg, hgg, hroom1, hroom2, hfz⟩ := ho2.ptr (by omega)
              have hsl : m = (upTo Q lo q (-1)).length := by omega
              simp only [Value.slice.injEq] at e
              obtain ⟨rfl, _, rfl⟩ := e
              obtain ⟨g', off', x', ha', _, hx', hc'⟩ := (ho2.rw_ layW).at q (by omega)
              cases ha'
              have e1 : wr.cell? ⟨gg, q * 4 + 3, none⟩ = some (.int .i64 y.2.2) := by
                rw [hU] at hx'; cases hx'
                have := hc' 3 _ rfl
                rwa [Nat.zero_add] at this
              have f1 := hfz (q * 4 + 3)
              have hset : OwnF cellW 4 78 (wr.setCell ⟨gg, q * 4 + 3, none⟩ (.int .i64 (y.2.2 + (-1)))) W0.heap.size (.slice (some ⟨gg, 0, none⟩) m vc) (upTo Q lo (q + 1) (-1)) := by
                have hO : OwnF cellW 4 78 wr W0.heap.size (.slice (some ⟨gg, 0, none⟩) (upTo Q lo q (-1)).length vc) (upTo Q lo q (-1)) := by rw [← hsl]; exact ho2
                have := hO.setHidW q y.1 y.2.1 y.2.2 (y.2.2 + (-1)) hU
                rw [upTo_succ Q lo q (-1) hq1 y hy, ← hsl] at this
                exact this
              have hne : bg ≠ gg := fun e => by
                subst e
                rcases ho2.2 with ⟨e, h0⟩ | ⟨gx, cx, cur, e, _, hh, _⟩
                · cases e
                · cases e
                  rw [hG2] at hh
                  simp at hh
              have hG3 : (wr.setCell ⟨gg, q * 4 + 3, none⟩ (.int .i64 (y.2.2 + (-1)))).heap[bg]? = some (Obj.cells #[.int .i64 lo, .int .i64 hi'] 85) := (Below.heap_setCell _ _ _ _ (by simp only; exact hne)).trans hG2
              have hb3 : Below W0.heap.size W0 (wr.setCell ⟨gg, q * 4 + 3, none⟩ (.int .i64 (y.2.2 + (-1)))) := hb2.setCell (p := ⟨gg, q * 4 + 3, none⟩) hBg _
              have HSET : Hid (OwnF cellW 4 78 (wr.setCell ⟨gg, q * 4 + 3, none⟩ (.int .i64 (y.2.2 + (-1)))) W0.heap.size (.slice (some ⟨gg, 0, none⟩) m vc) (upTo Q lo (q + 1) (-1))) := hset
              have hkn : q < m := by omega
              have hqi : (q : Int) < (hi' : Int) := by omega
              have hqm : (q : Int) < (m : Int) := by omega
              have ew : IntKind.i64.wrap (y.2.2 + (-1)) = y.2.2 + (-1) := IntWalk.i64_in _ (by omega)
              clear hset hc' hx' hfz hQ hy hU ho2 hsl hulen hne
              go_wp2_with fail
              go_roundw
              case rel => exact ⟨q + 1, by omega, by omega, by go_num, HSET.out, hG3, hb3⟩
              case measure => simp [RowKit.intOf]; omega
            · obtain rfl : q = hi' := by omega
              have hq2 : ¬ (q : Int) < (q : Int) := by omega
              go_wp2_with fail
              go_roundw
              case rel => exact ⟨(i' + 1) + 1, by omega, by go_num, by rw [HSN.out]; exact ho2, by rw [HSN.out]; have := HSM.out.up lo q (by omega) (by omega) (by_ := (-1)); rw [show (4194304 : Int) + (((i' + 1) + 1 : Nat) : Int) = 4194304 + (((i' + 1) : Nat) : Int) + 1 by omega]; exact this, hb2⟩
              case measure => simp [RowKit.intOf]; omega
      · obtain rfl : i = m2 := by omega
        rw [show l.take i = l from List.take_of_length_le (by omega)] at ho
        have i2 : (0 : Int) < (i : Int) := by omega
        have i3 : decide ((i : Int) < (i : Int)) = false := decide_eq_false (by omega)
        have HO : Hid (OwnF cellW 4 78 wr w.heap.size (.slice va m vc) (upAll R l (-1))) := ho.mono hB0.size
        clear ho hsm
        go_wp2_with fail
        go_quiet (fail)
        go_wp2_with fail
        go_ret2
        exact ⟨_, rfl, HO.out, below_drewN hbw _⟩
end Go.Proofs.YtlebbffpbbjakaaDoor

namespace Go.Proofs.YtlebbffpbbjakaaDoor
open Go.RowKit Go.Lib
set_option maxRecDepth 100000

set_option maxHeartbeats 4000000 in
theorem does_st {c n p : Int} {s : ByteArray} {l : List (Int × Int)} {tc tn : Int} {on : Bool} {w : World} {a : Option Addr} {m cap : Nat} {R : List CellW} (h : Rw cellW 4 w a m cap R) (hm : m ≤ 1000) {a2 : Option Addr} {m2 cap2 : Nat} :
    Calls Tryd.prog 46 #[.slice a m cap, opVal ⟨c, n, 4, p, s, l, tc, tn, on⟩ (.slice a2 m2 cap2)] w fun e w' => ∃ v, e = .returned (.tuple #[v, .bool true]) ∧ OwnF cellW 4 78 w' w.heap.size v R ∧ Below w.heap.size w w' := by
  simp only [opVal] at *
  obtain ⟨W0, hW0⟩ : ∃ W0, w.alloc (Obj.cells #[.int .i64 c, .int .i64 n, .int .i64 4, .int .i64 p, .string s, .slice a2 m2 cap2, .int .i64 tc, .int .i64 tn, .bool on] 42) = W0 := ⟨_, rfl⟩
  have hX : W0.heap[w.heap.size]? = some (Obj.cells #[.int .i64 c, .int .i64 n, .int .i64 4, .int .i64 p, .string s, .slice a2 m2 cap2, .int .i64 tc, .int .i64 tn, .bool on] 42) := by rw [← hW0]; exact alloc_last _ _ _ rfl
  have hB0 : Below w.heap.size w W0 := by rw [← hW0]; exact (Below.refl w.heap.size w).alloc (Nat.le_refl _) _
  have alt : w.heap.size < W0.heap.size := (Array.getElem?_eq_some_iff.1 hX).1
  obtain ⟨va, vc, w1, hr1, ho1, hb1, _⟩ := appendF_all kindW layW (ownF_nil (f := cellW) (k := 4) (T := 78) W0 W0.heap.size) (Nat.le_refl _) (h.below hB0) (by simp; omega) (by simp; omega) 44
  simp only [List.length_nil, List.nil_append, Nat.zero_add] at hr1 ho1
  have HO : Hid (OwnF cellW 4 78 w1 w.heap.size (.slice va m vc) R) := ho1.mono hB0.size
  have hB1 := hB0.trans (hb1.mono hB0.size)
  have hX1 := (hb1.block _ alt).trans hX
  clear h ho1 hb1 hX
  obtain ⟨bk0, bk1, bk2, bk3, bk4, bk5, bk6, bk7, bk8⟩ := box9 hX1
  go_enter Tryd.func46, Tryd.ntmps46
  go_wp2_with (at_builtin; refine wpList_append_hr rfl _ _ 44 rfl _ _ rfl rfl hr1 ?_)
  go_quiet (fail)
  go_wp2_with fail
  go_ret2
  exact ⟨_, rfl, HO.out, below_drewN hB1 _⟩

/-- What an operation makes of a row. -/
def doesV (R : List CellW) (o : OpV) : List CellW := if o.k = 1 then insL R o.p.toNat (newL o.c o.n (wdL o)) else if o.k = 4 then R else upAll R o.l (byP o.k)
/-- It stands there. -/
structure DoesOk (R : List CellW) (o : OpV) : Prop where
  size : o.s.size ≤ 1000
  kind : (o.k = 1 ∧ 0 ≤ o.p ∧ o.p ≤ R.length) ∨ o.k = 4 ∨ ((o.k = 2 ∨ o.k = 3) ∧ o.l ≠ [] ∧ Sp.Norm (-1) o.l ∧ (∀ r ∈ o.l, 0 ≤ r.1 ∧ r.1 < r.2 ∧ r.2 ≤ (R.length : Int)) ∧ o.l.length ≤ 1000000 ∧ Small 4194304 R)
theorem does_any {o : OpV} {w : World} {a : Option Addr} {m cap : Nat} {R : List CellW} (h : Rw cellW 4 w a m cap R) (hm : m ≤ 1000) {a2 : Option Addr} {m2 cap2 : Nat} (hl : Sp.Rng w a2 m2 cap2 o.l) (ok : DoesOk R o) :
    Calls Tryd.prog 46 #[.slice a m cap, opVal o (.slice a2 m2 cap2)] w fun e w' => ∃ v, e = .returned (.tuple #[v, .bool true]) ∧ OwnF cellW 4 78 w' w.heap.size v (doesV R o) ∧ Below w.heap.size w w' := by
  have hln := h.len
  have hll := hl.len
  obtain ⟨hsz, h1 | h4 | ⟨hk, hne, hN, hin, hfew, hS⟩⟩ := ok
  · obtain ⟨e, p0, p1⟩ := h1
    obtain ⟨pn, hpn⟩ : ∃ pn : Nat, o.p = (pn : Int) := ⟨o.p.toNat, by omega⟩
    have e1 : doesV R o = insL R pn (newL o.c o.n (lawW o.s o.s.size)) := by unfold doesV wdL; rw [if_pos e, if_pos e, hpn, Int.toNat_natCast]
    rw [e1]
    obtain ⟨c, n, k, p, s, l, tc, tn, on⟩ := o
    simp only at e hpn hsz
    subst e hpn
    exact does_ins h hm (by simp only at p1; omega) hsz
  · have e1 : doesV R o = R := by unfold doesV; rw [if_neg (by omega), if_pos h4]
    rw [e1]
    obtain ⟨c, n, k, p, s, l, tc, tn, on⟩ := o
    simp only at h4
    subst h4
    exact does_st h hm
  · have e1 : doesV R o = upAll R o.l (byP o.k) := by unfold doesV; rw [if_neg (by omega), if_neg (by omega)]
    rw [e1]
    obtain ⟨c, n, k, p, s, l, tc, tn, on⟩ := o
    rw [hln] at hin
    exact does_rng h hm hl (by omega) hk hne hN hin hS
def foldV (R : List CellW) (L : List OpV) : List CellW := L.foldl doesV R
/-- All stand where they come. -/
def FoldOk (R : List CellW) (L : List OpV) : Prop := ∀ i x, L[i]? = some x → DoesOk (foldV R (L.take i)) x ∧ (foldV R (L.take i)).length ≤ 1000
theorem foldV_next (R : List CellW) (L : List OpV) (i : Nat) (x : OpV) (h : L[i]? = some x) : foldV R (L.take (i + 1)) = doesV (foldV R (L.take i)) x := by
  obtain ⟨hi, rfl⟩ := List.getElem?_eq_some_iff.1 h
  unfold foldV
  rw [List.take_succ_eq_append_getElem hi, List.foldl_append]
  rfl
set_option maxHeartbeats 4000000 in
theorem fold_any {w : World} {a : Option Addr} {m cap : Nat} {R : List CellW} (h : Rw cellW 4 w a m cap R) {b : Option Addr} {n capb : Nat} {L : List OpM} (hL : Rw opF 9 w b n capb L) (hO : OkOps w L) (ok : FoldOk R (L.map (·.1))) :
    Calls Tryd.prog 39 #[.slice a m cap, .slice b n capb] w fun e w' => ∃ a' m' cap', e = .returned (.tuple #[.slice a' m' cap', .bool true]) ∧ Rw cellW 4 w' a' m' cap' (foldV R (L.map (·.1))) ∧ Below w.heap.size w w' := by
  have hln := hL.len
  have hnb : n ≤ 9223372036854775807 := by have := hL.room; simp only [maxLen] at this; omega
  have HL : Hid (Rw opF 9 w b n capb L) := hL
  have HO : Hid (OkOps w L) := hO
  have HK : Hid (FoldOk R (L.map (·.1))) := ok
  have HR : Hid (Rw cellW 4 w a m cap R) := h
  clear hL hO ok h
  go_enter Tryd.func39, Tryd.ntmps39
  go_wp2_with fail
  go_loopw [0, 6, 7, 8] (fun v0 vi v7 v8 W => ∃ (j : Nat) (a' : Option Addr) (m' cap' : Nat), j ≤ n ∧ vi = .int .i64 j ∧ v0 = .slice a' m' cap' ∧ Hid (Rw cellW 4 W a' m' cap' (foldV R ((L.map (·.1)).take j))) ∧ Below w.heap.size w W) (fun _ vi _ _ _ => n - (RowKit.intOf vi).toNat)
  case atStart => exact ⟨0, a, m, cap, Nat.zero_le _, rfl, rfl, HR, Below.refl _ _⟩
  case round =>
    obtain ⟨j, a', m', cap', hj, rfl, rfl, hr, hb⟩ := hrel
    by_cases hlt : j < n
    · obtain ⟨g, off, x, rfl, hg, hx, c0, c1, c2, c3, c4, c5, c6, c7, c8⟩ := HL.out.at9 hb j hlt
      have hxm : (L.map (·.1))[j]? = some x.1 := by rw [List.getElem?_map, hx]; rfl
      have hnx := foldV_next R (L.map (·.1)) j x.1 hxm
      obtain ⟨hok, hlen⟩ := HK.out j x.1 hxm
      have hrl := hr.out.len
      have HC := does_any hr.out (by omega) (((HO.out x (List.mem_of_getElem? hx)).1).below hb) hok
      rw [← hnx] at HC
      have HC2 : Hid (Calls Tryd.prog 46 #[.slice a' m' cap', opVal x.1 (.slice x.2.1 x.2.2.1 x.2.2.2)] wr fun e w' => ∃ v, e = .returned (.tuple #[v, .bool true]) ∧ OwnF cellW 4 78 w' wr.heap.size v (foldV R ((L.map (·.1)).take (j + 1))) ∧ Below wr.heap.size wr w') := HC
      clear HC hnx hok hlen hx hxm hr hrl
      obtain ⟨⟨xc, xn, k, p, s, l, tc, tn, on⟩, xa, xm, xcap⟩ := x
      simp only [opVal] at *
      have b1 : (j : Int) < (n : Int) := by omega
      have b0 : (0 : Int) ≤ (j : Int) := by omega
      go_wp2_with fail
      refine HC2.out.mono ?_
      rintro e w2 ⟨v, rfl, ho, hb2⟩
      obtain ⟨va, vc, rfl⟩ := ho.shape
      have hb3 := hb.trans (hb2.mono hb.size)
      have HQ : Hid (Rw cellW 4 w2 va (foldV R ((L.map (·.1)).take (j + 1))).length vc (foldV R ((L.map (·.1)).take (j + 1)))) := ho.rw_ layW
      clear HC2 ho hb2 hb c0 c1 c2 c3 c4 c5 c6 c7 c8
      go_wp2_with fail
      go_roundw
      case rel => exact ⟨j + 1, va, _, vc, by omega, by go_num, rfl, HQ, hb3⟩
      case measure => simp [RowKit.intOf]; omega
    · obtain rfl : j = n := by omega
      have e1 : (L.map (·.1)).take j = L.map (·.1) := List.take_of_length_le (by rw [List.length_map]; omega)
      rw [e1] at hr
      go_wp2_with fail
      go_ret2
      exact ⟨_, _, _, rfl, hr.out, hb⟩
end Go.Proofs.YtlebbffpbbjakaaDoor

namespace Go.Proofs.YtlebbffpbbjakaaDoor
open Go.RowKit Go.Lib
set_option maxRecDepth 100000

/-- ids are compared number by number, at any depth -/
theorem run_eqID2 (w : World) (a b c d : Int) : (Op.equalIn 9999 36 (.agg #[.int .i64 a, .int .i64 b]) (.agg #[.int .i64 c, .int .i64 d])).run Tryd.prog w = .ok (a == c && b == d) w := by
  show (Op.equalIn (9997 + 1 + 1) _ _ _).run _ _ = _
  rw [Op.equalIn]
  simp only [Sem.run_bind, run_underlying Tryd.underlying36, Result.andThen_ok, Tryd.sizeOf3]
  simp [List.range', part, Tryd.isAgg3, Tryd.sizeOf3, run_equalIn_int w _ _ _ _ _ _ Tryd.underlying3, Sem.run_bind, Result.andThen_ok, Sem.run_ite]
  by_cases h1 : a = c <;> by_cases h2 : b = d <;> simp [h1, h2]
theorem run_eqCell (w : World) (a b k h a' b' k' h' : Int) : (Op.equalIn 10000 78 (.agg #[.int .i64 a, .int .i64 b, .int .i64 k, .int .i64 h]) (.agg #[.int .i64 a', .int .i64 b', .int .i64 k', .int .i64 h'])).run Tryd.prog w = .ok ((a == a' && b == b') && k == k' && h == h') w := by
  show (Op.equalIn (9999 + 1) _ _ _).run _ _ = _
  rw [run_equalIn_struct w 9999 78 _ _ (by kernel_rfl) (by kernel_rfl)]
  simp only [Program.fieldsOf, Tryd.underlying78]
  simp [Op.eqFields, part, Tryd.isAgg3, Tryd.sizeOf3, Tryd.isAgg36, Tryd.sizeOf36, run_eqID2, run_equalIn_int w _ _ _ _ _ _ Tryd.underlying3, Sem.run_bind, Result.andThen_ok, Sem.run_ite]
  by_cases h1 : a = a' <;> by_cases h2 : b = b' <;> by_cases h3 : k = k' <;> by_cases h4 : h = h' <;> simp [h1, h2, h3, h4]

set_option maxHeartbeats 4000000 in
theorem equal_any {w : World} {a : Option Addr} {n cap : Nat} {R : List CellW} (h : Rw cellW 4 w a n cap R) {b : Option Addr} {m capb : Nat} {S : List CellW} (hk : Rw cellW 4 w b m capb S) :
    Calls Tryd.prog 40 #[.slice a n cap, .slice b m capb] w fun e w' => e = .returned (.bool (decide (R = S))) ∧ Below w.heap.size w w' := by
  have HG : Tryd.prog.eqGuardType Tryd.prog.depth 78 = false := by kernel_rfl
  have hln := h.len
  have hkn := hk.len
  have hnb : n ≤ 9223372036854775807 := by have := h.room; simp only [maxLen] at this; omega
  by_cases hnm : n = m
  · subst hnm
    obtain ⟨r, hr⟩ : ∃ r, decide (R = S) = r := ⟨_, rfl⟩
    have HR : Hid (decide (R = S) = r) := hr
    rw [hr]
    clear hr
    go_enter Tryd.func40, Tryd.ntmps40
    go_wp2_with fail
    go_loopw [5] (fun i w' => ∃ j : Nat, j ≤ n ∧ i = .int .i64 j ∧ Below w.heap.size w w' ∧ Hid (∀ i, i < j → R[i]? = S[i]?)) (fun i _ => n - (RowKit.intOf i).toNat)
    case atStart => exact ⟨0, Nat.zero_le _, rfl, Below.refl _ _, fun i hi => by omega⟩
    case round =>
      obtain ⟨j, hjn, rfl, hb, HE⟩ := hrel
      by_cases hj : j < n
      · obtain ⟨g, off, x, rfl, hg, hx, hc⟩ := h.at j hj
        obtain ⟨g2, off2, y, rfl, hg2, hy, hc2⟩ := hk.at j hj
        obtain ⟨⟨x0, x1⟩, x2, x3⟩ := x
        obtain ⟨⟨y0, y1⟩, y2, y3⟩ := y
        have c0 := (hb.cell (p := ⟨g, off + j * 4 + 0, none⟩) hg).trans (hc 0 _ rfl)
        have c1 := (hb.cell (p := ⟨g, off + j * 4 + 1, none⟩) hg).trans (hc 1 _ rfl)
        have c2 := (hb.cell (p := ⟨g, off + j * 4 + 2, none⟩) hg).trans (hc 2 _ rfl)
        have c3 := (hb.cell (p := ⟨g, off + j * 4 + 3, none⟩) hg).trans (hc 3 _ rfl)
        have d0 := (hb.cell (p := ⟨g2, off2 + j * 4 + 0, none⟩) hg2).trans (hc2 0 _ rfl)
        have d1 := (hb.cell (p := ⟨g2, off2 + j * 4 + 1, none⟩) hg2).trans (hc2 1 _ rfl)
        have d2 := (hb.cell (p := ⟨g2, off2 + j * 4 + 2, none⟩) hg2).trans (hc2 2 _ rfl)
        have d3 := (hb.cell (p := ⟨g2, off2 + j * 4 + 3, none⟩) hg2).trans (hc2 3 _ rfl)
        simp only [Nat.add_zero] at c0 d0
        have eqc := fun W => run_eqCell W x0 x1 x2 x3 y0 y1 y2 y3
        obtain ⟨q, hq⟩ : ∃ q, ((x0 == y0 && x1 == y1) && x2 == y2 && x3 == y3) = q := ⟨_, rfl⟩
        simp only [hq] at eqc
        have b1 : (j : Int) < (n : Int) := by omega
        have b0 : (0 : Int) ≤ (j : Int) := by omega
        clear hc hc2
        cases q with
        | true =>
          have HE2 : Hid (∀ i, i < j + 1 → R[i]? = S[i]?) := fun i hi => by
            by_cases e : i = j
            · subst e
              rw [hx, hy]
              simp at hq
              obtain ⟨⟨⟨rfl, rfl⟩, rfl⟩, rfl⟩ := hq
              rfl
            · exact HE.out i (by omega)
          clear hq HE hx hy
          go_wp2_with fail
          go_quiet (fail)
          go_wp2_with fail
          go_roundw
          case rel => exact ⟨j + 1, by omega, by go_num, below_drewN hb _, HE2⟩
          case measure => simp [RowKit.intOf]; omega
        | false =>
          have hne : r = false := by
            rw [← HR.out]
            refine decide_eq_false (fun e => ?_)
            rw [e, hy] at hx
            cases hx
            simp at hq
          subst hne
          clear HE HR hq hx hy
          go_wp2_with fail
          go_quiet (fail)
          go_wp2_with fail
          go_ret
          exact ⟨rfl, below_drewN hb _⟩
      · have hr : r = true := by
          rw [← HR.out]
          refine decide_eq_true (List.ext_getElem? fun i => ?_)
          by_cases hi : i < n
          · exact HE.out i (by omega)
          · rw [List.getElem?_eq_none (by omega), List.getElem?_eq_none (by omega)]
        subst hr
        clear HR HE
        go_wp2_with fail
        go_ret
        exact ⟨rfl, hb⟩
  · have e0 : decide (R = S) = false := decide_eq_false (fun e => by subst e; omega)
    rw [e0]
    have t1 : ((n : Int) == (m : Int)) = false := by simp; omega
    clear e0 hln hkn
    go_enter Tryd.func40, Tryd.ntmps40
    go_wp2_with fail
    go_ret
    exact ⟨rfl, Below.refl _ _⟩
end Go.Proofs.YtlebbffpbbjakaaDoor
