import Derived.Shelf.Strconv.Clone
import Derived.Test.YtmdnmhdimfglaaaGreatDoorProg
import Derived.Test.YtmdnmhdimfglaaaGreatDoorGaB
import Derived.Test.YtmdnmhdimfglaaaGreatDoorGaF
import Derived.Test.YtmdnmhdimfglaaaGreatDoorGaE
namespace Go.Proofs
open Go.Shelf
def Tryz.lays316_ren : Go.Shelf.Ren := ⟨fun | 316 => 70 | n => n, fun | 0 => 0 | 3 => 3 | 4 => 4 | 5 => 5 | 9 => 9 | 37 => 115 | 127 => 116 | n => n, fun | n => n⟩
theorem Tryz.lays316 : Go.Proofs.LaysM.n316 Tryz.prog Tryz.lays316_ren := {
  mixed := by kernel_rfl
  f316 := Tryz.func70.trans (congrArg some (by kernel_rfl))
  t0 := Tryz.underlying0
  a0 := Tryz.isAgg0
  z0 := Tryz.sizeOf0
  v0 := Tryz.zeroValue0
  i0 := by kernel_rfl
  t3 := Tryz.underlying3
  a3 := Tryz.isAgg3
  z3 := Tryz.sizeOf3
  v3 := Tryz.zeroValue3
  i3 := by kernel_rfl
  t4 := Tryz.underlying4
  a4 := Tryz.isAgg4
  z4 := Tryz.sizeOf4
  v4 := Tryz.zeroValue4
  i4 := by kernel_rfl
  t5 := Tryz.underlying5
  a5 := Tryz.isAgg5
  z5 := Tryz.sizeOf5
  v5 := Tryz.zeroValue5
  i5 := by kernel_rfl
  t9 := Tryz.underlying9
  a9 := Tryz.isAgg9
  z9 := Tryz.sizeOf9
  v9 := Tryz.zeroValue9
  i9 := by kernel_rfl
  t37 := Tryz.underlying115
  a37 := Tryz.isAgg115
  z37 := Tryz.sizeOf115
  v37 := Tryz.zeroValue115
  i37 := by kernel_rfl
  t127 := Tryz.underlying116
  a127 := Tryz.isAgg116
  z127 := Tryz.sizeOf116
  v127 := Tryz.zeroValue116
  i127 := by kernel_rfl }
open Go.RowKit in
theorem Tryz.clone_any (s : ByteArray) (w : World) (hlim : s.size ≤ 281474976710656) :
    Calls Tryz.prog 70 #[.string s] w fun e w' => e = .returned (.string s) ∧ Below w.heap.size w w' := Any.stringslite_Clone Tryz.lays316 s w hlim
end Go.Proofs

namespace Go.Proofs.YtmdnmhdimfglaaaGreatDoor
open Go.RowKit Go.Lib
open Sp hiding Keeps
set_option maxRecDepth 100000
set_option maxHeartbeats 400000 in
theorem strClone_any (s : ByteArray) (hs : s.size ≤ 281474976710656) (w : World) : Calls Tryz.prog 45 #[.string s] w fun e w' => e = .returned (.string s) ∧ Below w.heap.size w w' := by
  have HC : Hid (∀ w : World, Calls Tryz.prog 70 #[.string s] w fun e w' => e = .returned (.string s) ∧ Below w.heap.size w w') := fun w => Tryz.clone_any s w hs
  go_enter Tryz.func45, Tryz.ntmps45
  go_wp2_with fail
  refine (HC.out _).mono ?_
  rintro e w1 ⟨rfl, hb1⟩
  go_wp2_with fail
  go_ret
  exact ⟨rfl, hb1⟩
set_option maxHeartbeats 2000000 in
theorem opClone_any {o : OpV} {w : World} {a : Option Addr} {m cap : Nat} (h : Rng w a m cap o.l) (hm : m ≤ 1000000000) (hs : o.s.size ≤ 281474976710656) :
    Calls Tryz.prog 20 #[opVal o (.slice a m cap)] w fun e w' => ∃ a' cap', e = .returned (opVal o (.slice a' m cap')) ∧ OwnF rangeV 2 91 w' (w.heap.size + 2) (.slice a' m cap') o.l ∧ Below w.heap.size w w' := by
  have hlen := h.len
  have HS : Hid (∀ w' : World, Calls Tryz.prog 45 #[.string o.s] w' fun e w'' => e = .returned (.string o.s) ∧ Below w'.heap.size w' w'') := fun w' => strClone_any o.s hs w'
  have HR : Hid (∀ w' : World, Below w.heap.size w w' → Calls Tryz.prog 46 #[.slice a m cap] w' fun e w'' => ∃ v, e = .returned v ∧ OwnF rangeV 2 91 w'' w'.heap.size v o.l ∧ Below w'.heap.size w' w'') := fun w' hb => copiedR_any (h.below hb) hm
  clear h hm hs
  obtain ⟨c, n, k, p, s, l, tc, tn, on⟩ := o
  simp only at hlen HS HR
  simp only [opVal]
  have hX : Below w.heap.size w ((w.alloc (Obj.cells #[.int .i64 c, .int .i64 n, .int .i64 k, .int .i64 p, .string s, .slice a m cap, .int .i64 tc, .int .i64 tn, .bool on] 34)).alloc (Obj.cells #[.int .i64 0, .int .i64 0, .int .i64 0, .int .i64 0, .string ⟨#[]⟩, .slice none 0 0, .int .i64 0, .int .i64 0, .bool false] 34)) := ((Below.refl w.heap.size w).alloc (Nat.le_refl _) _).alloc (by simp) _
  have y0 : ((w.alloc (Obj.cells #[.int .i64 c, .int .i64 n, .int .i64 k, .int .i64 p, .string s, .slice a m cap, .int .i64 tc, .int .i64 tn, .bool on] 34)).alloc (Obj.cells #[.int .i64 0, .int .i64 0, .int .i64 0, .int .i64 0, .string ⟨#[]⟩, .slice none 0 0, .int .i64 0, .int .i64 0, .bool false] 34)).heap[w.heap.size]? = some (Obj.cells #[.int .i64 c, .int .i64 n, .int .i64 k, .int .i64 p, .string s, .slice a m cap, .int .i64 tc, .int .i64 tn, .bool on] 34) := (Below.heap_alloc _ _ _ (by simp)).trans (alloc_last _ _ _ rfl)
  have x0 : ((w.alloc (Obj.cells #[.int .i64 c, .int .i64 n, .int .i64 k, .int .i64 p, .string s, .slice a m cap, .int .i64 tc, .int .i64 tn, .bool on] 34)).alloc (Obj.cells #[.int .i64 0, .int .i64 0, .int .i64 0, .int .i64 0, .string ⟨#[]⟩, .slice none 0 0, .int .i64 0, .int .i64 0, .bool false] 34)).heap[w.heap.size + 1]? = some (Obj.cells #[.int .i64 0, .int .i64 0, .int .i64 0, .int .i64 0, .string ⟨#[]⟩, .slice none 0 0, .int .i64 0, .int .i64 0, .bool false] 34) := alloc_last _ _ _ (by simp)
  have hXs : ((w.alloc (Obj.cells #[.int .i64 c, .int .i64 n, .int .i64 k, .int .i64 p, .string s, .slice a m cap, .int .i64 tc, .int .i64 tn, .bool on] 34)).alloc (Obj.cells #[.int .i64 0, .int .i64 0, .int .i64 0, .int .i64 0, .string ⟨#[]⟩, .slice none 0 0, .int .i64 0, .int .i64 0, .bool false] 34)).heap.size = w.heap.size + 2 := by simp
  go_enter Tryz.func20, Tryz.ntmps20
  go_wp2_with fail
  refine (HS.out _).mono ?_
  rintro e w1 ⟨rfl, hb1⟩
  have hB1 := hX.trans (hb1.mono hX.size)
  have x1 := (hb1.block _ (Array.getElem?_eq_some_iff.1 x0).1).trans x0
  have y1 := (hb1.block _ (Array.getElem?_eq_some_iff.1 y0).1).trans y0
  have hs1 : w.heap.size + 2 ≤ w1.heap.size := by have := hb1.size; rw [hXs] at this; exact this
  clear hX x0 y0 hb1 hXs
  have f0 : w1.cell? ⟨w.heap.size, 0, none⟩ = some (.int .i64 c) := by rw [Lib.cell_of_heap y1]; rfl
  have f1 : w1.cell? ⟨w.heap.size, 1, none⟩ = some (.int .i64 n) := by rw [Lib.cell_of_heap y1]; rfl
  have f2 : w1.cell? ⟨w.heap.size, 2, none⟩ = some (.int .i64 k) := by rw [Lib.cell_of_heap y1]; rfl
  have f3 : w1.cell? ⟨w.heap.size, 3, none⟩ = some (.int .i64 p) := by rw [Lib.cell_of_heap y1]; rfl
  have f4 : w1.cell? ⟨w.heap.size, 4, none⟩ = some (.string s) := by rw [Lib.cell_of_heap y1]; rfl
  have fz4 : w1.frozen? ⟨w.heap.size, 4, none⟩ = false := Lib.frozen_of_heap y1 4
  have f5 : w1.cell? ⟨w.heap.size, 5, none⟩ = some (.slice a m cap) := by rw [Lib.cell_of_heap y1]; rfl
  have f6 : w1.cell? ⟨w.heap.size, 6, none⟩ = some (.int .i64 tc) := by rw [Lib.cell_of_heap y1]; rfl
  have f7 : w1.cell? ⟨w.heap.size, 7, none⟩ = some (.int .i64 tn) := by rw [Lib.cell_of_heap y1]; rfl
  have f8 : w1.cell? ⟨w.heap.size, 8, none⟩ = some (.bool on) := by rw [Lib.cell_of_heap y1]; rfl
  have sy : (w1.setCell ⟨w.heap.size, 4, none⟩ (.string s)).heap[w.heap.size]? = some (Obj.cells #[.int .i64 c, .int .i64 n, .int .i64 k, .int .i64 p, .string s, .slice a m cap, .int .i64 tc, .int .i64 tn, .bool on] 34) := (heap_setCell_same _ w.heap.size 4 _ _ _ y1).trans (by simp)
  have sx : (w1.setCell ⟨w.heap.size, 4, none⟩ (.string s)).heap[w.heap.size + 1]? = some (Obj.cells #[.int .i64 0, .int .i64 0, .int .i64 0, .int .i64 0, .string ⟨#[]⟩, .slice none 0 0, .int .i64 0, .int .i64 0, .bool false] 34) := (Below.heap_setCell _ _ _ _ (by simp)).trans x1
  have sB := hB1.setCell (p := ⟨w.heap.size, 4, none⟩) (Nat.le_refl _) (.string s)
  have hs2 : w.heap.size + 2 ≤ (w1.setCell ⟨w.heap.size, 4, none⟩ (.string s)).heap.size := by simpa [World.setCell] using hs1
  go_wp2_with fail
  refine (HR.out _ sB).mono ?_
  rintro e w2 ⟨v, rfl, hown, hb2⟩
  have hB2 := sB.trans (hb2.mono sB.size)
  have x2 := (hb2.block _ (Array.getElem?_eq_some_iff.1 sx).1).trans sx
  have y2 := (hb2.block _ (Array.getElem?_eq_some_iff.1 sy).1).trans sy
  obtain ⟨va, vc, rfl⟩ := hown.shape
  rw [hlen] at hown ⊢
  have HO : Hid (OwnF rangeV 2 91 w2 (w.heap.size + 2) (.slice va m vc) l) := hown.mono hs2
  clear f0 f1 f2 f3 f4 f5 f6 f7 f8 fz4 sy sx sB hb2 hown x1 y1 hB1 hs1 hs2
  have f0 : w2.cell? ⟨w.heap.size, 0, none⟩ = some (.int .i64 c) := by rw [Lib.cell_of_heap y2]; rfl
  have f1 : w2.cell? ⟨w.heap.size, 1, none⟩ = some (.int .i64 n) := by rw [Lib.cell_of_heap y2]; rfl
  have f2 : w2.cell? ⟨w.heap.size, 2, none⟩ = some (.int .i64 k) := by rw [Lib.cell_of_heap y2]; rfl
  have f3 : w2.cell? ⟨w.heap.size, 3, none⟩ = some (.int .i64 p) := by rw [Lib.cell_of_heap y2]; rfl
  have f4 : w2.cell? ⟨w.heap.size, 4, none⟩ = some (.string s) := by rw [Lib.cell_of_heap y2]; rfl
  have f5 : w2.cell? ⟨w.heap.size, 5, none⟩ = some (.slice a m cap) := by rw [Lib.cell_of_heap y2]; rfl
  have fz5 : w2.frozen? ⟨w.heap.size, 5, none⟩ = false := Lib.frozen_of_heap y2 5
  have f6 : w2.cell? ⟨w.heap.size, 6, none⟩ = some (.int .i64 tc) := by rw [Lib.cell_of_heap y2]; rfl
  have f7 : w2.cell? ⟨w.heap.size, 7, none⟩ = some (.int .i64 tn) := by rw [Lib.cell_of_heap y2]; rfl
  have f8 : w2.cell? ⟨w.heap.size, 8, none⟩ = some (.bool on) := by rw [Lib.cell_of_heap y2]; rfl
  have d0 : w2.cell? ⟨w.heap.size + 1, 0, none⟩ = some (.int .i64 0) := by rw [Lib.cell_of_heap x2]; rfl
  have dz0 : w2.frozen? ⟨w.heap.size + 1, 0, none⟩ = false := Lib.frozen_of_heap x2 0
  have d1 : w2.cell? ⟨w.heap.size + 1, 1, none⟩ = some (.int .i64 0) := by rw [Lib.cell_of_heap x2]; rfl
  have dz1 : w2.frozen? ⟨w.heap.size + 1, 1, none⟩ = false := Lib.frozen_of_heap x2 1
  have d2 : w2.cell? ⟨w.heap.size + 1, 2, none⟩ = some (.int .i64 0) := by rw [Lib.cell_of_heap x2]; rfl
  have dz2 : w2.frozen? ⟨w.heap.size + 1, 2, none⟩ = false := Lib.frozen_of_heap x2 2
  have d3 : w2.cell? ⟨w.heap.size + 1, 3, none⟩ = some (.int .i64 0) := by rw [Lib.cell_of_heap x2]; rfl
  have dz3 : w2.frozen? ⟨w.heap.size + 1, 3, none⟩ = false := Lib.frozen_of_heap x2 3
  have d4 : w2.cell? ⟨w.heap.size + 1, 4, none⟩ = some (.string ⟨#[]⟩) := by rw [Lib.cell_of_heap x2]; rfl
  have dz4 : w2.frozen? ⟨w.heap.size + 1, 4, none⟩ = false := Lib.frozen_of_heap x2 4
  have d5 : w2.cell? ⟨w.heap.size + 1, 5, none⟩ = some (.slice none 0 0) := by rw [Lib.cell_of_heap x2]; rfl
  have dz5 : w2.frozen? ⟨w.heap.size + 1, 5, none⟩ = false := Lib.frozen_of_heap x2 5
  have d6 : w2.cell? ⟨w.heap.size + 1, 6, none⟩ = some (.int .i64 0) := by rw [Lib.cell_of_heap x2]; rfl
  have dz6 : w2.frozen? ⟨w.heap.size + 1, 6, none⟩ = false := Lib.frozen_of_heap x2 6
  have d7 : w2.cell? ⟨w.heap.size + 1, 7, none⟩ = some (.int .i64 0) := by rw [Lib.cell_of_heap x2]; rfl
  have dz7 : w2.frozen? ⟨w.heap.size + 1, 7, none⟩ = false := Lib.frozen_of_heap x2 7
  have d8 : w2.cell? ⟨w.heap.size + 1, 8, none⟩ = some (.bool false) := by rw [Lib.cell_of_heap x2]; rfl
  have dz8 : w2.frozen? ⟨w.heap.size + 1, 8, none⟩ = false := Lib.frozen_of_heap x2 8
  have sx : (w2.setCell ⟨w.heap.size, 5, none⟩ (.slice va m vc)).heap[w.heap.size + 1]? = some (Obj.cells #[.int .i64 0, .int .i64 0, .int .i64 0, .int .i64 0, .string ⟨#[]⟩, .slice none 0 0, .int .i64 0, .int .i64 0, .bool false] 34) := (Below.heap_setCell _ _ _ _ (by simp)).trans x2
  have sB := hB2.setCell (p := ⟨w.heap.size, 5, none⟩) (Nat.le_refl _) (.slice va m vc)
  have hx9 := set9g (v0 := .int .i64 c) (v1 := .int .i64 n) (v2 := .int .i64 k) (v3 := .int .i64 p) (v4 := .string s) (v5 := .slice va m vc) (v6 := .int .i64 tc) (v7 := .int .i64 tn) (v8 := .bool on) sx
  have hq0 := sB.setCell (p := ⟨w.heap.size + 1, 0, none⟩) (by simp only; omega) (.int .i64 c)
  have hq1 := hq0.setCell (p := ⟨w.heap.size + 1, 1, none⟩) (by simp only; omega) (.int .i64 n)
  have hq2 := hq1.setCell (p := ⟨w.heap.size + 1, 2, none⟩) (by simp only; omega) (.int .i64 k)
  have hq3 := hq2.setCell (p := ⟨w.heap.size + 1, 3, none⟩) (by simp only; omega) (.int .i64 p)
  have hq4 := hq3.setCell (p := ⟨w.heap.size + 1, 4, none⟩) (by simp only; omega) (.string s)
  have hq5 := hq4.setCell (p := ⟨w.heap.size + 1, 5, none⟩) (by simp only; omega) (.slice va m vc)
  have hq6 := hq5.setCell (p := ⟨w.heap.size + 1, 6, none⟩) (by simp only; omega) (.int .i64 tc)
  have hq7 := hq6.setCell (p := ⟨w.heap.size + 1, 7, none⟩) (by simp only; omega) (.int .i64 tn)
  have hq8 := hq7.setCell (p := ⟨w.heap.size + 1, 8, none⟩) (by simp only; omega) (.bool on)
  obtain ⟨w9, hw9⟩ : ∃ w9, ((((((((((w2.setCell ⟨w.heap.size, 5, none⟩ (.slice va m vc)).setCell ⟨w.heap.size + 1, 0, none⟩ (.int .i64 c)).setCell ⟨w.heap.size + 1, 1, none⟩ (.int .i64 n)).setCell ⟨w.heap.size + 1, 2, none⟩ (.int .i64 k)).setCell ⟨w.heap.size + 1, 3, none⟩ (.int .i64 p)).setCell ⟨w.heap.size + 1, 4, none⟩ (.string s)).setCell ⟨w.heap.size + 1, 5, none⟩ (.slice va m vc)).setCell ⟨w.heap.size + 1, 6, none⟩ (.int .i64 tc)).setCell ⟨w.heap.size + 1, 7, none⟩ (.int .i64 tn)).setCell ⟨w.heap.size + 1, 8, none⟩ (.bool on)) = w9 := ⟨_, rfl⟩
  have HO9 : Hid (OwnF rangeV 2 91 w9 (w.heap.size + 2) (.slice va m vc) l) := by
    show OwnF _ _ _ _ _ _ _
    rw [← hw9]
    refine own_set ?_ _ _ _ (by omega)
    refine own_set ?_ _ _ _ (by omega)
    refine own_set ?_ _ _ _ (by omega)
    refine own_set ?_ _ _ _ (by omega)
    refine own_set ?_ _ _ _ (by omega)
    refine own_set ?_ _ _ _ (by omega)
    refine own_set ?_ _ _ _ (by omega)
    refine own_set ?_ _ _ _ (by omega)
    refine own_set ?_ _ _ _ (by omega)
    refine own_set ?_ _ _ _ (by omega)
    exact HO.out
  rw [hw9] at hx9 hq8
  have r0 : w9.cell? ⟨w.heap.size + 1, 0, none⟩ = some (.int .i64 c) := by rw [Lib.cell_of_heap hx9]; rfl
  have r1 : w9.cell? ⟨w.heap.size + 1, 1, none⟩ = some (.int .i64 n) := by rw [Lib.cell_of_heap hx9]; rfl
  have r2 : w9.cell? ⟨w.heap.size + 1, 2, none⟩ = some (.int .i64 k) := by rw [Lib.cell_of_heap hx9]; rfl
  have r3 : w9.cell? ⟨w.heap.size + 1, 3, none⟩ = some (.int .i64 p) := by rw [Lib.cell_of_heap hx9]; rfl
  have r4 : w9.cell? ⟨w.heap.size + 1, 4, none⟩ = some (.string s) := by rw [Lib.cell_of_heap hx9]; rfl
  have r5 : w9.cell? ⟨w.heap.size + 1, 5, none⟩ = some (.slice va m vc) := by rw [Lib.cell_of_heap hx9]; rfl
  have r6 : w9.cell? ⟨w.heap.size + 1, 6, none⟩ = some (.int .i64 tc) := by rw [Lib.cell_of_heap hx9]; rfl
  have r7 : w9.cell? ⟨w.heap.size + 1, 7, none⟩ = some (.int .i64 tn) := by rw [Lib.cell_of_heap hx9]; rfl
  have r8 : w9.cell? ⟨w.heap.size + 1, 8, none⟩ = some (.bool on) := by rw [Lib.cell_of_heap hx9]; rfl
  clear hq7 hq6 hq5 hq4 hq3 hq2 hq1 hq0 sx sB
  go_wp2_with fail
  try rw [hw9]
  refine bodyPost_ret (v := .agg #[.int .i64 c, .int .i64 n, .int .i64 k, .int .i64 p, .string s, .slice va m vc, .int .i64 tc, .int .i64 tn, .bool on]) (by simp [results, Tryz.results20, go_sem, r0, r1, r2, r3, r4, r5, r6, r7, r8]) rfl ⟨va, vc, rfl, HO9.out, hq8⟩
end Go.Proofs.YtmdnmhdimfglaaaGreatDoor

namespace Go.Proofs.YtmdnmhdimfglaaaGreatDoor
open Go.RowKit Go.Lib
set_option maxRecDepth 100000
theorem Right.few {o : OpV} (h : Right o) : o.l.length ≤ 32768 := by
  by_cases h1 : o.k = 1
  · have := h.extra
    unfold Go.Proofs.YtmdnmhdimfglaaaGreatDoor.extra at this
    rw [if_pos h1] at this
    simp [ext0] at this
    rw [this.1]; simp
  · by_cases h4 : o.k = 4
    · have := h.extra
      unfold Go.Proofs.YtmdnmhdimfglaaaGreatDoor.extra at this
      rw [if_neg h1, if_pos h4] at this
      simp [ext0] at this
      rw [this.2]; simp
    · exact (h.lst h1 h4).few
theorem inclP_few {o o2 : OpV} (e : Bool) (h : Right o) : (inclP o o2 e).1.l.length ≤ 32768 := by
  have hf := h.few
  unfold inclP thrP shiftP
  repeat' split
  all_goals first
    | exact hf
    | simp [op0]
    | skip
  rename_i hz
  simp only [thrE] at hz
  split at hz
  · simp at hz
  · split at hz
    · simp at hz
    · exact Nat.le_of_not_lt (by assumption)
theorem inclP_s (o o2 : OpV) (e : Bool) : (inclP o o2 e).1.s.size ≤ o.s.size := by
  unfold inclP thrP shiftP
  repeat' split
  all_goals first
    | exact Nat.le_refl _
    | exact Nat.zero_le _
theorem exclP_few {o o2 : OpV} (h : Right o) : (exclP o o2).1.l.length ≤ 65536 := by
  have hf := h.few
  have h1 : (Sp.backOldL o.l o2.p (widthP o2)).length ≤ 65536 := by
    unfold Sp.backOldL
    have h1 := Sp.takenL_length (Sp.takenL [] o.l 0 o2.p 0) o.l (o2.p + widthP o2) 1048576 (-widthP o2)
    have h2 := Sp.takenL_length [] o.l 0 o2.p 0
    simp only [List.length_nil] at h2
    omega
  unfold exclP backP outP
  repeat' split
  all_goals first
    | exact Nat.le_trans hf (by omega)
    | exact h1
    | exact Nat.zero_le _
theorem exclP_s (o o2 : OpV) : (exclP o o2).1.s.size ≤ o.s.size := by
  unfold exclP backP outP
  repeat' split
  all_goals first
    | exact Nat.le_refl _
    | exact Nat.zero_le _
end Go.Proofs.YtmdnmhdimfglaaaGreatDoor

namespace Go.Proofs.YtmdnmhdimfglaaaGreatDoor
open Go.RowKit Go.Lib
set_option maxRecDepth 100000
def Ans (w : World) (q : OpV × Int) (e : Ending) (w' : World) : Prop :=
  ∃ va vm vc, e = .returned (.tuple #[opVal q.1 (.slice va vm vc), .int .i64 q.2]) ∧ OwnF rangeV 2 91 w' w.heap.size (.slice va vm vc) q.1.l ∧ Below w.heap.size w w'
end Go.Proofs.YtmdnmhdimfglaaaGreatDoor

namespace Go.Proofs.YtmdnmhdimfglaaaGreatDoor
open Go.RowKit Go.Lib
set_option maxRecDepth 100000
theorem num_any (e : Int) (w : World) : Calls Tryz.prog 7 #[.int .i64 e] w fun r w' => r = .returned (.int .i64 e) ∧ w' = w := by
  go_enter Tryz.func7, Tryz.ntmps7
  go_wp2_with fail
  go_ret
  exact ⟨rfl, rfl⟩
set_option maxHeartbeats 1000000 in
theorem ins_any (c n p : Int) (s : ByteArray) (w : World) : Calls Tryz.prog 6 #[.int .i64 c, .int .i64 n, .int .i64 p, .string s] w fun e w' => e = .returned (opVal ⟨c, n, 1, p, s, [], 0, 0, false⟩ (.slice none 0 0)) ∧ Below w.heap.size w w' := by
  go_enter Tryz.func6, Tryz.ntmps6
  go_wp2_with fail
  refine bodyPost_ret (v := opVal ⟨c, n, 1, p, s, [], 0, 0, false⟩ (.slice none 0 0)) (by simp [results, Tryz.results6, go_sem, opVal]) rfl ⟨rfl, (Below.refl _ _).alloc (Nat.le_refl _) _⟩
set_option maxHeartbeats 2000000 in
theorem copy_any {o : OpV} {w : World} {a : Option Addr} {m cap : Nat} (h : Sp.Rng w a m cap o.l) (hm : m ≤ 1000000000) :
    Calls Tryz.prog 22 #[opVal o (.slice a m cap)] w fun e w' => ∃ a' cap', e = .returned (opVal o (.slice a' m cap')) ∧ OwnF rangeV 2 91 w' w.heap.size (.slice a' m cap') o.l ∧ Below w.heap.size w w' := by
  have hln := h.len
  obtain ⟨c, n, k, p, s, l, tc, tn, on⟩ := o
  simp only [opVal] at *
  obtain ⟨W0, hW0⟩ : ∃ W0, (w.alloc (Obj.cells #[.int .i64 c, .int .i64 n, .int .i64 k, .int .i64 p, .string s, .slice a m cap, .int .i64 tc, .int .i64 tn, .bool on] 34)).alloc (Obj.cells #[.int .i64 0, .int .i64 0, .int .i64 0, .int .i64 0, .string ⟨#[]⟩, .slice none 0 0, .int .i64 0, .int .i64 0, .bool false] 34) = W0 := ⟨_, rfl⟩
  have hX : W0.heap[w.heap.size]? = some (Obj.cells #[.int .i64 c, .int .i64 n, .int .i64 k, .int .i64 p, .string s, .slice a m cap, .int .i64 tc, .int .i64 tn, .bool on] 34) := by rw [← hW0]; exact (Below.heap_alloc _ _ _ (by simp)).trans (alloc_last _ _ _ rfl)
  have hZ : W0.heap[w.heap.size + 1]? = some (Obj.cells #[.int .i64 0, .int .i64 0, .int .i64 0, .int .i64 0, .string ⟨#[]⟩, .slice none 0 0, .int .i64 0, .int .i64 0, .bool false] 34) := by rw [← hW0]; exact alloc_last _ _ _ (by simp)
  have hB0 : Below w.heap.size w W0 := by rw [← hW0]; exact ((Below.refl w.heap.size w).alloc (Nat.le_refl _) _).alloc (by simp) _
  obtain ⟨ak0, ak1, ak2, ak3, ak4, ak5, ak6, ak7, ak8⟩ := box9 hX
  obtain ⟨va, vc, w1, hr, ho, hcur, _⟩ := appendF_all kindG layG (ownF_nil (f := rangeV) (k := 2) (T := 91) W0 W0.heap.size) (Nat.le_refl _) (rw_of_rng (h.below hB0)) (by simp; omega) (by simp; omega) 32
  simp only [List.length_nil, List.nil_append, Nat.zero_add] at hr ho
  have hX1 := (hcur.block _ (Array.getElem?_eq_some_iff.1 hX).1).trans hX
  have hZ1 := (hcur.block _ (Array.getElem?_eq_some_iff.1 hZ).1).trans hZ
  have hB1 := hB0.trans (hcur.mono hB0.size)
  have hlt : w.heap.size + 1 < W0.heap.size := (Array.getElem?_eq_some_iff.1 hZ).1
  have HO : Hid (OwnF rangeV 2 91 w1 W0.heap.size (.slice va m vc) l) := ho
  clear ho h hcur hX hZ hB0
  obtain ⟨bk0, bk1, bk2, bk3, bk4, bk5, bk6, bk7, bk8⟩ := box9 hX1
  obtain ⟨bz0, bz1, bz2, bz3, bz4, bz5, bz6, bz7, bz8⟩ := wr9 hX1
  have hB2 := hB1.setCell (p := ⟨w.heap.size, 5, none⟩) (Nat.le_refl _) (.slice va m vc)
  have hZ2 : (w1.setCell ⟨w.heap.size, 5, none⟩ (.slice va m vc)).heap[w.heap.size + 1]? = some (Obj.cells #[.int .i64 0, .int .i64 0, .int .i64 0, .int .i64 0, .string ⟨#[]⟩, .slice none 0 0, .int .i64 0, .int .i64 0, .bool false] 34) := (Below.heap_setCell _ _ _ _ (by simp)).trans hZ1
  have HO2 : Hid (OwnF rangeV 2 91 (w1.setCell ⟨w.heap.size, 5, none⟩ (.slice va m vc)) W0.heap.size (.slice va m vc) l) := (But.set _ _ _ _).own HO.out (by omega)
  clear HO
  obtain ⟨W9, e9, hx9, hB9, hK9⟩ := store9 hZ2 hB2 (by omega) (.int .i64 c) (.int .i64 n) (.int .i64 k) (.int .i64 p) (.string s) (.slice va m vc) (.int .i64 tc) (.int .i64 tn) (.bool on)
  obtain ⟨d0, d1, d2, d3, d4, d5, d6, d7, d8⟩ := box9 hZ2
  obtain ⟨dz0, dz1, dz2, dz3, dz4, dz5, dz6, dz7, dz8⟩ := wr9 hZ2
  obtain ⟨d10, d11, d12, d13, d14, d15, d16, d17, d18⟩ := box9 hZ1
  obtain ⟨dy0, dy1, dy2, dy3, dy4, dy5, dy6, dy7, dy8⟩ := wr9 hZ1
  obtain ⟨r0, r1, r2, r3, r4, r5, r6, r7, r8⟩ := box9 hx9
  go_enter Tryz.func22, Tryz.ntmps22
  go_wp2_with (at_builtin; refine wpList_append_hr rfl _ _ 32 rfl _ _ rfl rfl hr ?_)
  try rw [e9]
  refine bodyPost_ret (v := .agg #[.int .i64 c, .int .i64 n, .int .i64 k, .int .i64 p, .string s, .slice va m vc, .int .i64 tc, .int .i64 tn, .bool on]) (by simp [results, Tryz.results22, go_sem, r0, r1, r2, r3, r4, r5, r6, r7, r8]) rfl ⟨va, vc, rfl, (hK9.own HO2.out (by omega)).mono (by omega), hB9⟩
end Go.Proofs.YtmdnmhdimfglaaaGreatDoor
