import Derived.Shelf.Strconv.Clone
import Derived.Test.YtmeciikfnbbllaaGreatDoorProg
import Derived.Test.YtmeciikfnbbllaaGreatDoorGaB
import Derived.Test.YtmeciikfnbbllaaGreatDoorGaF
import Derived.Test.YtmeciikfnbbllaaGreatDoorGaE
namespace Go.Proofs
open Go.Shelf
def Tryz.lays316_ren : Go.Shelf.Ren := ⟨fun | 316 => 70 | n => n, fun | 0 => 0 | 3 => 3 | 4 => 4 | 5 => 5 | 9 => 9 | 37 => 118 | 127 => 119 | n => n, fun | n => n⟩
theorem Tryz.lays316 : Go.Proofs.LaysM.n316 Tryz.prog Tryz.lays316_ren := {
  mixed := by kernel_rfl
  f316 := Tryz.func70.trans (congrArg some (by kernel_rfl))
  t0 := Tryz.underlying0
  a0 := Tryz.isAgg0
  z0 := Tryz.sizeOf0
  v0 := Tryz.zeroValue0
  i0 := by kernel_rfl
  t3 := Tryz.underlying3
  a3 := Tryz.isAgg3
  z3 := Tryz.sizeOf3
  v3 := Tryz.zeroValue3
  i3 := by kernel_rfl
  t4 := Tryz.underlying4
  a4 := Tryz.isAgg4
  z4 := Tryz.sizeOf4
  v4 := Tryz.zeroValue4
  i4 := by kernel_rfl
  t5 := Tryz.underlying5
  a5 := Tryz.isAgg5
  z5 := Tryz.sizeOf5
  v5 := Tryz.zeroValue5
  i5 := by kernel_rfl
  t9 := Tryz.underlying9
  a9 := Tryz.isAgg9
  z9 := Tryz.sizeOf9
  v9 := Tryz.zeroValue9
  i9 := by kernel_rfl
  t37 := Tryz.underlying118
  a37 := Tryz.isAgg118
  z37 := Tryz.sizeOf118
  v37 := Tryz.zeroValue118
  i37 := by kernel_rfl
  t127 := Tryz.underlying119
  a127 := Tryz.isAgg119
  z127 := Tryz.sizeOf119
  v127 := Tryz.zeroValue119
  i127 := by kernel_rfl }
open Go.RowKit in
theorem Tryz.clone_any (s : ByteArray) (w : World) (hlim : s.size ≤ 281474976710656) :
    Calls Tryz.prog 70 #[.string s] w fun e w' => e = .returned (.string s) ∧ Below w.heap.size w w' := Any.stringslite_Clone Tryz.lays316 s w hlim
end Go.Proofs

namespace Go.Proofs.YtmeciikfnbbllaaGreatDoor
open Go.RowKit Go.Lib
open Sp hiding Keeps
set_option maxRecDepth 100000
set_option maxHeartbeats 400000 in
theorem strClone_any (s : ByteArray) (hs : s.size ≤ 281474976710656) (w : World) : Calls Tryz.prog 40 #[.string s] w fun e w' => e = .returned (.string s) ∧ Below w.heap.size w w' := by
  have HC : Hid (∀ w : World, Calls Tryz.prog 70 #[.string s] w fun e w' => e = .returned (.string s) ∧ Below w.heap.size w w') := fun w => Tryz.clone_any s w hs
  go_enter Tryz.func40, Tryz.ntmps40
  go_wp2_with fail
  refine (HC.out _).mono ?_
  rintro e w1 ⟨rfl, hb1⟩
  go_wp2_with fail
  go_ret
  exact ⟨rfl, hb1⟩
set_option maxHeartbeats 2000000 in
theorem opClone_any {o : OpV} {w : World} {a : Option Addr} {m cap : Nat} (h : Rng w a m cap o.l) (hm : m ≤ 1000000000) (hs : o.s.size ≤ 281474976710656) :
    Calls Tryz.prog 22 #[opVal o (.slice a m cap)] w fun e w' => ∃ a' cap', e = .returned (opVal o (.slice a' m cap')) ∧ OwnF rangeV 2 94 w' (w.heap.size + 2) (.slice a' m cap') o.l ∧ Below w.heap.size w w' := by
  have hlen := h.len
  have HS : Hid (∀ w' : World, Calls Tryz.prog 40 #[.string o.s] w' fun e w'' => e = .returned (.string o.s) ∧ Below w'.heap.size w' w'') := fun w' => strClone_any o.s hs w'
  have HR : Hid (∀ w' : World, Below w.heap.size w w' → Calls Tryz.prog 41 #[.slice a m cap] w' fun e w'' => ∃ v, e = .returned v ∧ OwnF rangeV 2 94 w'' w'.heap.size v o.l ∧ Below w'.heap.size w' w'') := fun w' hb => copiedR_any (h.below hb) hm
  clear h hm hs
  obtain ⟨c, n, k, p, s, l, tc, tn, on⟩ := o
  simp only at hlen HS HR
  simp only [opVal]
  have hX : Below w.heap.size w ((w.alloc (Obj.cells #[.int .i64 c, .int .i64 n, .int .i64 k, .int .i64 p, .string s, .slice a m cap, .int .i64 tc, .int .i64 tn, .bool on] 33)).alloc (Obj.cells #[.int .i64 0, .int .i64 0, .int .i64 0, .int .i64 0, .string ⟨#[]⟩, .slice none 0 0, .int .i64 0, .int .i64 0, .bool false] 33)) := ((Below.refl w.heap.size w).alloc (Nat.le_refl _) _).alloc (by simp) _
  have y0 : ((w.alloc (Obj.cells #[.int .i64 c, .int .i64 n, .int .i64 k, .int .i64 p, .string s, .slice a m cap, .int .i64 tc, .int .i64 tn, .bool on] 33)).alloc (Obj.cells #[.int .i64 0, .int .i64 0, .int .i64 0, .int .i64 0, .string ⟨#[]⟩, .slice none 0 0, .int .i64 0, .int .i64 0, .bool false] 33)).heap[w.heap.size]? = some (Obj.cells #[.int .i64 c, .int .i64 n, .int .i64 k, .int .i64 p, .string s, .slice a m cap, .int .i64 tc, .int .i64 tn, .bool on] 33) := (Below.heap_alloc _ _ _ (by simp)).trans (alloc_last _ _ _ rfl)
  have x0 : ((w.alloc (Obj.cells #[.int .i64 c, .int .i64 n, .int .i64 k, .int .i64 p, .string s, .slice a m cap, .int .i64 tc, .int .i64 tn, .bool on] 33)).alloc (Obj.cells #[.int .i64 0, .int .i64 0, .int .i64 0, .int .i64 0, .string ⟨#[]⟩, .slice none 0 0, .int .i64 0, .int .i64 0, .bool false] 33)).heap[w.heap.size + 1]? = some (Obj.cells #[.int .i64 0, .int .i64 0, .int .i64 0, .int .i64 0, .string ⟨#[]⟩, .slice none 0 0, .int .i64 0, .int .i64 0, .bool false] 33) := alloc_last _ _ _ (by simp)
  have hXs : ((w.alloc (Obj.cells #[.int .i64 c, .int .i64 n, .int .i64 k, .int .i64 p, .string s, .slice a m cap, .int .i64 tc, .int .i64 tn, .bool on] 33)).alloc (Obj.cells #[.int .i64 0, .int .i64 0, .int .i64 0, .int .i64 0, .string ⟨#[]⟩, .slice none 0 0, .int .i64 0, .int .i64 0, .bool false] 33)).heap.size = w.heap.size + 2 := by simp
  go_enter Tryz.func22, Tryz.ntmps22
  go_wp2_with fail
  refine (HS.out _).mono ?_
  rintro e w1 ⟨rfl, hb1⟩
  have hB1 := hX.trans (hb1.mono hX.size)
  have x1 := (hb1.block _ (Array.getElem?_eq_some_iff.1 x0).1).trans x0
  have y1 := (hb1.block _ (Array.getElem?_eq_some_iff.1 y0).1).trans y0
  have hs1 : w.heap.size + 2 ≤ w1.heap.size := by have := hb1.size; rw [hXs] at this; exact this
  clear hX x0 y0 hb1 hXs
  have f0 : w1.cell? ⟨w.heap.size, 0, none⟩ = some (.int .i64 c) := by rw [Lib.cell_of_heap y1]; rfl
  have f1 : w1.cell? ⟨w.heap.size, 1, none⟩ = some (.int .i64 n) := by rw [Lib.cell_of_heap y1]; rfl
  have f2 : w1.cell? ⟨w.heap.size, 2, none⟩ = some (.int .i64 k) := by rw [Lib.cell_of_heap y1]; rfl
  have f3 : w1.cell? ⟨w.heap.size, 3, none⟩ = some (.int .i64 p) := by rw [Lib.cell_of_heap y1]; rfl
  have f4 : w1.cell? ⟨w.heap.size, 4, none⟩ = some (.string s) := by rw [Lib.cell_of_heap y1]; rfl
  have fz4 : w1.frozen? ⟨w.heap.size, 4, none⟩ = false := Lib.frozen_of_heap y1 4
  have f5 : w1.cell? ⟨w.heap.size, 5, none⟩ = some (.slice a m cap) := by rw [Lib.cell_of_heap y1]; rfl
  have f6 : w1.cell? ⟨w.heap.size, 6, none⟩ = some (.int .i64 tc) := by rw [Lib.cell_of_heap y1]; rfl
  have f7 : w1.cell? ⟨w.heap.size, 7, none⟩ = some (.int .i64 tn) := by rw [Lib.cell_of_heap y1]; rfl
  have f8 : w1.cell? ⟨w.heap.size, 8, none⟩ = some (.bool on) := by rw [Lib.cell_of_heap y1]; rfl
  have sy : (w1.setCell ⟨w.heap.size, 4, none⟩ (.string s)).heap[w.heap.size]? = some (Obj.cells #[.int .i64 c, .int .i64 n, .int .i64 k, .int .i64 p, .string s, .slice a m cap, .int .i64 tc, .int .i64 tn, .bool on] 33) := (heap_setCell_same _ w.heap.size 4 _ _ _ y1).trans (by simp)
  have sx : (w1.setCell ⟨w.heap.size, 4, none⟩ (.string s)).heap[w.heap.size + 1]? = some (Obj.cells #[.int .i64 0, .int .i64 0, .int .i64 0, .int .i64 0, .string ⟨#[]⟩, .slice none 0 0, .int .i64 0, .int .i64 0, .bool false] 33) := (Below.heap_setCell _ _ _ _ (by simp)).trans x1
  have sB := hB1.setCell (p := ⟨w.heap.size, 4, none⟩) (Nat.le_refl _) (.string s)
  have hs2 : w.heap.size + 2 ≤ (w1.setCell ⟨w.heap.size, 4, none⟩ (.string s)).heap.size := by simpa [World.setCell] using hs1
  go_wp2_with fail
  refine (HR.out _ sB).mono ?_
  rintro e w2 ⟨v, rfl, hown, hb2⟩
  have hB2 := sB.trans (hb2.mono sB.size)
  have x2 := (hb2.block _ (Array.getElem?_eq_some_iff.1 sx).1).trans sx
  have y2 := (hb2.block _ (Array.getElem?_eq_some_iff.1 sy).1).trans sy
  obtain ⟨va, vc, rfl⟩ := hown.shape
  rw [hlen] at hown ⊢
  have HO : Hid (OwnF rangeV 2 94 w2 (w.heap.size + 2) (.slice va m vc) l) := hown.mono hs2
  clear f0 f1 f2 f3 f4 f5 f6 f7 f8 fz4 sy sx sB hb2 hown x1 y1 hB1 hs1 hs2
  have f0 : w2.cell? ⟨w.heap.size, 0, none⟩ = some (.int .i64 c) := by rw [Lib.cell_of_heap y2]; rfl
  have f1 : w2.cell? ⟨w.heap.size, 1, none⟩ = some (.int .i64 n) := by rw [Lib.cell_of_heap y2]; rfl
  have f2 : w2.cell? ⟨w.heap.size, 2, none⟩ = some (.int .i64 k) := by rw [Lib.cell_of_heap y2]; rfl
  have f3 : w2.cell? ⟨w.heap.size, 3, none⟩ = some (.int .i64 p) := by rw [Lib.cell_of_heap y2]; rfl
  have f4 : w2.cell? ⟨w.heap.size, 4, none⟩ = some (.string s) := by rw [Lib.cell_of_heap y2]; rfl
  have f5 : w2.cell? ⟨w.heap.size, 5, none⟩ = some (.slice a m cap) := by rw [Lib.cell_of_heap y2]; rfl
  have fz5 : w2.frozen? ⟨w.heap.size, 5, none⟩ = false := Lib.frozen_of_heap y2 5
  have f6 : w2.cell? ⟨w.heap.size, 6, none⟩ = some (.int .i64 tc) := by rw [Lib.cell_of_heap y2]; rfl
  have f7 : w2.cell? ⟨w.heap.size, 7, none⟩ = some (.int .i64 tn) := by rw [Lib.cell_of_heap y2]; rfl
  have f8 : w2.cell? ⟨w.heap.size, 8, none⟩ = some (.bool on) := by rw [Lib.cell_of_heap y2]; rfl
  have d0 : w2.cell? ⟨w.heap.size + 1, 0, none⟩ = some (.int .i64 0) := by rw [Lib.cell_of_heap x2]; rfl
  have dz0 : w2.frozen? ⟨w.heap.size + 1, 0, none⟩ = false := Lib.frozen_of_heap x2 0
  have d1 : w2.cell? ⟨w.heap.size + 1, 1, none⟩ = some (.int .i64 0) := by rw [Lib.cell_of_heap x2]; rfl
  have dz1 : w2.frozen? ⟨w.heap.size + 1, 1, none⟩ = false := Lib.frozen_of_heap x2 1
  have d2 : w2.cell? ⟨w.heap.size + 1, 2, none⟩ = some (.int .i64 0) := by rw [Lib.cell_of_heap x2]; rfl
  have dz2 : w2.frozen? ⟨w.heap.size + 1, 2, none⟩ = false := Lib.frozen_of_heap x2 2
  have d3 : w2.cell? ⟨w.heap.size + 1, 3, none⟩ = some (.int .i64 0) := by rw [Lib.cell_of_heap x2]; rfl
  have dz3 : w2.frozen? ⟨w.heap.size + 1, 3, none⟩ = false := Lib.frozen_of_heap x2 3
  have d4 : w2.cell? ⟨w.heap.size + 1, 4, none⟩ = some (.string ⟨#[]⟩) := by rw [Lib.cell_of_heap x2]; rfl
  have dz4 : w2.frozen? ⟨w.heap.size + 1, 4, none⟩ = false := Lib.frozen_of_heap x2 4
  have d5 : w2.cell? ⟨w.heap.size + 1, 5, none⟩ = some (.slice none 0 0) := by rw [Lib.cell_of_heap x2]; rfl
  have dz5 : w2.frozen? ⟨w.heap.size + 1, 5, none⟩ = false := Lib.frozen_of_heap x2 5
  have d6 : w2.cell? ⟨w.heap.size + 1, 6, none⟩ = some (.int .i64 0) := by rw [Lib.cell_of_heap x2]; rfl
  have dz6 : w2.frozen? ⟨w.heap.size + 1, 6, none⟩ = false := Lib.frozen_of_heap x2 6
  have d7 : w2.cell? ⟨w.heap.size + 1, 7, none⟩ = some (.int .i64 0) := by rw [Lib.cell_of_heap x2]; rfl
  have dz7 : w2.frozen? ⟨w.heap.size + 1, 7, none⟩ = false := Lib.frozen_of_heap x2 7
  have d8 : w2.cell? ⟨w.heap.size + 1, 8, none⟩ = some (.bool false) := by rw [Lib.cell_of_heap x2]; rfl
  have dz8 : w2.frozen? ⟨w.heap.size + 1, 8, none⟩ = false := Lib.frozen_of_heap x2 8
  have sx : (w2.setCell ⟨w.heap.size, 5, none⟩ (.slice va m vc)).heap[w.heap.size + 1]? = some (Obj.cells #[.int .i64 0, .int .i64 0, .int .i64 0, .int .i64 0, .string ⟨#[]⟩, .slice none 0 0, .int .i64 0, .int .i64 0, .bool false] 33) := (Below.heap_setCell _ _ _ _ (by simp)).trans x2
  have sB := hB2.setCell (p := ⟨w.heap.size, 5, none⟩) (Nat.le_refl _) (.slice va m vc)
  have hx9 := set9g (v0 := .int .i64 c) (v1 := .int .i64 n) (v2 := .int .i64 k) (v3 := .int .i64 p) (v4 := .string s) (v5 := .slice va m vc) (v6 := .int .i64 tc) (v7 := .int .i64 tn) (v8 := .bool on) sx
  have hq0 := sB.setCell (p := ⟨w.heap.size + 1, 0, none⟩) (by simp only; omega) (.int .i64 c)
  have hq1 := hq0.setCell (p := ⟨w.heap.size + 1, 1, none⟩) (by simp only; omega) (.int .i64 n)
  have hq2 := hq1.setCell (p := ⟨w.heap.size + 1, 2, none⟩) (by simp only; omega) (.int .i64 k)
  have hq3 := hq2.setCell (p := ⟨w.heap.size + 1, 3, none⟩) (by simp only; omega) (.int .i64 p)
  have hq4 := hq3.setCell (p := ⟨w.heap.size + 1, 4, none⟩) (by simp only; omega) (.string s)
  have hq5 := hq4.setCell (p := ⟨w.heap.size + 1, 5, none⟩) (by simp only; omega) (.slice va m vc)
  have hq6 := hq5.setCell (p := ⟨w.heap.size + 1, 6, none⟩) (by simp only; omega) (.int .i64 tc)
  have hq7 := hq6.setCell (p := ⟨w.heap.size + 1, 7, none⟩) (by simp only; omega) (.int .i64 tn)
  have hq8 := hq7.setCell (p := ⟨w.heap.size + 1, 8, none⟩) (by simp only; omega) (.bool on)
  obtain ⟨w9, hw9⟩ : ∃ w9, ((((((((((w2.setCell ⟨w.heap.size, 5, none⟩ (.slice va m vc)).setCell ⟨w.heap.size + 1, 0, none⟩ (.int .i64 c)).setCell ⟨w.heap.size + 1, 1, none⟩ (.int .i64 n)).setCell ⟨w.heap.size + 1, 2, none⟩ (.int .i64 k)).setCell ⟨w.heap.size + 1, 3, none⟩ (.int .i64 p)).setCell ⟨w.heap.size + 1, 4, none⟩ (.string s)).setCell ⟨w.heap.size + 1, 5, none⟩ (.slice va m vc)).setCell ⟨w.heap.size + 1, 6, none⟩ (.int .i64 tc)).setCell ⟨w.heap.size + 1, 7, none⟩ (.int .i64 tn)).setCell ⟨w.heap.size + 1, 8, none⟩ (.bool on)) = w9 := ⟨_, rfl⟩
  have HO9 : Hid (OwnF rangeV 2 94 w9 (w.heap.size + 2) (.slice va m vc) l) := by
    show OwnF _ _ _ _ _ _ _
    rw [← hw9]
    refine own_set ?_ _ _ _ (by omega)
    refine own_set ?_ _ _ _ (by omega)
    refine own_set ?_ _ _ _ (by omega)
    refine own_set ?_ _ _ _ (by omega)
    refine own_set ?_ _ _ _ (by omega)
    refine own_set ?_ _ _ _ (by omega)
    refine own_set ?_ _ _ _ (by omega)
    refine own_set ?_ _ _ _ (by omega)
    refine own_set ?_ _ _ _ (by omega)
    refine own_set ?_ _ _ _ (by omega)
    exact HO.out
  rw [hw9] at hx9 hq8
  have r0 : w9.cell? ⟨w.heap.size + 1, 0, none⟩ = some (.int .i64 c) := by rw [Lib.cell_of_heap hx9]; rfl
  have r1 : w9.cell? ⟨w.heap.size + 1, 1, none⟩ = some (.int .i64 n) := by rw [Lib.cell_of_heap hx9]; rfl
  have r2 : w9.cell? ⟨w.heap.size + 1, 2, none⟩ = some (.int .i64 k) := by rw [Lib.cell_of_heap hx9]; rfl
  have r3 : w9.cell? ⟨w.heap.size + 1, 3, none⟩ = some (.int .i64 p) := by rw [Lib.cell_of_heap hx9]; rfl
  have r4 : w9.cell? ⟨w.heap.size + 1, 4, none⟩ = some (.string s) := by rw [Lib.cell_of_heap hx9]; rfl
  have r5 : w9.cell? ⟨w.heap.size + 1, 5, none⟩ = some (.slice va m vc) := by rw [Lib.cell_of_heap hx9]; rfl
  have r6 : w9.cell? ⟨w.heap.size + 1, 6, none⟩ = some (.int .i64 tc) := by rw [Lib.cell_of_heap hx9]; rfl
  have r7 : w9.cell? ⟨w.heap.size + 1, 7, none⟩ = some (.int .i64 tn) := by rw [Lib.cell_of_heap hx9]; rfl
  have r8 : w9.cell? ⟨w.heap.size + 1, 8, none⟩ = some (.bool on) := by rw [Lib.cell_of_heap hx9]; rfl
  clear hq7 hq6 hq5 hq4 hq3 hq2 hq1 hq0 sx sB
  go_wp2_with fail
  try rw [hw9]
  refine bodyPost_ret (v := .agg #[.int .i64 c, .int .i64 n, .int .i64 k, .int .i64 p, .string s, .slice va m vc, .int .i64 tc, .int .i64 tn, .bool on]) (by simp [results, Tryz.results22, go_sem, r0, r1, r2, r3, r4, r5, r6, r7, r8]) rfl ⟨va, vc, rfl, HO9.out, hq8⟩
end Go.Proofs.YtmeciikfnbbllaaGreatDoor

namespace Go.Proofs.YtmeciikfnbbllaaGreatDoor
open Go.RowKit Go.Lib
set_option maxRecDepth 100000
set_option maxHeartbeats 4000000 in
theorem apart_any {o : OpV} {er : Int} {w : World} {a : Option Addr} {m cap : Nat} (h : Sp.Rng w a m cap o.l) (hm : m ≤ 1000000000) (hs : o.s.size ≤ 281474976710656) :
    Calls Tryz.prog 34 #[opVal o (.slice a m cap), .int .i64 er] w fun e w' => ∃ va vc, e = .returned (.tuple #[opVal o (.slice va m vc), .int .i64 er]) ∧ OwnF rangeV 2 94 w' w.heap.size (.slice va m vc) o.l ∧ Below w.heap.size w w' := by
  have HC : Hid (∀ (W : World), Below w.heap.size w W → Calls Tryz.prog 22 #[opVal o (.slice a m cap)] W fun e w' => ∃ a' cap', e = .returned (opVal o (.slice a' m cap')) ∧ OwnF rangeV 2 94 w' (W.heap.size + 2) (.slice a' m cap') o.l ∧ Below W.heap.size W w') := fun W hb => opClone_any (h.below hb) hm hs
  clear h hm hs
  obtain ⟨c, n, k, p, s, l, tc, tn, on⟩ := o
  simp only [opVal] at *
  obtain ⟨W0, hW0⟩ : ∃ W0, (w.alloc (Obj.cells #[.int .i64 c, .int .i64 n, .int .i64 k, .int .i64 p, .string s, .slice a m cap, .int .i64 tc, .int .i64 tn, .bool on] 33)).alloc (Obj.cells #[.int .i64 0, .int .i64 0, .int .i64 0, .int .i64 0, .string ⟨#[]⟩, .slice none 0 0, .int .i64 0, .int .i64 0, .bool false] 33) = W0 := ⟨_, rfl⟩
  have hZ : W0.heap[w.heap.size + 1]? = some (Obj.cells #[.int .i64 0, .int .i64 0, .int .i64 0, .int .i64 0, .string ⟨#[]⟩, .slice none 0 0, .int .i64 0, .int .i64 0, .bool false] 33) := by rw [← hW0]; exact alloc_last _ _ _ (by simp)
  have hB0 : Below w.heap.size w W0 := by rw [← hW0]; exact ((Below.refl w.heap.size w).alloc (Nat.le_refl _) _).alloc (by simp) _
  have zlt : w.heap.size + 1 < W0.heap.size := (Array.getElem?_eq_some_iff.1 hZ).1
  have hX : W0.heap[w.heap.size]? = some (Obj.cells #[.int .i64 c, .int .i64 n, .int .i64 k, .int .i64 p, .string s, .slice a m cap, .int .i64 tc, .int .i64 tn, .bool on] 33) := by rw [← hW0]; exact (Below.heap_alloc _ _ _ (by simp)).trans (alloc_last _ _ _ rfl)
  obtain ⟨ak0, ak1, ak2, ak3, ak4, ak5, ak6, ak7, ak8⟩ := box9 hX
  go_enter Tryz.func34, Tryz.ntmps34
  go_wp2_with fail
  refine (HC.out _ hB0).mono ?_
  rintro e w1 ⟨va, vc, rfl, hO, hcur⟩
  have hB1 := hB0.trans (hcur.mono hB0.size)
  have hZ1 := (hcur.block _ zlt).trans hZ
  have HO : Hid (OwnF rangeV 2 94 w1 (W0.heap.size + 2) (.slice va m vc) l) := hO
  clear hO HC hcur hZ hB0 hW0 hX ak0 ak1 ak2 ak3 ak4 ak5 ak6 ak7 ak8
  obtain ⟨W9, e9, hx9, hB9, hK9⟩ := store9 hZ1 hB1 (by omega) (.int .i64 c) (.int .i64 n) (.int .i64 k) (.int .i64 p) (.string s) (.slice va m vc) (.int .i64 tc) (.int .i64 tn) (.bool on)
  obtain ⟨d0, d1, d2, d3, d4, d5, d6, d7, d8⟩ := box9 hZ1
  obtain ⟨dz0, dz1, dz2, dz3, dz4, dz5, dz6, dz7, dz8⟩ := wr9 hZ1
  obtain ⟨r0, r1, r2, r3, r4, r5, r6, r7, r8⟩ := box9 hx9
  go_wp2_with fail
  try rw [e9]
  refine bodyPost_ret (v := .tuple #[.agg #[.int .i64 c, .int .i64 n, .int .i64 k, .int .i64 p, .string s, .slice va m vc, .int .i64 tc, .int .i64 tn, .bool on], .int .i64 er]) (by simp [results, Tryz.results34, go_sem, r0, r1, r2, r3, r4, r5, r6, r7, r8]) rfl ⟨va, vc, rfl, (hK9.own HO.out (by omega)).mono (by omega), hB9⟩
theorem two_ops {W : World} {g : Nat} {x y : OpM} {T : TypeId} (h : W.heap[g]? = some (.cells (opF x ++ opF y).toArray T)) : Rw opF 9 W (some ⟨g, 0, none⟩) 2 2 [x, y] :=
  ⟨rfl, ⟨Nat.le_refl _, by decide⟩, fun _ => ⟨g, 0, rfl, (Array.getElem?_eq_some_iff.1 h).1, fun j z hj i v hv => by
    have hi : i < 9 := by
      have := (List.getElem?_eq_some_iff.1 hv).1
      simpa [opF] using this
    rw [Lib.cell_of_heap h, Nat.zero_add]
    match j, hj with
    | 0, hj =>
      simp at hj; subst hj
      simp only [Nat.zero_mul, Nat.zero_add, List.getElem?_toArray]
      rw [List.getElem?_append_left (by simpa [opF] using hi)]
      exact hv
    | 1, hj =>
      simp at hj; subst hj
      simp only [Nat.one_mul, List.getElem?_toArray]
      rw [List.getElem?_append_right (by simp [opF])]
      simpa [opF] using hv
    | j + 2, hj => simp at hj⟩⟩
theorem one_op {W : World} {g : Nat} {x : OpM} {T : TypeId} (h : W.heap[g]? = some (.cells (opF x).toArray T)) : Rw opF 9 W (some ⟨g, 0, none⟩) 1 1 [x] :=
  ⟨rfl, ⟨Nat.le_refl _, by decide⟩, fun _ => ⟨g, 0, rfl, (Array.getElem?_eq_some_iff.1 h).1, fun j z hj i v hv => by
    rw [Lib.cell_of_heap h, Nat.zero_add]
    match j, hj with
    | 0, hj =>
      simp at hj; subst hj
      simp only [Nat.zero_mul, Nat.zero_add, List.getElem?_toArray]
      exact hv
    | j + 1, hj => simp at hj⟩⟩
end Go.Proofs.YtmeciikfnbbllaaGreatDoor

namespace Go.Proofs.YtmeciikfnbbllaaGreatDoor
open Go.RowKit Go.Lib
set_option maxRecDepth 100000
theorem num_any (e : Int) (w : World) : Calls Tryz.prog 11 #[.int .i64 e] w fun r w' => r = .returned (.int .i64 e) ∧ w' = w := by
  go_enter Tryz.func11, Tryz.ntmps11
  go_wp2_with fail
  go_ret
  exact ⟨rfl, rfl⟩
set_option maxHeartbeats 1000000 in
theorem ins_any (c n p : Int) (s : ByteArray) (w : World) : Calls Tryz.prog 10 #[.int .i64 c, .int .i64 n, .int .i64 p, .string s] w fun e w' => e = .returned (opVal ⟨c, n, 1, p, s, [], 0, 0, false⟩ (.slice none 0 0)) ∧ Below w.heap.size w w' := by
  go_enter Tryz.func10, Tryz.ntmps10
  go_wp2_with fail
  refine bodyPost_ret (v := opVal ⟨c, n, 1, p, s, [], 0, 0, false⟩ (.slice none 0 0)) (by simp [results, Tryz.results10, go_sem, opVal]) rfl ⟨rfl, (Below.refl _ _).alloc (Nat.le_refl _) _⟩
set_option maxHeartbeats 2000000 in
theorem copy_any {o : OpV} {w : World} {a : Option Addr} {m cap : Nat} (h : Sp.Rng w a m cap o.l) (hm : m ≤ 1000000000) :
    Calls Tryz.prog 26 #[opVal o (.slice a m cap)] w fun e w' => ∃ a' cap', e = .returned (opVal o (.slice a' m cap')) ∧ OwnF rangeV 2 94 w' w.heap.size (.slice a' m cap') o.l ∧ Below w.heap.size w w' := by
  have hln := h.len
  obtain ⟨c, n, k, p, s, l, tc, tn, on⟩ := o
  simp only [opVal] at *
  obtain ⟨W0, hW0⟩ : ∃ W0, (w.alloc (Obj.cells #[.int .i64 c, .int .i64 n, .int .i64 k, .int .i64 p, .string s, .slice a m cap, .int .i64 tc, .int .i64 tn, .bool on] 33)).alloc (Obj.cells #[.int .i64 0, .int .i64 0, .int .i64 0, .int .i64 0, .string ⟨#[]⟩, .slice none 0 0, .int .i64 0, .int .i64 0, .bool false] 33) = W0 := ⟨_, rfl⟩
  have hX : W0.heap[w.heap.size]? = some (Obj.cells #[.int .i64 c, .int .i64 n, .int .i64 k, .int .i64 p, .string s, .slice a m cap, .int .i64 tc, .int .i64 tn, .bool on] 33) := by rw [← hW0]; exact (Below.heap_alloc _ _ _ (by simp)).trans (alloc_last _ _ _ rfl)
  have hZ : W0.heap[w.heap.size + 1]? = some (Obj.cells #[.int .i64 0, .int .i64 0, .int .i64 0, .int .i64 0, .string ⟨#[]⟩, .slice none 0 0, .int .i64 0, .int .i64 0, .bool false] 33) := by rw [← hW0]; exact alloc_last _ _ _ (by simp)
  have hB0 : Below w.heap.size w W0 := by rw [← hW0]; exact ((Below.refl w.heap.size w).alloc (Nat.le_refl _) _).alloc (by simp) _
  obtain ⟨ak0, ak1, ak2, ak3, ak4, ak5, ak6, ak7, ak8⟩ := box9 hX
  obtain ⟨va, vc, w1, hr, ho, hcur, _⟩ := appendF_all kindG layG (ownF_nil (f := rangeV) (k := 2) (T := 94) W0 W0.heap.size) (Nat.le_refl _) (rw_of_rng (h.below hB0)) (by simp; omega) (by simp; omega) 31
  simp only [List.length_nil, List.nil_append, Nat.zero_add] at hr ho
  have hX1 := (hcur.block _ (Array.getElem?_eq_some_iff.1 hX).1).trans hX
  have hZ1 := (hcur.block _ (Array.getElem?_eq_some_iff.1 hZ).1).trans hZ
  have hB1 := hB0.trans (hcur.mono hB0.size)
  have hlt : w.heap.size + 1 < W0.heap.size := (Array.getElem?_eq_some_iff.1 hZ).1
  have HO : Hid (OwnF rangeV 2 94 w1 W0.heap.size (.slice va m vc) l) := ho
  clear ho h hcur hX hZ hB0
  obtain ⟨bk0, bk1, bk2, bk3, bk4, bk5, bk6, bk7, bk8⟩ := box9 hX1
  obtain ⟨bz0, bz1, bz2, bz3, bz4, bz5, bz6, bz7, bz8⟩ := wr9 hX1
  have hB2 := hB1.setCell (p := ⟨w.heap.size, 5, none⟩) (Nat.le_refl _) (.slice va m vc)
  have hZ2 : (w1.setCell ⟨w.heap.size, 5, none⟩ (.slice va m vc)).heap[w.heap.size + 1]? = some (Obj.cells #[.int .i64 0, .int .i64 0, .int .i64 0, .int .i64 0, .string ⟨#[]⟩, .slice none 0 0, .int .i64 0, .int .i64 0, .bool false] 33) := (Below.heap_setCell _ _ _ _ (by simp)).trans hZ1
  have HO2 : Hid (OwnF rangeV 2 94 (w1.setCell ⟨w.heap.size, 5, none⟩ (.slice va m vc)) W0.heap.size (.slice va m vc) l) := (But.set _ _ _ _).own HO.out (by omega)
  clear HO
  obtain ⟨W9, e9, hx9, hB9, hK9⟩ := store9 hZ2 hB2 (by omega) (.int .i64 c) (.int .i64 n) (.int .i64 k) (.int .i64 p) (.string s) (.slice va m vc) (.int .i64 tc) (.int .i64 tn) (.bool on)
  obtain ⟨d0, d1, d2, d3, d4, d5, d6, d7, d8⟩ := box9 hZ2
  obtain ⟨dz0, dz1, dz2, dz3, dz4, dz5, dz6, dz7, dz8⟩ := wr9 hZ2
  obtain ⟨d10, d11, d12, d13, d14, d15, d16, d17, d18⟩ := box9 hZ1
  obtain ⟨dy0, dy1, dy2, dy3, dy4, dy5, dy6, dy7, dy8⟩ := wr9 hZ1
  obtain ⟨r0, r1, r2, r3, r4, r5, r6, r7, r8⟩ := box9 hx9
  go_enter Tryz.func26, Tryz.ntmps26
  go_wp2_with (at_builtin; refine wpList_append_hr rfl _ _ 31 rfl _ _ rfl rfl hr ?_)
  try rw [e9]
  refine bodyPost_ret (v := .agg #[.int .i64 c, .int .i64 n, .int .i64 k, .int .i64 p, .string s, .slice va m vc, .int .i64 tc, .int .i64 tn, .bool on]) (by simp [results, Tryz.results26, go_sem, r0, r1, r2, r3, r4, r5, r6, r7, r8]) rfl ⟨va, vc, rfl, (hK9.own HO2.out (by omega)).mono (by omega), hB9⟩
end Go.Proofs.YtmeciikfnbbllaaGreatDoor

namespace Go.Proofs.YtmeciikfnbbllaaGreatDoor
open Go.RowKit Go.Lib
set_option maxRecDepth 100000
theorem Right.few {o : OpV} (h : Right o) : o.l.length ≤ 32768 := by
  by_cases h1 : o.k = 1
  · have := h.extra
    unfold Go.Proofs.YtmeciikfnbbllaaGreatDoor.extra at this
    rw [if_pos h1] at this
    simp [ext0] at this
    rw [this.1]; simp
  · by_cases h4 : o.k = 4
    · have := h.extra
      unfold Go.Proofs.YtmeciikfnbbllaaGreatDoor.extra at this
      rw [if_neg h1, if_pos h4] at this
      simp [ext0] at this
      rw [this.2]; simp
    · exact (h.lst h1 h4).few
theorem inclP_few {o o2 : OpV} (e : Bool) (h : Right o) : (inclP o o2 e).1.l.length ≤ 32768 := by
  have hf := h.few
  unfold inclP thrP shiftP
  repeat' split
  all_goals first
    | exact hf
    | simp [op0]
    | skip
  rename_i hz
  simp only [thrE] at hz
  split at hz
  · simp at hz
  · split at hz
    · simp at hz
    · exact Nat.le_of_not_lt (by assumption)
theorem inclP_s (o o2 : OpV) (e : Bool) : (inclP o o2 e).1.s.size ≤ o.s.size := by
  unfold inclP thrP shiftP
  repeat' split
  all_goals first
    | exact Nat.le_refl _
    | exact Nat.zero_le _
theorem exclP_few {o o2 : OpV} (h : Right o) : (exclP o o2).1.l.length ≤ 65536 := by
  have hf := h.few
  have h1 : (Sp.backOldL o.l o2.p (widthP o2)).length ≤ 65536 := by
    unfold Sp.backOldL
    have h1 := Sp.takenL_length (Sp.takenL [] o.l 0 o2.p 0) o.l (o2.p + widthP o2) 1048576 (-widthP o2)
    have h2 := Sp.takenL_length [] o.l 0 o2.p 0
    simp only [List.length_nil] at h2
    omega
  unfold exclP backP outP
  repeat' split
  all_goals first
    | exact Nat.le_trans hf (by omega)
    | exact h1
    | exact Nat.zero_le _
theorem exclP_s (o o2 : OpV) : (exclP o o2).1.s.size ≤ o.s.size := by
  unfold exclP backP outP
  repeat' split
  all_goals first
    | exact Nat.le_refl _
    | exact Nat.zero_le _
end Go.Proofs.YtmeciikfnbbllaaGreatDoor

namespace Go.Proofs.YtmeciikfnbbllaaGreatDoor
open Go.RowKit Go.Lib
set_option maxRecDepth 100000
def Ans (w : World) (q : OpV × Int) (e : Ending) (w' : World) : Prop :=
  ∃ va vm vc, e = .returned (.tuple #[opVal q.1 (.slice va vm vc), .int .i64 q.2]) ∧ OwnF rangeV 2 94 w' w.heap.size (.slice va vm vc) q.1.l ∧ Below w.heap.size w w'
def xInclude (o o2 : OpV) (ear : Bool) : OpV × Int := if firstErr [o, o2] ≠ 0 then (op0, firstErr [o, o2]) else inclP o o2 ear
set_option maxHeartbeats 8000000 in
theorem Include_any {o o2 : OpV} {ear : Bool} {a : Option Addr} {m cap : Nat} {b : Option Addr} {m2 cap2 : Nat} {w : World} (hR : Sp.Rng w a m cap o.l) (hR2 : Sp.Rng w b m2 cap2 o2.l) (hs1 : o.s.size ≤ 281474976710656) (hs : o2.s.size ≤ 281474976710656) (hw : Bar w) :
    Calls Tryz.prog 18 #[opVal o (.slice a m cap), opVal o2 (.slice b m2 cap2), .bool ear] w fun e w' => Ans w (xInclude o o2 ear) e w' := by
  have HE : Hid (∀ (W : World) (g : Nat), Below w.heap.size w W → W.heap[g]? = some (.cells (opF (o, (a, m, cap)) ++ opF (o2, (b, m2, cap2))).toArray 33) → Calls Tryz.prog 15 #[.slice (some ⟨g, 0, none⟩) 2 2] W fun e w' => e = .returned (.int .i64 (firstErr [o, o2])) ∧ Below W.heap.size W w') := fun W g hb hg => ownErrors_any (L := [(o, (a, m, cap)), (o2, (b, m2, cap2))]) (two_ops hg) (fun x hx => by
    simp at hx
    rcases hx with rfl | rfl
    · exact ⟨hR.below hb, by simp only; omega⟩
    · exact ⟨hR2.below hb, by simp only; omega⟩) (hw.below hb)
  have HI : Hid (firstErr [o, o2] = 0 → ∀ (W : World), Below w.heap.size w W → Calls Tryz.prog 21 #[opVal o (.slice a m cap), opVal o2 (.slice b m2 cap2), .bool ear] W fun e w' => ∃ va vm vc, e = .returned (.tuple #[opVal (inclP o o2 ear).1 (.slice va vm vc), .int .i64 (inclP o o2 ear).2]) ∧ Sp.Rng w' va vm vc (inclP o o2 ear).1.l ∧ Below W.heap.size W w') := fun h0 W hb => by
    refine (included_any (hR.below hb) (by omega) (by omega) (hw.below hb) (right_of (first2 h0).1) (right_of (first2 h0).2)).mono ?_
    rintro e w1 ⟨va, vm, vc, rfl, hS, hb1⟩
    obtain ⟨xa, xm, xc, hx, hr⟩ := hS.rd ⟨_, _, _, rfl, hR.below hb⟩ hb1
    cases hx
    exact ⟨_, _, _, rfl, hr, hb1⟩
  have HA : Hid (firstErr [o, o2] = 0 → ∀ (W : World) (va : Option Addr) (vm vc : Nat), Sp.Rng W va vm vc (inclP o o2 ear).1.l → Calls Tryz.prog 34 #[opVal (inclP o o2 ear).1 (.slice va vm vc), .int .i64 (inclP o o2 ear).2] W fun e w' => ∃ ya yc, e = .returned (.tuple #[opVal (inclP o o2 ear).1 (.slice ya vm yc), .int .i64 (inclP o o2 ear).2]) ∧ OwnF rangeV 2 94 w' W.heap.size (.slice ya vm yc) (inclP o o2 ear).1.l ∧ Below W.heap.size W w') := fun h0 W va vm vc hr =>
    apart_any hr (by have h1 := hr.len; have h2 := inclP_few ear (o2 := o2) (right_of (first2 h0).1); omega) (by have := inclP_s o o2 ear; omega)
  obtain ⟨q, hq⟩ : ∃ q, xInclude o o2 ear = q := ⟨_, rfl⟩
  rw [hq]
  unfold xInclude at hq
  generalize firstErr [o, o2] = z at *
  generalize inclP o o2 ear = tq at *
  simp only [opF, List.cons_append, List.nil_append] at HE
  clear hR hR2 hs hs1 hw
  obtain ⟨⟨c3, n3, k3, p3, s3, l3, tc3, tn3, on3⟩, e3⟩ := tq
  unfold Ans
  obtain ⟨c, n, k, p, s, l, tc, tn, on⟩ := o
  obtain ⟨c2, n2, k2, p2, s2, l2, tc2, tn2, on2⟩ := o2
  simp only [opVal] at *
  obtain ⟨W0, hW0⟩ : ∃ W0, ((w.alloc (Obj.cells #[.int .i64 c, .int .i64 n, .int .i64 k, .int .i64 p, .string s, .slice a m cap, .int .i64 tc, .int .i64 tn, .bool on] 33)).alloc (Obj.cells #[.int .i64 c2, .int .i64 n2, .int .i64 k2, .int .i64 p2, .string s2, .slice b m2 cap2, .int .i64 tc2, .int .i64 tn2, .bool on2] 33)).alloc (Obj.cells #[.int .i64 0, .int .i64 0, .int .i64 0, .int .i64 0, .string ⟨#[]⟩, .slice none 0 0, .int .i64 0, .int .i64 0, .bool false] 33) = W0 := ⟨_, rfl⟩
  have hX : W0.heap[w.heap.size]? = some (Obj.cells #[.int .i64 c, .int .i64 n, .int .i64 k, .int .i64 p, .string s, .slice a m cap, .int .i64 tc, .int .i64 tn, .bool on] 33) := by rw [← hW0]; exact (Below.heap_alloc _ _ _ (by simp; omega)).trans ((Below.heap_alloc _ _ _ (by simp)).trans (alloc_last _ _ _ rfl))
  have hY : W0.heap[w.heap.size + 1]? = some (Obj.cells #[.int .i64 c2, .int .i64 n2, .int .i64 k2, .int .i64 p2, .string s2, .slice b m2 cap2, .int .i64 tc2, .int .i64 tn2, .bool on2] 33) := by rw [← hW0]; exact (Below.heap_alloc _ _ _ (by simp)).trans (alloc_last _ _ _ (by simp))
  have hZ : W0.heap[w.heap.size + 2]? = some (Obj.cells #[.int .i64 0, .int .i64 0, .int .i64 0, .int .i64 0, .string ⟨#[]⟩, .slice none 0 0, .int .i64 0, .int .i64 0, .bool false] 33) := by rw [← hW0]; exact alloc_last _ _ _ (by simp)
  have hB0 : Below w.heap.size w W0 := by rw [← hW0]; exact (((Below.refl w.heap.size w).alloc (Nat.le_refl _) _).alloc (by simp) _).alloc (by simp; omega) _
  have alt : w.heap.size < W0.heap.size := (Array.getElem?_eq_some_iff.1 hX).1
  have blt : w.heap.size + 1 < W0.heap.size := (Array.getElem?_eq_some_iff.1 hY).1
  have zlt : w.heap.size + 2 < W0.heap.size := (Array.getElem?_eq_some_iff.1 hZ).1
  obtain ⟨ak0, ak1, ak2, ak3, ak4, ak5, ak6, ak7, ak8⟩ := box9 hX
  obtain ⟨bk0, bk1, bk2, bk3, bk4, bk5, bk6, bk7, bk8⟩ := box9 hY
  obtain ⟨W1, hW1⟩ : ∃ W1, W0.alloc (Obj.cells #[.int .i64 c, .int .i64 n, .int .i64 k, .int .i64 p, .string s, .slice a m cap, .int .i64 tc, .int .i64 tn, .bool on, .int .i64 c2, .int .i64 n2, .int .i64 k2, .int .i64 p2, .string s2, .slice b m2 cap2, .int .i64 tc2, .int .i64 tn2, .bool on2] 33) = W1 := ⟨_, rfl⟩
  have hT : W1.heap[W0.heap.size]? = some (Obj.cells #[.int .i64 c, .int .i64 n, .int .i64 k, .int .i64 p, .string s, .slice a m cap, .int .i64 tc, .int .i64 tn, .bool on, .int .i64 c2, .int .i64 n2, .int .i64 k2, .int .i64 p2, .string s2, .slice b m2 cap2, .int .i64 tc2, .int .i64 tn2, .bool on2] 33) := by rw [← hW1]; exact alloc_last _ _ _ rfl
  have h01 : Below W0.heap.size W0 W1 := by rw [← hW1]; exact (Below.refl _ _).alloc (Nat.le_refl _) _
  go_enter Tryz.func18, Tryz.ntmps18
  go_wp2_with fail
  refine (HE.out W1 _ (hB0.trans (h01.mono hB0.size)) hT).mono ?_
  rintro e w1 ⟨rfl, hcur1⟩
  have hcur : Below W0.heap.size W0 w1 := h01.trans (hcur1.mono h01.size)
  have hB1 := hB0.trans (hcur.mono hB0.size)
  have hX1 := (hcur.block _ alt).trans hX
  have hY1 := (hcur.block _ blt).trans hY
  have hZ1 := (hcur.block _ zlt).trans hZ
  clear HE hcur1 hT h01 hcur hX hY hZ hB0 alt blt zlt hW0 hW1 ak0 ak1 ak2 ak3 ak4 ak5 ak6 ak7 ak8 bk0 bk1 bk2 bk3 bk4 bk5 bk6 bk7 bk8
  obtain ⟨ak0, ak1, ak2, ak3, ak4, ak5, ak6, ak7, ak8⟩ := box9 hX1
  obtain ⟨bk0, bk1, bk2, bk3, bk4, bk5, bk6, bk7, bk8⟩ := box9 hY1
  by_cases hz : z = 0
  · subst hz
    rw [if_neg (by simp)] at hq
    subst hq
    have HI2 := HI.out rfl w1 hB1
    have HA2 := HA.out rfl
    clear HI HA
    go_wp2_with fail
    refine HI2.mono ?_
    rintro e w2 ⟨va, vm, vc, rfl, hRd, hb2⟩
    have hB2 := hB1.trans (hb2.mono hB1.size)
    have hZ2 := (hb2.block _ (Array.getElem?_eq_some_iff.1 hZ1).1).trans hZ1
    have zlt : w.heap.size + 2 < w2.heap.size := (Array.getElem?_eq_some_iff.1 hZ2).1
    have HA3 := HA2 w2 va vm vc hRd
    clear HA2 hRd hb2 hB1 hZ1 hX1 hY1 HI2 ak0 ak1 ak2 ak3 ak4 ak5 ak6 ak7 ak8 bk0 bk1 bk2 bk3 bk4 bk5 bk6 bk7 bk8
    go_wp2_with fail
    refine HA3.mono ?_
    rintro e w3 ⟨ya, yc, rfl, hO, hb3⟩
    have hB3 := hB2.trans (hb3.mono hB2.size)
    have hZ3 := (hb3.block _ zlt).trans hZ2
    have HO : Hid (OwnF rangeV 2 94 w3 w2.heap.size (.slice ya vm yc) l3) := hO
    clear hO HA3 hb3 hB2 hZ2
    obtain ⟨W9, e9, hx9, hB9, hK9⟩ := store9 hZ3 hB3 (by omega) (.int .i64 c3) (.int .i64 n3) (.int .i64 k3) (.int .i64 p3) (.string s3) (.slice ya vm yc) (.int .i64 tc3) (.int .i64 tn3) (.bool on3)
    obtain ⟨d0, d1, d2, d3, d4, d5, d6, d7, d8⟩ := box9 hZ3
    obtain ⟨dz0, dz1, dz2, dz3, dz4, dz5, dz6, dz7, dz8⟩ := wr9 hZ3
    obtain ⟨r0, r1, r2, r3, r4, r5, r6, r7, r8⟩ := box9 hx9
    go_wp2_with fail
    try rw [e9]
    refine bodyPost_ret (v := .tuple #[.agg #[.int .i64 c3, .int .i64 n3, .int .i64 k3, .int .i64 p3, .string s3, .slice ya vm yc, .int .i64 tc3, .int .i64 tn3, .bool on3], .int .i64 e3]) (by simp [results, Tryz.results18, go_sem, r0, r1, r2, r3, r4, r5, r6, r7, r8]) rfl ⟨ya, vm, yc, rfl, (hK9.own HO.out zlt).mono (by omega), hB9⟩
  · rw [if_pos hz] at hq
    subst hq
    have t1 : (z == 0) = false := beq_eq_false_iff_ne.2 hz
    clear HI HA hz
    obtain ⟨W9, e9, hx9, hB9, hK9⟩ := store9 hZ1 hB1 (by omega) (.int .i64 0) (.int .i64 0) (.int .i64 0) (.int .i64 0) (.string ⟨#[]⟩) (.slice none 0 0) (.int .i64 0) (.int .i64 0) (.bool false)
    obtain ⟨d0, d1, d2, d3, d4, d5, d6, d7, d8⟩ := box9 hZ1
    obtain ⟨dz0, dz1, dz2, dz3, dz4, dz5, dz6, dz7, dz8⟩ := wr9 hZ1
    obtain ⟨r0, r1, r2, r3, r4, r5, r6, r7, r8⟩ := box9 hx9
    go_wp2_with fail
    try rw [e9]
    refine bodyPost_ret (v := .tuple #[.agg #[.int .i64 0, .int .i64 0, .int .i64 0, .int .i64 0, .string ⟨#[]⟩, .slice none 0 0, .int .i64 0, .int .i64 0, .bool false], .int .i64 z]) (by simp [results, Tryz.results18, go_sem, r0, r1, r2, r3, r4, r5, r6, r7, r8]) rfl ⟨none, 0, 0, rfl, ownF_nil _ _, hB9⟩
def xExclude (o o2 : OpV) : OpV × Int := if firstErr [o, o2] ≠ 0 then (op0, firstErr [o, o2]) else exclP o o2
set_option maxHeartbeats 8000000 in
theorem Exclude_any {o o2 : OpV} {a : Option Addr} {m cap : Nat} {b : Option Addr} {m2 cap2 : Nat} {w : World} (hR : Sp.Rng w a m cap o.l) (hR2 : Sp.Rng w b m2 cap2 o2.l) (hs1 : o.s.size ≤ 281474976710656) (hs : o2.s.size ≤ 281474976710656) (hw : Bar w) :
    Calls Tryz.prog 19 #[opVal o (.slice a m cap), opVal o2 (.slice b m2 cap2)] w fun e w' => Ans w (xExclude o o2) e w' := by
  have HE : Hid (∀ (W : World) (g : Nat), Below w.heap.size w W → W.heap[g]? = some (.cells (opF (o, (a, m, cap)) ++ opF (o2, (b, m2, cap2))).toArray 33) → Calls Tryz.prog 15 #[.slice (some ⟨g, 0, none⟩) 2 2] W fun e w' => e = .returned (.int .i64 (firstErr [o, o2])) ∧ Below W.heap.size W w') := fun W g hb hg => ownErrors_any (L := [(o, (a, m, cap)), (o2, (b, m2, cap2))]) (two_ops hg) (fun x hx => by
    simp at hx
    rcases hx with rfl | rfl
    · exact ⟨hR.below hb, by simp only; omega⟩
    · exact ⟨hR2.below hb, by simp only; omega⟩) (hw.below hb)
  have HI : Hid (firstErr [o, o2] = 0 → ∀ (W : World), Below w.heap.size w W → Calls Tryz.prog 35 #[opVal o (.slice a m cap), opVal o2 (.slice b m2 cap2)] W fun e w' => ∃ va vm vc, e = .returned (.tuple #[opVal (exclP o o2).1 (.slice va vm vc), .int .i64 (exclP o o2).2]) ∧ Sp.Rng w' va vm vc (exclP o o2).1.l ∧ Below W.heap.size W w') := fun h0 W hb => by
    refine (excluded_any (hR.below hb) (by omega) (hw.below hb) (right_of (first2 h0).1) (right_of (first2 h0).2)).mono ?_
    rintro e w1 ⟨va, vm, vc, rfl, hS, hb1⟩
    obtain ⟨xa, xm, xc, hx, hr⟩ := hS.rd ⟨_, _, _, rfl, hR.below hb⟩ hb1
    cases hx
    exact ⟨_, _, _, rfl, hr, hb1⟩
  have HA : Hid (firstErr [o, o2] = 0 → ∀ (W : World) (va : Option Addr) (vm vc : Nat), Sp.Rng W va vm vc (exclP o o2).1.l → Calls Tryz.prog 34 #[opVal (exclP o o2).1 (.slice va vm vc), .int .i64 (exclP o o2).2] W fun e w' => ∃ ya yc, e = .returned (.tuple #[opVal (exclP o o2).1 (.slice ya vm yc), .int .i64 (exclP o o2).2]) ∧ OwnF rangeV 2 94 w' W.heap.size (.slice ya vm yc) (exclP o o2).1.l ∧ Below W.heap.size W w') := fun h0 W va vm vc hr =>
    apart_any hr (by have h1 := hr.len; have h2 := exclP_few (o2 := o2) (right_of (first2 h0).1); omega) (by have := exclP_s o o2; omega)
  obtain ⟨q, hq⟩ : ∃ q, xExclude o o2 = q := ⟨_, rfl⟩
  rw [hq]
  unfold xExclude at hq
  generalize firstErr [o, o2] = z at *
  generalize exclP o o2 = tq at *
  simp only [opF, List.cons_append, List.nil_append] at HE
  clear hR hR2 hs hs1 hw
  obtain ⟨⟨c3, n3, k3, p3, s3, l3, tc3, tn3, on3⟩, e3⟩ := tq
  unfold Ans
  obtain ⟨c, n, k, p, s, l, tc, tn, on⟩ := o
  obtain ⟨c2, n2, k2, p2, s2, l2, tc2, tn2, on2⟩ := o2
  simp only [opVal] at *
  obtain ⟨W0, hW0⟩ : ∃ W0, ((w.alloc (Obj.cells #[.int .i64 c, .int .i64 n, .int .i64 k, .int .i64 p, .string s, .slice a m cap, .int .i64 tc, .int .i64 tn, .bool on] 33)).alloc (Obj.cells #[.int .i64 c2, .int .i64 n2, .int .i64 k2, .int .i64 p2, .string s2, .slice b m2 cap2, .int .i64 tc2, .int .i64 tn2, .bool on2] 33)).alloc (Obj.cells #[.int .i64 0, .int .i64 0, .int .i64 0, .int .i64 0, .string ⟨#[]⟩, .slice none 0 0, .int .i64 0, .int .i64 0, .bool false] 33) = W0 := ⟨_, rfl⟩
  have hX : W0.heap[w.heap.size]? = some (Obj.cells #[.int .i64 c, .int .i64 n, .int .i64 k, .int .i64 p, .string s, .slice a m cap, .int .i64 tc, .int .i64 tn, .bool on] 33) := by rw [← hW0]; exact (Below.heap_alloc _ _ _ (by simp; omega)).trans ((Below.heap_alloc _ _ _ (by simp)).trans (alloc_last _ _ _ rfl))
  have hY : W0.heap[w.heap.size + 1]? = some (Obj.cells #[.int .i64 c2, .int .i64 n2, .int .i64 k2, .int .i64 p2, .string s2, .slice b m2 cap2, .int .i64 tc2, .int .i64 tn2, .bool on2] 33) := by rw [← hW0]; exact (Below.heap_alloc _ _ _ (by simp)).trans (alloc_last _ _ _ (by simp))
  have hZ : W0.heap[w.heap.size + 2]? = some (Obj.cells #[.int .i64 0, .int .i64 0, .int .i64 0, .int .i64 0, .string ⟨#[]⟩, .slice none 0 0, .int .i64 0, .int .i64 0, .bool false] 33) := by rw [← hW0]; exact alloc_last _ _ _ (by simp)
  have hB0 : Below w.heap.size w W0 := by rw [← hW0]; exact (((Below.refl w.heap.size w).alloc (Nat.le_refl _) _).alloc (by simp) _).alloc (by simp; omega) _
  have alt : w.heap.size < W0.heap.size := (Array.getElem?_eq_some_iff.1 hX).1
  have blt : w.heap.size + 1 < W0.heap.size := (Array.getElem?_eq_some_iff.1 hY).1
  have zlt : w.heap.size + 2 < W0.heap.size := (Array.getElem?_eq_some_iff.1 hZ).1
  obtain ⟨ak0, ak1, ak2, ak3, ak4, ak5, ak6, ak7, ak8⟩ := box9 hX
  obtain ⟨bk0, bk1, bk2, bk3, bk4, bk5, bk6, bk7, bk8⟩ := box9 hY
  obtain ⟨W1, hW1⟩ : ∃ W1, W0.alloc (Obj.cells #[.int .i64 c, .int .i64 n, .int .i64 k, .int .i64 p, .string s, .slice a m cap, .int .i64 tc, .int .i64 tn, .bool on, .int .i64 c2, .int .i64 n2, .int .i64 k2, .int .i64 p2, .string s2, .slice b m2 cap2, .int .i64 tc2, .int .i64 tn2, .bool on2] 33) = W1 := ⟨_, rfl⟩
  have hT : W1.heap[W0.heap.size]? = some (Obj.cells #[.int .i64 c, .int .i64 n, .int .i64 k, .int .i64 p, .string s, .slice a m cap, .int .i64 tc, .int .i64 tn, .bool on, .int .i64 c2, .int .i64 n2, .int .i64 k2, .int .i64 p2, .string s2, .slice b m2 cap2, .int .i64 tc2, .int .i64 tn2, .bool on2] 33) := by rw [← hW1]; exact alloc_last _ _ _ rfl
  have h01 : Below W0.heap.size W0 W1 := by rw [← hW1]; exact (Below.refl _ _).alloc (Nat.le_refl _) _
  go_enter Tryz.func19, Tryz.ntmps19
  go_wp2_with fail
  refine (HE.out W1 _ (hB0.trans (h01.mono hB0.size)) hT).mono ?_
  rintro e w1 ⟨rfl, hcur1⟩
  have hcur : Below W0.heap.size W0 w1 := h01.trans (hcur1.mono h01.size)
  have hB1 := hB0.trans (hcur.mono hB0.size)
  have hX1 := (hcur.block _ alt).trans hX
  have hY1 := (hcur.block _ blt).trans hY
  have hZ1 := (hcur.block _ zlt).trans hZ
  clear HE hcur1 hT h01 hcur hX hY hZ hB0 alt blt zlt hW0 hW1 ak0 ak1 ak2 ak3 ak4 ak5 ak6 ak7 ak8 bk0 bk1 bk2 bk3 bk4 bk5 bk6 bk7 bk8
  obtain ⟨ak0, ak1, ak2, ak3, ak4, ak5, ak6, ak7, ak8⟩ := box9 hX1
  obtain ⟨bk0, bk1, bk2, bk3, bk4, bk5, bk6, bk7, bk8⟩ := box9 hY1
  by_cases hz : z = 0
  · subst hz
    rw [if_neg (by simp)] at hq
    subst hq
    have HI2 := HI.out rfl w1 hB1
    have HA2 := HA.out rfl
    clear HI HA
    go_wp2_with fail
    refine HI2.mono ?_
    rintro e w2 ⟨va, vm, vc, rfl, hRd, hb2⟩
    have hB2 := hB1.trans (hb2.mono hB1.size)
    have hZ2 := (hb2.block _ (Array.getElem?_eq_some_iff.1 hZ1).1).trans hZ1
    have zlt : w.heap.size + 2 < w2.heap.size := (Array.getElem?_eq_some_iff.1 hZ2).1
    have HA3 := HA2 w2 va vm vc hRd
    clear HA2 hRd hb2 hB1 hZ1 hX1 hY1 HI2 ak0 ak1 ak2 ak3 ak4 ak5 ak6 ak7 ak8 bk0 bk1 bk2 bk3 bk4 bk5 bk6 bk7 bk8
    go_wp2_with fail
    refine HA3.mono ?_
    rintro e w3 ⟨ya, yc, rfl, hO, hb3⟩
    have hB3 := hB2.trans (hb3.mono hB2.size)
    have hZ3 := (hb3.block _ zlt).trans hZ2
    have HO : Hid (OwnF rangeV 2 94 w3 w2.heap.size (.slice ya vm yc) l3) := hO
    clear hO HA3 hb3 hB2 hZ2
    obtain ⟨W9, e9, hx9, hB9, hK9⟩ := store9 hZ3 hB3 (by omega) (.int .i64 c3) (.int .i64 n3) (.int .i64 k3) (.int .i64 p3) (.string s3) (.slice ya vm yc) (.int .i64 tc3) (.int .i64 tn3) (.bool on3)
    obtain ⟨d0, d1, d2, d3, d4, d5, d6, d7, d8⟩ := box9 hZ3
    obtain ⟨dz0, dz1, dz2, dz3, dz4, dz5, dz6, dz7, dz8⟩ := wr9 hZ3
    obtain ⟨r0, r1, r2, r3, r4, r5, r6, r7, r8⟩ := box9 hx9
    go_wp2_with fail
    try rw [e9]
    refine bodyPost_ret (v := .tuple #[.agg #[.int .i64 c3, .int .i64 n3, .int .i64 k3, .int .i64 p3, .string s3, .slice ya vm yc, .int .i64 tc3, .int .i64 tn3, .bool on3], .int .i64 e3]) (by simp [results, Tryz.results19, go_sem, r0, r1, r2, r3, r4, r5, r6, r7, r8]) rfl ⟨ya, vm, yc, rfl, (hK9.own HO.out zlt).mono (by omega), hB9⟩
  · rw [if_pos hz] at hq
    subst hq
    have t1 : (z == 0) = false := beq_eq_false_iff_ne.2 hz
    clear HI HA hz
    obtain ⟨W9, e9, hx9, hB9, hK9⟩ := store9 hZ1 hB1 (by omega) (.int .i64 0) (.int .i64 0) (.int .i64 0) (.int .i64 0) (.string ⟨#[]⟩) (.slice none 0 0) (.int .i64 0) (.int .i64 0) (.bool false)
    obtain ⟨d0, d1, d2, d3, d4, d5, d6, d7, d8⟩ := box9 hZ1
    obtain ⟨dz0, dz1, dz2, dz3, dz4, dz5, dz6, dz7, dz8⟩ := wr9 hZ1
    obtain ⟨r0, r1, r2, r3, r4, r5, r6, r7, r8⟩ := box9 hx9
    go_wp2_with fail
    try rw [e9]
    refine bodyPost_ret (v := .tuple #[.agg #[.int .i64 0, .int .i64 0, .int .i64 0, .int .i64 0, .string ⟨#[]⟩, .slice none 0 0, .int .i64 0, .int .i64 0, .bool false], .int .i64 z]) (by simp [results, Tryz.results19, go_sem, r0, r1, r2, r3, r4, r5, r6, r7, r8]) rfl ⟨none, 0, 0, rfl, ownF_nil _ _, hB9⟩
end Go.Proofs.YtmeciikfnbbllaaGreatDoor
