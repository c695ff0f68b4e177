import Derived.Test.YtijpfbcippijoaaGreatDoorOgF
import Derived.Test.YtijpfbcippijoaaGreatDoorQeBE
import Derived.Deep.MidRow
namespace Go.Proofs.YtijpfbcippijoaaGreatDoor
open Go.RowKit Go.Lib
set_option maxRecDepth 100000
set_option maxHeartbeats 4000000 in
theorem gEqual_self {o : OpV} {w : World} {a b : Option Addr} {n m cap capb : Nat} (h : Sp.Rng w a n cap o.l) (hk : Sp.Rng w b m capb o.l) :
    Calls Tryz.prog 16 #[opVal o (.slice a n cap), opVal o (.slice b m capb)] w fun e w' => e = .returned (.bool true) ∧ Below w.heap.size w w' := by
  obtain ⟨c1, n1, k1, p1, s1, l1, tc1, tn1, on1⟩ := o
  simp only [opVal] at *
  have HS : Hid (∀ w' : World, Below w.heap.size w w' → Calls Tryz.prog 38 #[.slice a n cap, .slice b m capb] w' fun e w'' => e = .returned (.bool true) ∧ Below w'.heap.size w' w'') := fun w' hb => by
    have := gSame_any (h.below hb) (hk.below hb)
    rwa [decide_eq_true rfl] at this
  clear h hk
  go_enter Tryz.func16, Tryz.ntmps16
  go_wp2_with fail
  generalize hW0 : (w.alloc (Obj.cells #[.int .i64 c1, .int .i64 n1, .int .i64 k1, .int .i64 p1, .string s1, .slice a n cap, .int .i64 tc1, .int .i64 tn1, .bool on1] 44)).alloc (Obj.cells #[.int .i64 c1, .int .i64 n1, .int .i64 k1, .int .i64 p1, .string s1, .slice b m capb, .int .i64 tc1, .int .i64 tn1, .bool on1] 44) = W0
  have hX : W0.heap[w.heap.size]? = some (Obj.cells #[.int .i64 c1, .int .i64 n1, .int .i64 k1, .int .i64 p1, .string s1, .slice a n cap, .int .i64 tc1, .int .i64 tn1, .bool on1] 44) := by rw [← hW0]; exact (Below.heap_alloc _ _ _ (by simp)).trans (alloc_last _ _ _ rfl)
  have hZ : W0.heap[w.heap.size + 1]? = some (Obj.cells #[.int .i64 c1, .int .i64 n1, .int .i64 k1, .int .i64 p1, .string s1, .slice b m capb, .int .i64 tc1, .int .i64 tn1, .bool on1] 44) := by rw [← hW0]; exact alloc_last _ _ _ (by simp)
  have hB0 : Below w.heap.size w W0 := by rw [← hW0]; exact ((Below.refl w.heap.size w).alloc (Nat.le_refl _) _).alloc (by simp) _
  have hlt : w.heap.size + 1 < W0.heap.size := (Array.getElem?_eq_some_iff.1 hZ).1
  clear hW0
  refine (HS.out _ hB0).mono ?_
  rintro e w1 ⟨rfl, hb1⟩
  have hX1 := (hb1.block _ (by omega)).trans hX
  have hZ1 := (hb1.block _ (by omega)).trans hZ
  have hB := hB0.trans (hb1.mono hB0.size)
  obtain ⟨d0, d1, d2, d3, d4, d5, d6, d7, d8⟩ := box9 hX1
  obtain ⟨f0, f1, f2, f3, f4, f5, f6, f7, f8⟩ := box9 hZ1
  clear hX hZ hX1 hZ1 hB0 hb1 HS hlt
  have e0 : (c1 == c1) = true := beq_self_eq_true _
  have e1 : (n1 == n1) = true := beq_self_eq_true _
  have e2 : (k1 == k1) = true := beq_self_eq_true _
  have e3 : (p1 == p1) = true := beq_self_eq_true _
  have e5 : (tc1 == tc1) = true := beq_self_eq_true _
  have e6 : (tn1 == tn1) = true := beq_self_eq_true _
  have e7 : (on1 == on1) = true := beq_self_eq_true _
  go_wp2_with fail
  go_ret
  exact ⟨rfl, hB⟩
set_option maxHeartbeats 4000000 in
theorem spare_any {o : OpV} {w : World} {a : Option Addr} {n cap : Nat} (h : Rw rngV 2 w a (n + 2) cap (o.l ++ [(-7, -8), (-9, -9)])) :
    Calls Tryz.prog 17 #[opVal o (.slice a n cap)] w fun e w' => e = .returned (.bool true) ∧ Below w.heap.size w w' := by
  obtain ⟨c, k0, k, p, s, l, tc, tn, on⟩ := o
  simp only [opVal] at *
  have hlen : l.length = n := by have := h.len; simp at this; omega
  have hroom := h.room
  have hcap : n + 2 ≤ 9223372036854775807 := by have := hroom.2; simp only [maxLen] at this; omega
  obtain ⟨g, off, rfl, hg, hc⟩ := h.cells (by omega)
  have x0 : (l ++ [((-7 : Int), (-8 : Int)), (-9, -9)])[n]? = some (-7, -8) := by rw [List.getElem?_append_right (by omega), hlen]; simp
  have x1 : (l ++ [((-7 : Int), (-8 : Int)), (-9, -9)])[n + 1]? = some (-9, -9) := by rw [List.getElem?_append_right (by omega), hlen, show n + 1 - n = 1 by omega]; rfl
  have c0 := hc n _ x0 0 _ rfl
  have c1 := hc n _ x0 1 _ rfl
  have c2 := hc (n + 1) _ x1 0 _ rfl
  have c3 := hc (n + 1) _ x1 1 _ rfl
  have hct := fun W => cut_high kindRo elemG4 W (some ⟨g, off, none⟩) n cap (n + 2) (by omega)
  clear h hc x0 x1
  have hB0 : Below w.heap.size w (w.alloc (Obj.cells #[.int .i64 c, .int .i64 k0, .int .i64 k, .int .i64 p, .string s, .slice (some ⟨g, off, none⟩) n cap, .int .i64 tc, .int .i64 tn, .bool on] 44)) := (Below.refl w.heap.size w).alloc (Nat.le_refl _) _
  have z0 : (w.alloc (Obj.cells #[.int .i64 c, .int .i64 k0, .int .i64 k, .int .i64 p, .string s, .slice (some ⟨g, off, none⟩) n cap, .int .i64 tc, .int .i64 tn, .bool on] 44)).cell? ⟨g, off + n * 2, none⟩ = some (.int .i64 (-7)) := (hB0.cell (p := ⟨g, off + n * 2, none⟩) hg).trans c0
  have z1 : (w.alloc (Obj.cells #[.int .i64 c, .int .i64 k0, .int .i64 k, .int .i64 p, .string s, .slice (some ⟨g, off, none⟩) n cap, .int .i64 tc, .int .i64 tn, .bool on] 44)).cell? ⟨g, off + n * 2 + 1, none⟩ = some (.int .i64 (-8)) := (hB0.cell (p := ⟨g, off + n * 2 + 1, none⟩) hg).trans c1
  have z2 : (w.alloc (Obj.cells #[.int .i64 c, .int .i64 k0, .int .i64 k, .int .i64 p, .string s, .slice (some ⟨g, off, none⟩) n cap, .int .i64 tc, .int .i64 tn, .bool on] 44)).cell? ⟨g, off + (n + 1) * 2, none⟩ = some (.int .i64 (-9)) := (hB0.cell (p := ⟨g, off + (n + 1) * 2, none⟩) hg).trans c2
  have z3 : (w.alloc (Obj.cells #[.int .i64 c, .int .i64 k0, .int .i64 k, .int .i64 p, .string s, .slice (some ⟨g, off, none⟩) n cap, .int .i64 tc, .int .i64 tn, .bool on] 44)).cell? ⟨g, off + (n + 1) * 2 + 1, none⟩ = some (.int .i64 (-9)) := (hB0.cell (p := ⟨g, off + (n + 1) * 2 + 1, none⟩) hg).trans c3
  clear c0 c1 c2 c3
  go_enter Tryz.func17, Tryz.ntmps17
  go_wp2_with fail
  go_ret
  exact ⟨rfl, hB0⟩
end Go.Proofs.YtijpfbcippijoaaGreatDoor

namespace Go.Proofs.YtijpfbcippijoaaGreatDoor
open Go.RowKit Go.Lib
set_option maxRecDepth 100000
structure StepV where
  k : Int
  o : OpV
  a : Option Addr
  m : Nat
  cap : Nat
  o2 : OpV
  a2 : Option Addr
  m2 : Nat
  cap2 : Nat
  tot : Int
  ln : ByteArray
def stepF (x : StepV) : List Value := [.int .i64 x.k, .int .i64 x.o.c, .int .i64 x.o.n, .int .i64 x.o.k, .int .i64 x.o.p, .string x.o.s, .slice x.a x.m x.cap, .int .i64 x.o.tc, .int .i64 x.o.tn, .bool x.o.on, .int .i64 x.o2.c, .int .i64 x.o2.n, .int .i64 x.o2.k, .int .i64 x.o2.p, .string x.o2.s, .slice x.a2 x.m2 x.cap2, .int .i64 x.o2.tc, .int .i64 x.o2.tn, .bool x.o2.on, .int .i64 x.tot, .string x.ln]
theorem layS : Lay stepF 21 := ⟨fun _ => rfl, by decide, fun x u hu => by
  simp only [stepF, List.mem_cons, List.not_mem_nil, or_false] at hu
  rcases hu with h | h | h | h | h | h | h | h | h | h | h | h | h | h | h | h | h | h | h | h | h <;> (subst h; rfl)⟩
def StepOk (W : World) (x : StepV) : Prop := Sp.Rng W x.a x.m x.cap x.o.l ∧ x.m * 16 ≤ 140737488351232 ∧ x.o.s.size ≤ 2097152
theorem box21 {W : World} {b : Nat} {T : TypeId} {v0 v1 v2 v3 v4 v5 v6 v7 v8 v9 v10 v11 v12 v13 v14 v15 v16 v17 v18 v19 v20 : Value} (h : W.heap[b]? = some (.cells #[v0, v1, v2, v3, v4, v5, v6, v7, v8, v9, v10, v11, v12, v13, v14, v15, v16, v17, v18, v19, v20] T)) :
    W.cell? ⟨b, 0, none⟩ = some v0 ∧ W.cell? ⟨b, 1, none⟩ = some v1 ∧ W.cell? ⟨b, 2, none⟩ = some v2 ∧ W.cell? ⟨b, 3, none⟩ = some v3 ∧ W.cell? ⟨b, 4, none⟩ = some v4 ∧ W.cell? ⟨b, 5, none⟩ = some v5 ∧ W.cell? ⟨b, 6, none⟩ = some v6 ∧ W.cell? ⟨b, 7, none⟩ = some v7 ∧ W.cell? ⟨b, 8, none⟩ = some v8 ∧ W.cell? ⟨b, 9, none⟩ = some v9 ∧ W.cell? ⟨b, 10, none⟩ = some v10 ∧ W.cell? ⟨b, 11, none⟩ = some v11 ∧ W.cell? ⟨b, 12, none⟩ = some v12 ∧ W.cell? ⟨b, 13, none⟩ = some v13 ∧ W.cell? ⟨b, 14, none⟩ = some v14 ∧ W.cell? ⟨b, 15, none⟩ = some v15 ∧ W.cell? ⟨b, 16, none⟩ = some v16 ∧ W.cell? ⟨b, 17, none⟩ = some v17 ∧ W.cell? ⟨b, 18, none⟩ = some v18 ∧ W.cell? ⟨b, 19, none⟩ = some v19 ∧ W.cell? ⟨b, 20, none⟩ = some v20 := by
  simp only [Lib.cell_of_heap h]
  exact ⟨rfl, rfl, rfl, rfl, rfl, rfl, rfl, rfl, rfl, rfl, rfl, rfl, rfl, rfl, rfl, rfl, rfl, rfl, rfl, rfl, rfl⟩
theorem range_block {W : World} {b : Nat} {T : TypeId} {l : List Value} (h : W.heap[b]? = some (.cells l.toArray T)) : W.rangeAt b 0 l := fun j v hv => by
  rw [cell_of_row W b (0 + j) _ _ _ h, Nat.zero_add, List.getElem?_toArray]
  exact hv
end Go.Proofs.YtijpfbcippijoaaGreatDoor
