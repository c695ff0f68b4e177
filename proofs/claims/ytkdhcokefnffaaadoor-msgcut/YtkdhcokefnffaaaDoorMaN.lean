import Derived.Test.YtkdhcokefnffaaaDoorMaM
/-! Decode's deferred closure. -/
namespace Go.Proofs.YtkdhcokefnffaaaDoor
open Go.RowKit Go.Lib Sp
set_option maxRecDepth 100000

set_option maxHeartbeats 2000000 in
theorem catch_panicking (pa pe : Nat) (x y : Int) (at_ why : Int) (w : World) (ha : w.heap[pa]? = some (.cells #[.int .i64 x] 3)) (he : w.heap[pe]? = some (.cells #[.int .i64 y] 40)) (hne : pe ≠ pa) :
    CallsD Tryd.prog 17 #[.pointer (some ⟨pa, 0, none⟩), .pointer (some ⟨pe, 0, none⟩)] (.panicking [{ v := faultV at_ why, recovered := false }]) w fun e u' w' =>
      e = .returned (.tuple #[]) ∧ u' = .panicking [{ v := faultV at_ why, recovered := true }] ∧ w'.heap[pa]? = some (.cells #[.int .i64 at_] 3) ∧ w'.heap[pe]? = some (.cells #[.int .i64 why] 40) ∧ Chg (fun g => g = pa ∨ g = pe) w w' := by
  refine callsD_of_wpS Tryd.func17 rfl fun c₀ cs hu => ?_
  apply wpS_region
  simp [wpOpsS, go_sem, recoverD, hu, Tryd.ntmps17]
  refine (caught_fault _ _ _).mono ?_
  rintro e w1 ⟨rfl, hb⟩
  have ha1 := (hb.block _ (Array.getElem?_eq_some_iff.1 ha).1).trans ha
  have he1 := (hb.block _ (Array.getElem?_eq_some_iff.1 he).1).trans he
  have c1 : w1.cell? ⟨pa, 0, none⟩ = some (.int .i64 x) := by rw [Lib.cell_of_heap ha1]; rfl
  have f1 := Lib.frozen_of_heap ha1 0
  have ha2 := heap_setCell_cells ha1 0 (.int .i64 at_)
  have he2 : (w1.setCell ⟨pa, 0, none⟩ (.int .i64 at_)).heap[pe]? = some (.cells #[.int .i64 y] 40) := (Below.heap_setCell _ _ _ _ hne).trans he1
  have c2 : w1.cell? ⟨pe, 0, none⟩ = some (.int .i64 y) := by rw [Lib.cell_of_heap he1]; rfl
  have f2 := Lib.frozen_of_heap he1 0
  have he3 := heap_setCell_cells he2 0 (.int .i64 why)
  have ha3 : ((w1.setCell ⟨pa, 0, none⟩ (.int .i64 at_)).setCell ⟨pe, 0, none⟩ (.int .i64 why)).heap[pa]? = some (.cells #[.int .i64 at_] 3) := (Below.heap_setCell _ _ _ _ (by simp only; exact fun e => hne e.symm)).trans ha2
  have hC : Chg (fun g => g = pa ∨ g = pe) w ((w1.setCell ⟨pa, 0, none⟩ (.int .i64 at_)).setCell ⟨pe, 0, none⟩ (.int .i64 why)) := (Chg.of_below hb).trans ((Chg.set (D := fun g => g = pa ∨ g = pe) (q := pa) 0 w1 _ (.inl rfl)).trans (Chg.set (D := fun g => g = pa ∨ g = pe) (q := pe) 0 _ _ (.inr rfl)))
  simp [go_sem, c1, f1, c2, f2, bodyPostS, results, Tryd.results17]
  exact ⟨ha3, he3, hC⟩

set_option maxHeartbeats 2000000 in
theorem catch_idle (pa pe : Nat) (x y : Int) (w : World) (ha : w.heap[pa]? = some (.cells #[.int .i64 x] 3)) (he : w.heap[pe]? = some (.cells #[.int .i64 y] 40)) (hne : pe ≠ pa) :
    CallsD Tryd.prog 17 #[.pointer (some ⟨pa, 0, none⟩), .pointer (some ⟨pe, 0, none⟩)] .returning w fun e u' w' =>
      e = .returned (.tuple #[]) ∧ u' = .returning ∧ w'.heap[pa]? = some (.cells #[.int .i64 0] 3) ∧ w'.heap[pe]? = some (.cells #[.int .i64 0] 40) ∧ Chg (fun g => g = pa ∨ g = pe) w w' := by
  refine callsD_of_wpS Tryd.func17 rfl fun c₀ cs hu => ?_
  apply wpS_region
  simp [wpOpsS, go_sem, recoverD, hu, Tryd.ntmps17]
  refine (caught_nil _).mono ?_
  rintro e w1 ⟨rfl, rfl⟩
  have hb : Below w1.heap.size w1 w1 := Below.refl _ _
  have ha1 := (hb.block _ (Array.getElem?_eq_some_iff.1 ha).1).trans ha
  have he1 := (hb.block _ (Array.getElem?_eq_some_iff.1 he).1).trans he
  have c1 : w1.cell? ⟨pa, 0, none⟩ = some (.int .i64 x) := by rw [Lib.cell_of_heap ha1]; rfl
  have f1 := Lib.frozen_of_heap ha1 0
  have ha2 := heap_setCell_cells ha1 0 (.int .i64 0)
  have he2 : (w1.setCell ⟨pa, 0, none⟩ (.int .i64 0)).heap[pe]? = some (.cells #[.int .i64 y] 40) := (Below.heap_setCell _ _ _ _ hne).trans he1
  have c2 : w1.cell? ⟨pe, 0, none⟩ = some (.int .i64 y) := by rw [Lib.cell_of_heap he1]; rfl
  have f2 := Lib.frozen_of_heap he1 0
  have he3 := heap_setCell_cells he2 0 (.int .i64 0)
  have ha3 : ((w1.setCell ⟨pa, 0, none⟩ (.int .i64 0)).setCell ⟨pe, 0, none⟩ (.int .i64 0)).heap[pa]? = some (.cells #[.int .i64 0] 3) := (Below.heap_setCell _ _ _ _ (by simp only; exact fun e => hne e.symm)).trans ha2
  have hC : Chg (fun g => g = pa ∨ g = pe) w1 ((w1.setCell ⟨pa, 0, none⟩ (.int .i64 0)).setCell ⟨pe, 0, none⟩ (.int .i64 0)) := (Chg.of_below hb).trans ((Chg.set (D := fun g => g = pa ∨ g = pe) (q := pa) 0 w1 _ (.inl rfl)).trans (Chg.set (D := fun g => g = pa ∨ g = pe) (q := pe) 0 _ _ (.inr rfl)))
  simp [go_sem, c1, f1, c2, f2, bodyPostS, results, Tryd.results17]
  exact ⟨.returning, by rw [← hu], rfl, ha3, he3, hC⟩
end Go.Proofs.YtkdhcokefnffaaaDoor
