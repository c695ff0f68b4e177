import Derived.Test.YtkdhcokefnffaaaDoorMaF
import Derived.Laws.EntriesVeiled
/-! The table of fields. -/
namespace Go.Proofs.YtkdhcokefnffaaaDoor
open Go.RowKit Go.Lib Sp
set_option maxRecDepth 100000

def fldV (x : Nat × Nat) : List Value := [.func (.func x.1) #[] #[], .func (.func x.2) #[] #[]]
def fieldsP (c : Int) : List (Nat × Nat) :=
  if c = 1 then [(43, 44)] else if c = 3 then [(43, 44), (45, 46)] else [(43, 44), (47, 48)]

theorem layFld : Lay fldV 2 := ⟨fun _ => rfl, by decide, fun x u hu => by simp [fldV] at hu; rcases hu with rfl | rfl <;> rfl⟩
/-- A block, just as a slice of all of it. -/
theorem rw_block {α : Type} {f : α → List Value} {k n : Nat} {W : World} {g : Nat} {T : TypeId} {l : List α} (h : W.heap[g]? = some (.cells (flatF f l).toArray T)) (hf : Lay f k) (hl : l.length = n) (hm : n ≤ maxLen) : Rw f k W (some ⟨g, 0, none⟩) n n l := by
  refine ⟨hl, ⟨Nat.le_refl _, hm⟩, fun h0 => ⟨g, 0, rfl, (Array.getElem?_eq_some_iff.1 h).1, fun j x hj i v hv => ?_⟩⟩
  have hi : i < k := by
    have := (List.getElem?_eq_some_iff.1 hv).1
    rwa [hf.len] at this
  have := flatF_get hf l j x hj i hi
  rw [Lib.cell_of_heap h]
  simp only [Nat.zero_add]
  rw [hv] at this
  simpa using this
theorem alloc8 {w : World} (o1 o2 o3 o4 o5 o6 o7 o8 : Obj) : Below w.heap.size w ((((((((w.alloc o1).alloc o2).alloc o3).alloc o4).alloc o5).alloc o6).alloc o7).alloc o8) := by
  repeat (refine Below.alloc ?_ (by simp; try omega) _)
  exact Below.refl _ _
set_option maxHeartbeats 4000000 in
theorem fieldsOf_1 (w : World) : Calls Tryd.prog 32 #[.int .i64 1] w fun e w' => ∃ g, e = .returned (.slice (some ⟨g, 0, none⟩) 1 1) ∧ w.heap.size ≤ g ∧ Rw fldV 2 w' (some ⟨g, 0, none⟩) 1 1 (fieldsP 1) ∧ Below w.heap.size w w' := by
  go_enter Tryd.func32, Tryd.ntmps32
  go_wp2_with fail
  go_ret
  refine ⟨w.heap.size + 1 + 1 + 1, rfl, by omega, rw_block (l := fieldsP 1) (T := 74) ?_ layFld (by simp [fieldsP]) (by simp [maxLen]), ?_⟩
  · simp only [World.alloc, Array.getElem?_push, Array.size_push]
    simp [fieldsP, flatF, fldV]
  · exact alloc8 ..
set_option maxHeartbeats 4000000 in
theorem fieldsOf_2 (w : World) : Calls Tryd.prog 32 #[.int .i64 2] w fun e w' => ∃ g, e = .returned (.slice (some ⟨g, 0, none⟩) 2 2) ∧ w.heap.size ≤ g ∧ Rw fldV 2 w' (some ⟨g, 0, none⟩) 2 2 (fieldsP 2) ∧ Below w.heap.size w w' := by
  go_enter Tryd.func32, Tryd.ntmps32
  go_wp2_with fail
  go_ret
  refine ⟨w.heap.size + 1 + 1 + 1 + 1, rfl, by omega, rw_block (l := fieldsP 2) (T := 74) ?_ layFld (by simp [fieldsP]) (by simp [maxLen]), ?_⟩
  · simp only [World.alloc, Array.getElem?_push, Array.size_push]
    simp [fieldsP, flatF, fldV]
  · exact alloc8 ..
set_option maxHeartbeats 4000000 in
theorem fieldsOf_3 (w : World) : Calls Tryd.prog 32 #[.int .i64 3] w fun e w' => ∃ g, e = .returned (.slice (some ⟨g, 0, none⟩) 2 2) ∧ w.heap.size ≤ g ∧ Rw fldV 2 w' (some ⟨g, 0, none⟩) 2 2 (fieldsP 3) ∧ Below w.heap.size w w' := by
  go_enter Tryd.func32, Tryd.ntmps32
  go_wp2_with fail
  go_ret
  refine ⟨w.heap.size + 1 + 1 + 1 + 1 + 1, rfl, by omega, rw_block (l := fieldsP 3) (T := 74) ?_ layFld (by simp [fieldsP]) (by simp [maxLen]), ?_⟩
  · simp only [World.alloc, Array.getElem?_push, Array.size_push]
    simp [fieldsP, flatF, fldV]
  · exact alloc8 ..
set_option maxHeartbeats 4000000 in
theorem fieldsOf_4 (w : World) : Calls Tryd.prog 32 #[.int .i64 4] w fun e w' => ∃ g, e = .returned (.slice (some ⟨g, 0, none⟩) 2 2) ∧ w.heap.size ≤ g ∧ Rw fldV 2 w' (some ⟨g, 0, none⟩) 2 2 (fieldsP 4) ∧ Below w.heap.size w w' := by
  go_enter Tryd.func32, Tryd.ntmps32
  go_wp2_with fail
  go_ret
  refine ⟨w.heap.size + 1 + 1 + 1 + 1 + 1 + 1, rfl, by omega, rw_block (l := fieldsP 4) (T := 74) ?_ layFld (by simp [fieldsP]) (by simp [maxLen]), ?_⟩
  · simp only [World.alloc, Array.getElem?_push, Array.size_push]
    simp [fieldsP, flatF, fldV]
  · exact alloc8 ..
end Go.Proofs.YtkdhcokefnffaaaDoor
