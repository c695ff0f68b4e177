import Derived.Test.YtelcjhflopgojaaDoorMkC
import Derived.Test.YtelcjhflopgojaaDoorMkN
/-! copied. -/
namespace Go.Proofs.YtelcjhflopgojaaDoor
open Go.RowKit Go.Lib
set_option maxRecDepth 100000

set_option maxHeartbeats 1000000 in
theorem copied_any (nm : List UInt8) (hl : nm.length ≤ 281474976710656) (lo hi : Int) (w : World) : Calls Tryd.prog 11 #[.agg #[.string ⟨nm.toArray⟩, .int .i64 lo, .int .i64 hi]] w fun e w' => e = .returned (.agg #[.string ⟨nm.toArray⟩, .int .i64 lo, .int .i64 hi]) ∧ Below w.heap.size w w' := by
  have HC : Hid (∀ w, Calls Tryd.prog 17 #[.string ⟨nm.toArray⟩] w fun e w' => e = .returned (.string ⟨nm.toArray⟩) ∧ Below w.heap.size w w') := clone_run nm hl
  clear hl
  generalize (⟨nm.toArray⟩ : ByteArray) = s at *
  go_enter Tryd.func11, Tryd.ntmps11
  go_wp2_with fail
  refine (HC.out _).mono ?_
  rintro e w1 ⟨rfl, hb⟩
  obtain ⟨n0, hn0⟩ : ∃ n0, w.heap.size = n0 := ⟨_, rfl⟩
  have hs1 := hb.size
  simp only [World.size_alloc] at hs1
  have k0 : w1.heap[n0]? = some (.cells #[.string s, .int .i64 lo, .int .i64 hi] 29) := by
    rw [hb.block n0 (by simp only [World.size_alloc]; omega)]
    have h1 := (MapKept.heap_alloc (w.alloc (.cells #[.string s, .int .i64 lo, .int .i64 hi] 29)) (.cells #[.string ⟨#[]⟩, .int .i64 0, .int .i64 0] 29)).2 n0 (by rw [World.size_alloc]; omega)
    exact h1.trans (hn0 ▸ (MapKept.heap_alloc w _).1)
  have k1 : w1.heap[n0 + 1]? = some (.cells #[.string ⟨#[]⟩, .int .i64 0, .int .i64 0] 29) := by
    rw [hb.block (n0 + 1) (by simp only [World.size_alloc]; omega)]
    have h1 := (MapKept.heap_alloc (w.alloc (.cells #[.string s, .int .i64 lo, .int .i64 hi] 29)) (.cells #[.string ⟨#[]⟩, .int .i64 0, .int .i64 0] 29)).1
    rw [World.size_alloc, hn0] at h1
    exact h1
  have HB : Hid (Below n0 w w1) := ((((Below.refl _ _).alloc (by omega) _).alloc (by rw [World.size_alloc]; omega) _).trans (hb.mono (by simp only [World.size_alloc]; omega)))
  obtain ⟨c0, c1, c2⟩ := box3 k0
  obtain ⟨d0, d1, d2⟩ := box3 k1
  have f0 := Lib.frozen_of_heap k0
  have f1 := Lib.frozen_of_heap k1
  rw [hn0]
  have hS : Hid (w1.heap.size = w1.heap.size ∧ n0 + 2 ≤ w1.heap.size ∧ w.heap.size = n0) := ⟨rfl, by omega, hn0⟩
  have KB : Hid (w1.heap[n0 + 1]? = some (.cells #[.string ⟨#[]⟩, .int .i64 0, .int .i64 0] 29)) := k1
  clear hb hs1 k0 k1 hn0
  go_wp2_with fail
  have hx : (w1.setCell ⟨n0, 0, none⟩ (.string s)).heap[n0 + 1]? = some (.cells #[.string ⟨#[]⟩, .int .i64 0, .int .i64 0] 29) := (Chg.set (D := fun g => g = n0) (q := n0) 0 w1 (.string s) rfl).block KB.out (by omega)
  have e1 := heap_setCell_cells (heap_setCell_cells (heap_setCell_cells hx 0 (.string s)) 1 (.int .i64 lo)) 2 (.int .i64 hi)
  obtain ⟨r0, r1, r2⟩ := box3 e1
  have hB : Below w.heap.size w ((((w1.setCell ⟨n0, 0, none⟩ (.string s)).setCell ⟨n0 + 1, 0, none⟩ (.string s)).setCell ⟨n0 + 1, 1, none⟩ (.int .i64 lo)).setCell ⟨n0 + 1, 2, none⟩ (.int .i64 hi)) := by
    rw [hS.out.2.2]
    exact (((HB.out.setCell (Nat.le_refl _) _).setCell (Nat.le_succ _) _).setCell (Nat.le_succ _) _).setCell (Nat.le_succ _) _
  exact bodyPost_ret (v := .agg #[.string s, .int .i64 lo, .int .i64 hi]) (by simp [results, Tryd.results11, go_sem, r0, r1, r2]) rfl ⟨rfl, hB⟩
end Go.Proofs.YtelcjhflopgojaaDoor
