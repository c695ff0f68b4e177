import Derived.Test.YtkdhcokefnffaaaDoorMaK
/-! readRev. -/
namespace Go.Proofs.YtkdhcokefnffaaaDoor
open Go.RowKit Go.Lib Sp
set_option maxRecDepth 100000

def revPost (w : World) (p mb : Nat) (a : Option Addr) (n cap : Nat) (bs : List Nat) (i : Nat) (cs : Array Value) : FldR → Ending → World → Prop
  | .ok v k, e, w' => e = .returned (.tuple #[]) ∧ Rdr w' p a n cap bs (i + k) ∧ w'.heap[mb]? = some (.cells (cs.setIfInBounds 2 (.int .i64 v)) 37) ∧ Chg (fun g => g = p ∨ g = mb) w w'
  | .bad at_ why, e, w' => e = thrown at_ why ∧ Chg (fun g => g = p ∨ g = mb) w w'

set_option maxHeartbeats 4000000 in
theorem readRev_any {w : World} {p n cap i : Nat} {a : Option Addr} {bs : List Nat} (h : Rdr w p a n cap bs i) {mb : Nat} {c : Int} {v1 v2 v3 v4 v5 v6 v7 v8 v9 v10 v11 v12 : Value} (hm : w.heap[mb]? = some (.cells #[.int .i64 c, v1, v2, v3, v4, v5, v6, v7, v8, v9, v10, v11, v12] 37)) (hmp : mb ≠ p) (hma : ∀ g, a = some g → g.block ≠ mb) :
    Calls Tryd.prog 43 #[.pointer (some ⟨p, 0, none⟩), .pointer (some ⟨mb, 0, none⟩)] w (revPost w p mb a n cap bs i #[.int .i64 c, v1, v2, v3, v4, v5, v6, v7, v8, v9, v10, v11, v12] (btwP n i (firstRevP c) 8192 104 (bs.drop i))) := by
  have HT := between_any h (firstRevP c) 8192 104
  have hml := (Array.getElem?_eq_some_iff.1 hm).1
  have q0 : w.cell? ⟨mb, 0, none⟩ = some (.int .i64 c) := by rw [Lib.cell_of_heap hm]; rfl
  cases hb : btwP n i (firstRevP c) 8192 104 (bs.drop i) with
  | ok v k =>
    rw [hb] at HT
    clear h hb
    go_enter Tryd.func43, Tryd.ntmps43
    go_wp2_with fail
    refine (firstRev_any c _).mono ?_
    rintro e w1 ⟨rfl, rfl⟩
    go_wp2_with fail
    refine HT.mono ?_
    rintro e w2 ⟨rfl, hR, hC⟩
    clear HT
    have hm2 := hC.block hm hmp
    have q2 : w2.cell? ⟨mb, 2, none⟩ = some v2 := by rw [Lib.cell_of_heap hm2]; rfl
    have f2 := Lib.frozen_of_heap hm2 2
    go_wp2_with fail
    go_end0
    have hC2 : Chg (fun g => g = p ∨ g = mb) w1 (w2.setCell ⟨mb, 2, none⟩ (.int .i64 v)) := (hC.mono (fun _ _ h => .inl h)).trans (Chg.set (D := fun g => g = p ∨ g = mb) (q := mb) 2 w2 _ (.inr rfl))
    refine ⟨rfl, hR.chg (D := fun g => g = mb) (Chg.set (D := fun g => g = mb) (q := mb) 2 w2 _ rfl) (fun e => hmp e.symm) hma, heap_setCell_cells hm2 2 _, hC2⟩
  | bad at_ why =>
    rw [hb] at HT
    clear h hb
    go_enter Tryd.func43, Tryd.ntmps43
    go_wp2_with fail
    refine (firstRev_any c _).mono ?_
    rintro e w1 ⟨rfl, rfl⟩
    go_wp2_with fail
    refine HT.mono ?_
    rintro e w2 ⟨rfl, hC⟩
    clear HT
    unfold thrown
    try dsimp only
    go_wp2_with fail
    exact ⟨rfl, rfl, hC.mono (fun _ _ h => .inl h)⟩
end Go.Proofs.YtkdhcokefnffaaaDoor
