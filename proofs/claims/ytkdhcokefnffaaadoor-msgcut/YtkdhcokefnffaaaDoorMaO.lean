import Derived.Test.YtkdhcokefnffaaaDoorMaN
/-! Decode of a Hello. -/
namespace Go.Proofs.YtkdhcokefnffaaaDoor
open Go.RowKit Go.Lib Sp
set_option maxRecDepth 100000

def zeroV : Value := .agg #[.int .i64 0, .int .i64 0, .int .i64 0, .int .i64 0, .int .i64 0, .int .i64 0, .int .i64 0, .int .i64 0, .string ⟨#[]⟩, .slice none 0 0, .int .i64 0, .int .i64 0, .bool false]
def decPost (w : World) : HelR → Ending → World → Prop
  | .ok k r, e, w' => e = .returned (.tuple #[helV k r, .int .i64 0, .int .i64 0]) ∧ Below w.heap.size w w'
  | .bad at_ why, e, w' => e = .returned (.tuple #[zeroV, .int .i64 at_, .int .i64 why]) ∧ Below w.heap.size w w'

set_option maxHeartbeats 4000000 in
theorem decode_hello {w : World} {n cap : Nat} {a : Option Addr} {bs : List Nat} (h : Rw byV 1 w a n cap bs) (ha : ∀ g, a = some g → g.block < w.heap.size) (hb : ∀ x ∈ bs, x < 256) (i : Nat) (hc : btwP n 0 1 4 100 bs = .ok 1 i) :
    Calls Tryd.prog 9 #[.slice a n cap] w (decPost w (helloP n i bs)) := by
  have hmf : ∀ (fn : Fn) (first cap : Array Value) (w : World), (Instr.makeFunc fn first cap).run Tryd.prog w = .ok (.func fn first cap) w := fun _ _ _ _ => rfl
  obtain ⟨R, hRes⟩ : ∃ R, helloP n i bs = R := ⟨_, rfl⟩
  obtain ⟨wa, hwa⟩ : ∃ W, (((w.alloc (.cells #[.int .i64 0, .int .i64 0, .int .i64 0, .int .i64 0, .int .i64 0, .int .i64 0, .int .i64 0, .int .i64 0, .string ⟨#[]⟩, .slice none 0 0, .int .i64 0, .int .i64 0, .bool false] 37)).alloc (.cells #[.int .i64 0] 3)).alloc (.cells #[.int .i64 0] 40)).alloc (.cells #[.slice a n cap, .int .i64 0] 58) = W := ⟨_, rfl⟩
  have hs0 : wa.heap.size = w.heap.size + 1 + 1 + 1 + 1 := by rw [← hwa]; simp
  have hba : Below w.heap.size w wa := by
    rw [← hwa]
    repeat (refine Below.alloc ?_ (by simp; try omega) _)
    exact Below.refl _ _
  have hm : wa.heap[w.heap.size]? = some (.cells #[.int .i64 0, .int .i64 0, .int .i64 0, .int .i64 0, .int .i64 0, .int .i64 0, .int .i64 0, .int .i64 0, .string ⟨#[]⟩, .slice none 0 0, .int .i64 0, .int .i64 0, .bool false] 37) := by
    rw [← hwa]
    simp only [World.alloc, Array.getElem?_push, Array.size_push]
    rw [if_neg (by omega), if_neg (by omega), if_neg (by omega), if_pos trivial]
  have hA : wa.heap[w.heap.size + 1]? = some (.cells #[.int .i64 0] 3) := by rw [← hwa]; simp only [World.alloc, Array.getElem?_push, Array.size_push]; simp
  have hE : wa.heap[w.heap.size + 1 + 1]? = some (.cells #[.int .i64 0] 40) := by rw [← hwa]; simp only [World.alloc, Array.getElem?_push, Array.size_push]; simp
  have hr : wa.heap[w.heap.size + 1 + 1 + 1]? = some (.cells #[.slice a n cap, .int .i64 0] 58) := by rw [← hwa]; simp only [World.alloc, Array.getElem?_push, Array.size_push]; simp
  have hR : Rdr wa (w.heap.size + 1 + 1 + 1) a n cap bs 0 := ⟨hr, h.below hba, fun g e => by have := ha g e; omega, Nat.zero_le _, hb⟩
  have HM := message_hello hR (fun g e => by have := ha g e; omega) i hc
  rw [hRes] at HM ⊢
  have HB : Hid (Below w.heap.size w wa) := hba
  clear h ha hb hc hRes hba hr hR
  cases R with
  | ok k r =>
    go_enter_defers Tryd.func9, Tryd.ntmps9
    go_wp2_with fail
    refine HM.mono ?_
    rintro e w1 ⟨rfl, hC⟩
    clear HM
    have hm1 := hC.block hm (by omega)
    have hA1 := hC.block hA (by omega)
    have hE1 := hC.block hE (by omega)
    have HC : Hid (Chg (fun g => g = w.heap.size + 1 + 1 + 1) wa w1 ∧ w1.heap[w.heap.size]? = some (.cells #[.int .i64 0, .int .i64 0, .int .i64 0, .int .i64 0, .int .i64 0, .int .i64 0, .int .i64 0, .int .i64 0, .string ⟨#[]⟩, .slice none 0 0, .int .i64 0, .int .i64 0, .bool false] 37) ∧ w1.heap[w.heap.size + 1]? = some (.cells #[.int .i64 0] 3) ∧ w1.heap[w.heap.size + 1 + 1]? = some (.cells #[.int .i64 0] 40)) := ⟨hC, hm1, hA1, hE1⟩
    obtain ⟨m0, m1, m2, m3, m4, m5, m6, m7, m8, m9, m10, m11, m12⟩ := box13 hm1
    have FZ : ∀ i, w1.frozen? ⟨w.heap.size, i, none⟩ = false := fun i => Lib.frozen_of_heap hm1 i
    have a0 : w1.cell? ⟨w.heap.size + 1, 0, none⟩ = some (.int .i64 0) := by rw [Lib.cell_of_heap hA1]; rfl
    have fa := Lib.frozen_of_heap hA1 0
    have e0 : w1.cell? ⟨w.heap.size + 1 + 1, 0, none⟩ = some (.int .i64 0) := by rw [Lib.cell_of_heap hE1]; rfl
    have fe := Lib.frozen_of_heap hE1 0
    have d1 : w.heap.size + 1 ≠ w.heap.size := by omega
    have d2 : w.heap.size + 1 + 1 ≠ w.heap.size := by omega
    have d3 : w.heap.size + 1 + 1 ≠ w.heap.size + 1 := by omega
    clear hC hm1 hA1 hE1 hm hA hE hwa
    unfold helV
    go_wp2_with fail
    obtain ⟨hC, hm1, hA1, hE1⟩ := HC.out
    obtain ⟨hx6, hC6⟩ := set13 hm1 (.int .i64 1) (.int .i64 k) (.int .i64 r) (.int .i64 0) (.int .i64 0) (.int .i64 0) (.int .i64 0) (.int .i64 0) (.string ⟨#[]⟩) (.slice none 0 0) (.int .i64 0) (.int .i64 0) (.bool false)
    clear m0 m1 m2 m3 m4 m5 m6 m7 m8 m9 m10 m11 m12 FZ a0 fa e0 fe
    revert hx6 hC6
    generalize World.setCell _ ⟨w.heap.size, 12, none⟩ (.bool false) = w6
    intro hx6 hC6
    have hA6 := hC6.block hA1 d1
    have hE6 := hC6.block hE1 d2
    have hA7 := heap_setCell_cells hA6 0 (.int .i64 0)
    have hE7 := (Below.heap_setCell w6 ⟨w.heap.size + 1, 0, none⟩ (.int .i64 0) (w.heap.size + 1 + 1) d3).trans hE6
    have hm7 := (Below.heap_setCell w6 ⟨w.heap.size + 1, 0, none⟩ (.int .i64 0) w.heap.size d1.symm).trans hx6
    have hE8 := heap_setCell_cells hE7 0 (.int .i64 0)
    have hA8 := (Below.heap_setCell (w6.setCell ⟨w.heap.size + 1, 0, none⟩ (.int .i64 0)) ⟨w.heap.size + 1 + 1, 0, none⟩ (.int .i64 0) (w.heap.size + 1) d3.symm).trans hA7
    have hm8 := (Below.heap_setCell (w6.setCell ⟨w.heap.size + 1, 0, none⟩ (.int .i64 0)) ⟨w.heap.size + 1 + 1, 0, none⟩ (.int .i64 0) w.heap.size d2.symm).trans hm7
    have hC8 : Chg (fun g => w.heap.size ≤ g) w ((w6.setCell ⟨w.heap.size + 1, 0, none⟩ (.int .i64 0)).setCell ⟨w.heap.size + 1 + 1, 0, none⟩ (.int .i64 0)) :=
      (Chg.of_below HB.out).trans ((hC.mono (fun _ _ e => by omega)).trans ((hC6.mono (fun _ _ e => by omega)).trans ((Chg.set (D := fun g => w.heap.size ≤ g) (q := w.heap.size + 1) 0 w6 _ (by omega)).trans (Chg.set (D := fun g => w.heap.size ≤ g) (q := w.heap.size + 1 + 1) 0 _ _ (by omega)))))
    refine leaves_cons (f := 17) (args := #[.pointer (some ⟨w.heap.size + 1, 0, none⟩), .pointer (some ⟨w.heap.size + 1 + 1, 0, none⟩)]) (by simp) (by simp [go_sem]) ?_
    refine (catch_idle _ _ _ _ _ hA8 hE8 d3).mono ?_
    rintro e u' w9 ⟨rfl, rfl, hA9, hE9, hC9⟩
    have hm9 := hC9.block hm8 (by omega)
    obtain ⟨m0, m1, m2, m3, m4, m5, m6, m7, m8, m9, m10, m11, m12⟩ := box13 hm9
    have a0 : w9.cell? ⟨w.heap.size + 1, 0, none⟩ = some (.int .i64 0) := by rw [Lib.cell_of_heap hA9]; rfl
    have e0 : w9.cell? ⟨w.heap.size + 1 + 1, 0, none⟩ = some (.int .i64 0) := by rw [Lib.cell_of_heap hE9]; rfl
    have hF := (hC8.trans (hC9.mono (fun _ _ e => by omega))).below (B := w.heap.size) (fun _ e => e) (Nat.le_refl _)
    simp [Leaves, settle, results, Tryd.results9, go_sem, m0, m1, m2, m3, m4, m5, m6, m7, m8, m9, m10, m11, m12, a0, e0]
    exact ⟨rfl, hF⟩
  | bad at_ why =>
    go_enter_defers Tryd.func9, Tryd.ntmps9
    go_wp2_with fail
    refine HM.mono ?_
    rintro e w1 ⟨rfl, hC⟩
    clear HM
    have hm1 := hC.block hm (by omega)
    have hA1 := hC.block hA (by omega)
    have hE1 := hC.block hE (by omega)
    clear hm hA hE hwa
    unfold thrown
    try dsimp only
    go_wp2_with fail
    refine leaves_cons (f := 17) (args := #[.pointer (some ⟨w.heap.size + 1, 0, none⟩), .pointer (some ⟨w.heap.size + 1 + 1, 0, none⟩)]) (by simp) (by simp [go_sem]) ?_
    refine (catch_panicking _ _ _ _ _ _ _ hA1 hE1 (by omega)).mono ?_
    rintro e u' w9 ⟨rfl, rfl, hA9, hE9, hC9⟩
    have hm9 := hC9.block hm1 (by omega)
    obtain ⟨m0, m1, m2, m3, m4, m5, m6, m7, m8, m9, m10, m11, m12⟩ := box13 hm9
    have a0 : w9.cell? ⟨w.heap.size + 1, 0, none⟩ = some (.int .i64 at_) := by rw [Lib.cell_of_heap hA9]; rfl
    have e0 : w9.cell? ⟨w.heap.size + 1 + 1, 0, none⟩ = some (.int .i64 why) := by rw [Lib.cell_of_heap hE9]; rfl
    have hC8 : Chg (fun g => w.heap.size ≤ g) w w9 := (Chg.of_below HB.out).trans ((hC.mono (fun _ _ e => by omega)).trans (hC9.mono (fun _ _ e => by omega)))
    have hF := hC8.below (B := w.heap.size) (fun _ e => e) (Nat.le_refl _)
    simp [Leaves, settle, results, Tryd.results9, go_sem, m0, m1, m2, m3, m4, m5, m6, m7, m8, m9, m10, m11, m12, a0, e0]
    exact ⟨rfl, hF⟩
end Go.Proofs.YtkdhcokefnffaaaDoor
