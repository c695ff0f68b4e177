import Derived.Test.YtkdhcokefnffaaaDoorMbF
import Derived.Test.YtkdhcokefnffaaaDoorMaO
/-! Decode and DecodeOp of bytes that are cut or go on. -/
namespace Go.Proofs.YtkdhcokefnffaaaDoor
open Go.RowKit Go.Lib Sp
set_option maxRecDepth 100000

def EndsV (z : Value) (n Q : Nat) (e : Ending) : Prop := n < Q ∧ e = .returned (.tuple #[z, .int .i64 n, .int .i64 102]) ∨ Q < n ∧ e = .returned (.tuple #[z, .int .i64 Q, .int .i64 103])
set_option maxHeartbeats 2000000 in
theorem catch_panickingO (pa pe : Nat) (x y : Int) (at_ why : Int) (w : World) (ha : w.heap[pa]? = some (.cells #[.int .i64 x] 3)) (he : w.heap[pe]? = some (.cells #[.int .i64 y] 40)) (hne : pe ≠ pa) :
    CallsD Tryd.prog 24 #[.pointer (some ⟨pa, 0, none⟩), .pointer (some ⟨pe, 0, none⟩)] (.panicking [{ v := faultV at_ why, recovered := false }]) w fun e u' w' =>
      e = .returned (.tuple #[]) ∧ u' = .panicking [{ v := faultV at_ why, recovered := true }] ∧ w'.heap[pa]? = some (.cells #[.int .i64 at_] 3) ∧ w'.heap[pe]? = some (.cells #[.int .i64 why] 40) ∧ Chg (fun g => g = pa ∨ g = pe) w w' := by
  refine callsD_of_wpS Tryd.func24 rfl fun c₀ cs hu => ?_
  apply wpS_region
  simp [wpOpsS, go_sem, recoverD, hu, Tryd.ntmps24]
  refine (caught_fault _ _ _).mono ?_
  rintro e w1 ⟨rfl, hb⟩
  have ha1 := (hb.block _ (Array.getElem?_eq_some_iff.1 ha).1).trans ha
  have he1 := (hb.block _ (Array.getElem?_eq_some_iff.1 he).1).trans he
  have c1 : w1.cell? ⟨pa, 0, none⟩ = some (.int .i64 x) := by rw [Lib.cell_of_heap ha1]; rfl
  have f1 := Lib.frozen_of_heap ha1 0
  have ha2 := heap_setCell_cells ha1 0 (.int .i64 at_)
  have he2 : (w1.setCell ⟨pa, 0, none⟩ (.int .i64 at_)).heap[pe]? = some (.cells #[.int .i64 y] 40) := (Below.heap_setCell _ _ _ _ hne).trans he1
  have c2 : w1.cell? ⟨pe, 0, none⟩ = some (.int .i64 y) := by rw [Lib.cell_of_heap he1]; rfl
  have f2 := Lib.frozen_of_heap he1 0
  have he3 := heap_setCell_cells he2 0 (.int .i64 why)
  have ha3 : ((w1.setCell ⟨pa, 0, none⟩ (.int .i64 at_)).setCell ⟨pe, 0, none⟩ (.int .i64 why)).heap[pa]? = some (.cells #[.int .i64 at_] 3) := (Below.heap_setCell _ _ _ _ (by simp only; exact fun e => hne e.symm)).trans ha2
  have hC : Chg (fun g => g = pa ∨ g = pe) w ((w1.setCell ⟨pa, 0, none⟩ (.int .i64 at_)).setCell ⟨pe, 0, none⟩ (.int .i64 why)) := (Chg.of_below hb).trans ((Chg.set (D := fun g => g = pa ∨ g = pe) (q := pa) 0 w1 _ (.inl rfl)).trans (Chg.set (D := fun g => g = pa ∨ g = pe) (q := pe) 0 _ _ (.inr rfl)))
  simp [go_sem, c1, f1, c2, f2, bodyPostS, results, Tryd.results24]
  exact ⟨ha3, he3, hC⟩


set_option maxHeartbeats 4000000 in
theorem decode_cut {w : World} {n cap : Nat} {a : Option Addr} {bs : List Nat} (h : Rw byV 1 w a n cap bs) (ha : ∀ g, a = some g → g.block < w.heap.size) (hb : ∀ x ∈ bs, x < 256) (Q : Nat)
    (HM : ∀ W p, Below w.heap.size w W → Rdr W p a n cap bs 0 → Calls Tryd.prog 19 #[.pointer (some ⟨p, 0, none⟩)] W fun e w' => Ends n Q e ∧ Chg (fun g => g = p) W w') :
    Calls Tryd.prog 9 #[.slice a n cap] w fun e w' => EndsV (.agg #[.int .i64 0, .int .i64 0, .int .i64 0, .int .i64 0, .int .i64 0, .int .i64 0, .int .i64 0, .int .i64 0, .string ⟨#[]⟩, .slice none 0 0, .int .i64 0, .int .i64 0, .bool false]) n Q e ∧ Below w.heap.size w w' := by
  have hmf : ∀ (fn : Fn) (first cap : Array Value) (w : World), (Instr.makeFunc fn first cap).run Tryd.prog w = .ok (.func fn first cap) w := fun _ _ _ _ => rfl
  obtain ⟨wa, hwa⟩ : ∃ W, (((w.alloc (.cells #[.int .i64 0, .int .i64 0, .int .i64 0, .int .i64 0, .int .i64 0, .int .i64 0, .int .i64 0, .int .i64 0, .string ⟨#[]⟩, .slice none 0 0, .int .i64 0, .int .i64 0, .bool false] 37)).alloc (.cells #[.int .i64 0] 3)).alloc (.cells #[.int .i64 0] 40)).alloc (.cells #[.slice a n cap, .int .i64 0] 58) = W := ⟨_, rfl⟩
  have hba : Below w.heap.size w wa := by
    rw [← hwa]
    repeat (refine Below.alloc ?_ (by simp; try omega) _)
    exact Below.refl _ _
  have hm : wa.heap[w.heap.size]? = some (.cells #[.int .i64 0, .int .i64 0, .int .i64 0, .int .i64 0, .int .i64 0, .int .i64 0, .int .i64 0, .int .i64 0, .string ⟨#[]⟩, .slice none 0 0, .int .i64 0, .int .i64 0, .bool false] 37) := by
    rw [← hwa]
    simp only [World.alloc, Array.getElem?_push, Array.size_push]
    rw [if_neg (by omega), if_neg (by omega), if_neg (by omega), if_pos trivial]
  have hA : wa.heap[w.heap.size + 1]? = some (.cells #[.int .i64 0] 3) := by rw [← hwa]; simp only [World.alloc, Array.getElem?_push, Array.size_push]; simp
  have hE : wa.heap[w.heap.size + 1 + 1]? = some (.cells #[.int .i64 0] 40) := by rw [← hwa]; simp only [World.alloc, Array.getElem?_push, Array.size_push]; simp
  have hr : wa.heap[w.heap.size + 1 + 1 + 1]? = some (.cells #[.slice a n cap, .int .i64 0] 58) := by rw [← hwa]; simp only [World.alloc, Array.getElem?_push, Array.size_push]; simp
  have hR : Rdr wa (w.heap.size + 1 + 1 + 1) a n cap bs 0 := ⟨hr, h.below hba, fun g e => by have := ha g e; omega, Nat.zero_le _, hb⟩
  have HM := HM _ _ hba hR
  have HB : Hid (Below w.heap.size w wa) := hba
  clear h ha hb hba hr hR
  go_enter_defers Tryd.func9, Tryd.ntmps9
  go_wp2_with fail
  refine HM.mono ?_
  rintro e w1 ⟨hends, hC⟩
  have hm1 := hC.block hm (by omega)
  have hA1 := hC.block hA (by omega)
  have hE1 := hC.block hE (by omega)
  clear hm hA hE hwa
  rcases hends with ⟨h1, rfl⟩ | ⟨h1, rfl⟩
  · clear HM
    unfold thrown
    try dsimp only
    go_wp2_with fail
    refine leaves_cons (f := 17) (args := #[.pointer (some ⟨w.heap.size + 1, 0, none⟩), .pointer (some ⟨w.heap.size + 1 + 1, 0, none⟩)]) (by simp) (by simp [go_sem]) ?_
    refine (catch_panicking _ _ _ _ _ _ _ hA1 hE1 (by omega)).mono ?_
    rintro e u' w9 ⟨rfl, rfl, hA9, hE9, hC9⟩
    have hm9 := hC9.block hm1 (by omega)
    obtain ⟨m0, m1, m2, m3, m4, m5, m6, m7, m8, m9, m10, m11, m12⟩ := box13 hm9
    have a0 : w9.cell? ⟨w.heap.size + 1, 0, none⟩ = some (.int .i64 n) := by rw [Lib.cell_of_heap hA9]; rfl
    have e0 : w9.cell? ⟨w.heap.size + 1 + 1, 0, none⟩ = some (.int .i64 102) := by rw [Lib.cell_of_heap hE9]; rfl
    have hC8 : Chg (fun g => w.heap.size ≤ g) w w9 := (Chg.of_below HB.out).trans ((hC.mono (fun _ _ e => by omega)).trans (hC9.mono (fun _ _ e => by omega)))
    have hF := hC8.below (B := w.heap.size) (fun _ e => e) (Nat.le_refl _)
    simp [Leaves, settle, results, Tryd.results9, go_sem, m0, m1, m2, m3, m4, m5, m6, m7, m8, m9, m10, m11, m12, a0, e0]
    exact ⟨.inl ⟨h1, rfl⟩, hF⟩
  · clear HM
    unfold thrown
    try dsimp only
    go_wp2_with fail
    refine leaves_cons (f := 17) (args := #[.pointer (some ⟨w.heap.size + 1, 0, none⟩), .pointer (some ⟨w.heap.size + 1 + 1, 0, none⟩)]) (by simp) (by simp [go_sem]) ?_
    refine (catch_panicking _ _ _ _ _ _ _ hA1 hE1 (by omega)).mono ?_
    rintro e u' w9 ⟨rfl, rfl, hA9, hE9, hC9⟩
    have hm9 := hC9.block hm1 (by omega)
    obtain ⟨m0, m1, m2, m3, m4, m5, m6, m7, m8, m9, m10, m11, m12⟩ := box13 hm9
    have a0 : w9.cell? ⟨w.heap.size + 1, 0, none⟩ = some (.int .i64 Q) := by rw [Lib.cell_of_heap hA9]; rfl
    have e0 : w9.cell? ⟨w.heap.size + 1 + 1, 0, none⟩ = some (.int .i64 103) := by rw [Lib.cell_of_heap hE9]; rfl
    have hC8 : Chg (fun g => w.heap.size ≤ g) w w9 := (Chg.of_below HB.out).trans ((hC.mono (fun _ _ e => by omega)).trans (hC9.mono (fun _ _ e => by omega)))
    have hF := hC8.below (B := w.heap.size) (fun _ e => e) (Nat.le_refl _)
    simp [Leaves, settle, results, Tryd.results9, go_sem, m0, m1, m2, m3, m4, m5, m6, m7, m8, m9, m10, m11, m12, a0, e0]
    exact ⟨.inr ⟨h1, rfl⟩, hF⟩

set_option maxHeartbeats 4000000 in
theorem decodeOp_cut {w : World} {n cap : Nat} {a : Option Addr} {bs : List Nat} (h : Rw byV 1 w a n cap bs) (ha : ∀ g, a = some g → g.block < w.heap.size) (hb : ∀ x ∈ bs, x < 256) (Q : Nat)
    (HM : ∀ W p, Below w.heap.size w W → Rdr W p a n cap bs 0 → Calls Tryd.prog 25 #[.pointer (some ⟨p, 0, none⟩)] W fun e w' => Ends n Q e ∧ Chg (fun g => g = p) W w') :
    Calls Tryd.prog 14 #[.slice a n cap] w fun e w' => EndsV (.agg #[.int .i64 0, .int .i64 0, .int .i64 0, .int .i64 0, .string ⟨#[]⟩, .slice none 0 0, .int .i64 0, .int .i64 0, .bool false]) n Q e ∧ Below w.heap.size w w' := by
  have hmf : ∀ (fn : Fn) (first cap : Array Value) (w : World), (Instr.makeFunc fn first cap).run Tryd.prog w = .ok (.func fn first cap) w := fun _ _ _ _ => rfl
  obtain ⟨wa, hwa⟩ : ∃ W, (((w.alloc (.cells #[.int .i64 0, .int .i64 0, .int .i64 0, .int .i64 0, .string ⟨#[]⟩, .slice none 0 0, .int .i64 0, .int .i64 0, .bool false] 35)).alloc (.cells #[.int .i64 0] 3)).alloc (.cells #[.int .i64 0] 40)).alloc (.cells #[.slice a n cap, .int .i64 0] 58) = W := ⟨_, rfl⟩
  have hba : Below w.heap.size w wa := by
    rw [← hwa]
    repeat (refine Below.alloc ?_ (by simp; try omega) _)
    exact Below.refl _ _
  have hm : wa.heap[w.heap.size]? = some (.cells #[.int .i64 0, .int .i64 0, .int .i64 0, .int .i64 0, .string ⟨#[]⟩, .slice none 0 0, .int .i64 0, .int .i64 0, .bool false] 35) := by
    rw [← hwa]
    simp only [World.alloc, Array.getElem?_push, Array.size_push]
    rw [if_neg (by omega), if_neg (by omega), if_neg (by omega), if_pos trivial]
  have hA : wa.heap[w.heap.size + 1]? = some (.cells #[.int .i64 0] 3) := by rw [← hwa]; simp only [World.alloc, Array.getElem?_push, Array.size_push]; simp
  have hE : wa.heap[w.heap.size + 1 + 1]? = some (.cells #[.int .i64 0] 40) := by rw [← hwa]; simp only [World.alloc, Array.getElem?_push, Array.size_push]; simp
  have hr : wa.heap[w.heap.size + 1 + 1 + 1]? = some (.cells #[.slice a n cap, .int .i64 0] 58) := by rw [← hwa]; simp only [World.alloc, Array.getElem?_push, Array.size_push]; simp
  have hR : Rdr wa (w.heap.size + 1 + 1 + 1) a n cap bs 0 := ⟨hr, h.below hba, fun g e => by have := ha g e; omega, Nat.zero_le _, hb⟩
  have HM := HM _ _ hba hR
  have HB : Hid (Below w.heap.size w wa) := hba
  clear h ha hb hba hr hR
  go_enter_defers Tryd.func14, Tryd.ntmps14
  go_wp2_with fail
  refine HM.mono ?_
  rintro e w1 ⟨hends, hC⟩
  have hm1 := hC.block hm (by omega)
  have hA1 := hC.block hA (by omega)
  have hE1 := hC.block hE (by omega)
  clear hm hA hE hwa
  rcases hends with ⟨h1, rfl⟩ | ⟨h1, rfl⟩
  · clear HM
    unfold thrown
    try dsimp only
    go_wp2_with fail
    refine leaves_cons (f := 24) (args := #[.pointer (some ⟨w.heap.size + 1, 0, none⟩), .pointer (some ⟨w.heap.size + 1 + 1, 0, none⟩)]) (by simp) (by simp [go_sem]) ?_
    refine (catch_panickingO _ _ _ _ _ _ _ hA1 hE1 (by omega)).mono ?_
    rintro e u' w9 ⟨rfl, rfl, hA9, hE9, hC9⟩
    have hm9 := hC9.block hm1 (by omega)
    obtain ⟨m0, m1, m2, m3, m4, m5, m6, m7, m8⟩ := box9 hm9
    have a0 : w9.cell? ⟨w.heap.size + 1, 0, none⟩ = some (.int .i64 n) := by rw [Lib.cell_of_heap hA9]; rfl
    have e0 : w9.cell? ⟨w.heap.size + 1 + 1, 0, none⟩ = some (.int .i64 102) := by rw [Lib.cell_of_heap hE9]; rfl
    have hC8 : Chg (fun g => w.heap.size ≤ g) w w9 := (Chg.of_below HB.out).trans ((hC.mono (fun _ _ e => by omega)).trans (hC9.mono (fun _ _ e => by omega)))
    have hF := hC8.below (B := w.heap.size) (fun _ e => e) (Nat.le_refl _)
    simp [Leaves, settle, results, Tryd.results14, go_sem, m0, m1, m2, m3, m4, m5, m6, m7, m8, a0, e0]
    exact ⟨.inl ⟨h1, rfl⟩, hF⟩
  · clear HM
    unfold thrown
    try dsimp only
    go_wp2_with fail
    refine leaves_cons (f := 24) (args := #[.pointer (some ⟨w.heap.size + 1, 0, none⟩), .pointer (some ⟨w.heap.size + 1 + 1, 0, none⟩)]) (by simp) (by simp [go_sem]) ?_
    refine (catch_panickingO _ _ _ _ _ _ _ hA1 hE1 (by omega)).mono ?_
    rintro e u' w9 ⟨rfl, rfl, hA9, hE9, hC9⟩
    have hm9 := hC9.block hm1 (by omega)
    obtain ⟨m0, m1, m2, m3, m4, m5, m6, m7, m8⟩ := box9 hm9
    have a0 : w9.cell? ⟨w.heap.size + 1, 0, none⟩ = some (.int .i64 Q) := by rw [Lib.cell_of_heap hA9]; rfl
    have e0 : w9.cell? ⟨w.heap.size + 1 + 1, 0, none⟩ = some (.int .i64 103) := by rw [Lib.cell_of_heap hE9]; rfl
    have hC8 : Chg (fun g => w.heap.size ≤ g) w w9 := (Chg.of_below HB.out).trans ((hC.mono (fun _ _ e => by omega)).trans (hC9.mono (fun _ _ e => by omega)))
    have hF := hC8.below (B := w.heap.size) (fun _ e => e) (Nat.le_refl _)
    simp [Leaves, settle, results, Tryd.results14, go_sem, m0, m1, m2, m3, m4, m5, m6, m7, m8, a0, e0]
    exact ⟨.inr ⟨h1, rfl⟩, hF⟩

end Go.Proofs.YtkdhcokefnffaaaDoor
