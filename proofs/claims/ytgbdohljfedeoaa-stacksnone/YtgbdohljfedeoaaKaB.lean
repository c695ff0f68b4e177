import Derived.Test.YtgbdohljfedeoaaKaA
import Derived.Shelf.Abstract
namespace Go.Proofs.Ytgbdohljfedeoaa
open Go.RowKit Go.Lib Go.Shelf
set_option maxRecDepth 100000

theorem none1_any (B : Nat) (x : Int × Int) (j : Int) (h0 : 0 ≤ j) (h1 : j < 9223372036854775807) (W : World) (h : W.heap[B]? = some (.cells #[.int .i64 j] 3)) :
    Calls Try.prog 7 (#[idA x] ++ #[.pointer (some ⟨B, 0, none⟩)]) W fun e W' => e = .returned (.bool false) ∧ W'.heap[B]? = some (.cells #[.int .i64 (j + 1)] 3) ∧ Sav B W W' := by
  have hB := (Array.getElem?_eq_some_iff.1 h).1
  have ha : ∀ o : Obj, (W.alloc o).heap[B]? = some (.cells #[.int .i64 j] 3) := fun o => (Below.heap_alloc W o B hB).trans h
  have c0 : ∀ o : Obj, (W.alloc o).cell? ⟨B, 0, none⟩ = some (.int .i64 j) := fun o => by rw [Lib.cell_of_heap (ha o)]; rfl
  have f0 : ∀ o : Obj, (W.alloc o).frozen? ⟨B, 0, none⟩ = false := fun o => Lib.frozen_of_heap (ha o) 0
  have hst : (W.setCell ⟨B, 0, none⟩ (.int .i64 (j + 1))).heap[B]? = some (.cells #[.int .i64 (j + 1)] 3) := (heap_setCell_same _ B 0 _ _ (.int .i64 (j + 1)) h).trans (by simp)
  clear ha h
  show Calls Try.prog 7 #[.agg #[.int .i64 x.1, .int .i64 x.2], .pointer (some ⟨B, 0, none⟩)] W _
  go_enter Try.func7, Try.ntmps7
  go_wp2_with fail
  go_ret
  exact ⟨rfl, (Sav.alloc (W.heap.size + 1) _ _).block hst (by omega), (Sav.set _ _ _ _).trans (Sav.alloc _ _ _)⟩

set_option maxHeartbeats 2000000 in
theorem stacksNone_any (a : Option Addr) (n cap : Nat) (l : List (Int × Int)) (w : World) (h : Rw idV 2 w a n cap l) (hn : n * 16 ≤ 140737488351232) :
    Calls Try.prog 3 #[.slice a n cap] w fun e w' => e = .returned (.bool true) ∧ Below w.heap.size w w' := by
  have hl := h.len
  have HP := pick_any 7 #[.pointer (some ⟨w.heap.size, 0, none⟩)] a n cap l (w.alloc (.cells #[.int .i64 0] 3)) (fun _ => false)
    (fun m W => m ≤ n ∧ Below w.heap.size w W ∧ W.heap[w.heap.size]? = some (.cells #[.int .i64 ((n - m : Nat) : Int)] 3)) (by omega) (enters_of Try.func7 (by kernel_rfl) rfl)
    (fun m W W' ⟨hm, hb, hc⟩ hB => ⟨hm, hb.trans (hB.below (by simp) hb.size), hB.block hc (by simp)⟩)
    (fun m W ⟨_, hb, _⟩ => h.below hb)
    ⟨Nat.le_refl _, ((Below.refl _ w).alloc (Nat.le_refl _) _).alloc (by simp) _, by
      rw [Nat.sub_self, Below.heap_alloc _ _ _ (by simp)]; exact heap_alloc_new _ _⟩
    (fun m x W ⟨hm, hb, hc⟩ _ hq => (none1_any w.heap.size x _ (by omega) (by omega) W hc).mono fun e W' ⟨he, hc', hB⟩ => by
      simp only [World.size_alloc] at hq
      refine ⟨he, ⟨by omega, hb.trans (hB.below (Nat.le_refl _) hb.size), ?_⟩, hB.size, hB.2 _ (by simp; omega) (by simp), hB.2 _ (by omega) (by omega)⟩
      have e1 : (((n - (m + 1) : Nat) : Int) + 1) = ((n - m : Nat) : Int) := by omega
      rw [hc', e1])
  have HN : Hid (∀ W, Calls Try.prog 6 #[.slice a n cap, .nilFunc] W fun e w' => e = .returned (.tuple #[idA (0, 0), .int .i64 0, .int .i64 3]) ∧ Below W.heap.size W w') := fun W => pick_nil a n cap W
  have HG : Hid (∀ (w : World) (a b c d : Int), (Op.equalIn 10000 24 (.agg #[.int .i64 a, .int .i64 b]) (.agg #[.int .i64 c, .int .i64 d])).run Try.prog w = .ok (a == c && b == d) w) := run_eqI
  go_enter Try.func3, Try.ntmps3
  go_wp2_with fail
  refine HP.mono ?_
  rintro e w1 (⟨_, _, _, _, hff, _⟩ | ⟨_, rfl, _, hb1, hc1⟩)
  · cases hff
  clear HP
  simp only [idA]
  rw [Nat.sub_zero] at hc1
  have hs1 := hb1.size
  have hb1l := (Array.getElem?_eq_some_iff.1 hc1).1
  have HN1 := HN.out (w1.alloc (.cells #[.int .i64 0, .int .i64 0] 24))
  clear HN
  go_wp2_with fail
  refine HN1.mono ?_
  rintro e w2 ⟨rfl, hb2⟩
  simp only [idA]
  have hd2 : w2.heap[w.heap.size]? = some (.cells #[.int .i64 (n : Int)] 3) := (hb2.block _ (by simp; omega)).trans ((Below.heap_alloc _ _ _ hb1l).trans hc1)
  have c0 : w2.cell? ⟨w.heap.size, 0, none⟩ = some (.int .i64 n) := by rw [Lib.cell_of_heap hd2]; rfl
  have hi : w2.heap[w1.heap.size]? = some (.cells #[.int .i64 0, .int .i64 0] 24) := (hb2.block _ (by simp)).trans (heap_alloc_new _ _)
  have c1 : w2.cell? ⟨w1.heap.size, 0, none⟩ = some (.int .i64 0) := by rw [Lib.cell_of_heap hi]; rfl
  have c2 : w2.cell? ⟨w1.heap.size, 1, none⟩ = some (.int .i64 0) := by rw [Lib.cell_of_heap hi]; rfl
  have hl2 := (Array.getElem?_eq_some_iff.1 hi).1
  have hB2 : Below w.heap.size w w2 := hb1.trans (((Below.refl _ w1).alloc hs1 _).trans (hb2.mono (by simp; omega)))
  have hl0 : w.heap.size < w2.heap.size := by omega
  clear HN1 hd2 hi
  have HG2 := HG.out
  go_wp2_with fail
  go_ret
  exact ⟨rfl, hB2.alloc (by omega) _⟩
end Go.Proofs.Ytgbdohljfedeoaa
