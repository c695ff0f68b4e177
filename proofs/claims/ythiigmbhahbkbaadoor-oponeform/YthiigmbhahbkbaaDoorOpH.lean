import Derived.Test.YthiigmbhahbkbaaDoorOpG
namespace Go.Proofs.YthiigmbhahbkbaaDoor
open Go.RowKit Go.Lib Sp
set_option maxRecDepth 100000

set_option maxHeartbeats 1000000 in
theorem asked_is {o : OpV} {total want : Int} {w : World} {a : Option Addr} {m cap : Nat} (hq : opCheck o total = want) (h : Rng w a m cap o.l) (hs : o.s.size ≤ 9223372036854775807) (hw : Bar w) :
    Calls Tryd.prog 12 #[opVal o (.slice a m cap), .int .i64 total, .int .i64 want] w fun e w' => e = .returned (.bool true) ∧ Below w.heap.size w w' := by
  have HC : Hid (∀ w' : World, Below w.heap.size w w' → Calls Tryd.prog 31 #[opVal o (.slice a m cap), .int .i64 total] w' fun e w'' => e = .returned (.int .i64 want) ∧ Below w'.heap.size w' w'') := fun w' hb => hq ▸ opCheck_any (h.below hb) hs (hw.below hb)
  clear hq h hs hw
  obtain ⟨c, n, k, p, s, l, tc, tn, on⟩ := o
  simp only [opVal] at *
  have hw2 := (Below.refl w.heap.size w).alloc (Nat.le_refl _) (Obj.cells #[.int .i64 c, .int .i64 n, .int .i64 k, .int .i64 p, .string s, .slice a m cap, .int .i64 tc, .int .i64 tn, .bool on] 31)
  go_enter Tryd.func12, Tryd.ntmps12
  go_wp2_with fail
  refine (HC.out _ hw2).mono ?_
  rintro e w1 ⟨rfl, hb1⟩
  have hB := hw2.trans (hb1.mono hw2.size)
  clear hw2 hb1 HC
  go_wp2_with fail
  go_ret
  exact ⟨rfl, hB⟩

/-- A list that was just built. -/
theorem rng_one {w : World} {g : Nat} {x y : Int} {T : TypeId} (h : w.heap[g]? = some (.cells #[.int .i64 x, .int .i64 y] T)) : Rng w (some ⟨g, 0, none⟩) 1 1 [(x, y)] :=
  ⟨rfl, ⟨Nat.le_refl _, by decide⟩, fun j hj => by
    obtain rfl : j = 0 := by omega
    refine ⟨g, 0, rfl, (Array.getElem?_eq_some_iff.1 h).1, ?_, ?_⟩
    · rw [Lib.cell_of_heap h]; rfl
    · rw [Lib.cell_of_heap h]; rfl⟩
theorem rng_two {w : World} {g : Nat} {x y x2 y2 : Int} {T : TypeId} (h : w.heap[g]? = some (.cells #[.int .i64 x, .int .i64 y, .int .i64 x2, .int .i64 y2] T)) : Rng w (some ⟨g, 0, none⟩) 2 2 [(x, y), (x2, y2)] :=
  ⟨rfl, ⟨Nat.le_refl _, by decide⟩, fun j hj => by
    have : j = 0 ∨ j = 1 := by omega
    refine ⟨g, 0, rfl, (Array.getElem?_eq_some_iff.1 h).1, ?_, ?_⟩
    · rw [Lib.cell_of_heap h]; rcases this with rfl | rfl <;> rfl
    · rw [Lib.cell_of_heap h]; rcases this with rfl | rfl <;> rfl⟩

theorem alloc_last (w : World) (o : Obj) (k : Nat) (hk : k = w.heap.size) : (w.alloc o).heap[k]? = some o := by
  subst hk
  show (w.heap.push o)[w.heap.size]? = _
  simp

set_option maxHeartbeats 1000000 in
theorem base_0 (t : Int) (w : World) : Calls Tryd.prog 11 #[.int .i64 0, .int .i64 t] w fun e w' => e = .returned (opVal ⟨2, 3, 1, t, ⟨#[97, 98]⟩, [], 0, 0, false⟩ (.slice none 0 0)) ∧ Below w.heap.size w w' := by
  go_enter Tryd.func11, Tryd.ntmps11
  go_wp2_with fail
  refine bodyPost_ret (v := opVal ⟨2, 3, 1, t, ⟨#[97, 98]⟩, [], 0, 0, false⟩ (.slice none 0 0)) (by simp [results, Tryd.results11, go_sem, opVal]) rfl ⟨rfl, ((Below.refl _ _).alloc (Nat.le_refl _) _).alloc (by simp) _⟩
set_option maxHeartbeats 1000000 in
theorem base_1 (t : Int) (h0 : 1 ≤ t) (h1 : t ≤ 1000000) (w : World) : Calls Tryd.prog 11 #[.int .i64 1, .int .i64 t] w fun e w' => ∃ a m cap, e = .returned (opVal ⟨2, 3, 2, 0, ⟨#[]⟩, [(t - 1, t)], 0, 0, false⟩ (.slice a m cap)) ∧ Rng w' a m cap [(t - 1, t)] ∧ Below w.heap.size w w' := by
  go_enter Tryd.func11, Tryd.ntmps11
  go_wp2_with fail
  refine bodyPost_ret (v := opVal ⟨2, 3, 2, 0, ⟨#[]⟩, [(t - 1, t)], 0, 0, false⟩ (.slice (some ⟨w.heap.size + 2, 0, none⟩) 1 1)) (by simp [results, Tryd.results11, go_sem, opVal]) rfl ⟨_, _, _, rfl, rng_one (T := 69) (alloc_last _ _ _ (by simp)), (((Below.refl _ _).alloc (Nat.le_refl _) _).alloc (by simp) _).alloc (by simp; omega) _⟩
set_option maxHeartbeats 1000000 in
theorem base_2 (t : Int) (w : World) : Calls Tryd.prog 11 #[.int .i64 2, .int .i64 t] w fun e w' => ∃ a m cap, e = .returned (opVal ⟨2, 3, 3, 0, ⟨#[]⟩, [(0, 1)], 0, 0, false⟩ (.slice a m cap)) ∧ Rng w' a m cap [(0, 1)] ∧ Below w.heap.size w w' := by
  go_enter Tryd.func11, Tryd.ntmps11
  go_wp2_with fail
  refine bodyPost_ret (v := opVal ⟨2, 3, 3, 0, ⟨#[]⟩, [(0, 1)], 0, 0, false⟩ (.slice (some ⟨w.heap.size + 2, 0, none⟩) 1 1)) (by simp [results, Tryd.results11, go_sem, opVal]) rfl ⟨_, _, _, rfl, rng_one (T := 69) (alloc_last _ _ _ (by simp)), (((Below.refl _ _).alloc (Nat.le_refl _) _).alloc (by simp) _).alloc (by simp; omega) _⟩
set_option maxHeartbeats 1000000 in
theorem base_3 (t : Int) (w : World) : Calls Tryd.prog 11 #[.int .i64 3, .int .i64 t] w fun e w' => e = .returned (opVal ⟨2, 3, 4, 0, ⟨#[]⟩, [], 2, 2, false⟩ (.slice none 0 0)) ∧ Below w.heap.size w w' := by
  go_enter Tryd.func11, Tryd.ntmps11
  go_wp2_with fail
  refine bodyPost_ret (v := opVal ⟨2, 3, 4, 0, ⟨#[]⟩, [], 2, 2, false⟩ (.slice none 0 0)) (by simp [results, Tryd.results11, go_sem, opVal]) rfl ⟨rfl, ((Below.refl _ _).alloc (Nat.le_refl _) _).alloc (by simp) _⟩
end Go.Proofs.YthiigmbhahbkbaaDoor
