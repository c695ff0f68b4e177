import Derived.Test.YtjcfeaekhefpfaaDcB
/-! The sentences' own does. -/
namespace Go.Proofs.Ytjcfeaekhefpfaa
open Go.RowKit Go.Lib Go.Sort Go.Shelf
set_option maxRecDepth 100000

theorem nxt_below {w w' : World} {p b ck : Nat} {S : Dk} {xs : List X} (h : DiskAt w p b S xs ck) (hb : Below w.heap.size w w') : Nxt w w' p b xs S := ⟨_, _, h.below hb, Chg.of_below hb, fun _ hg => .inl hg⟩
/-- boxes laid ahead of a call, one of them written behind it -/
theorem nxt_wrap {w w2 w3 W9 : World} {p b ck A : Nat} {S S' : Dk} {xs : List X} (hD : DiskAt w p b S xs ck) (hb : Below w.heap.size w w2) (h : Nxt w2 w3 p b xs S') (hA : w.heap.size ≤ A) (hA2 : A < w2.heap.size) (hC : Chg (fun g => g = A) w3 W9) : Nxt w W9 p b xs S' := by
  obtain ⟨xs', ck', h1, h2, h3⟩ := h
  have hsz := hb.size
  refine ⟨xs', ck', h1.chg hC (fun g hg e => ?_), ((Chg.of_below hb).then h2 (fun g hg => .inl hg)).then hC (fun g e => .inr (by omega)), fun g hg => ?_⟩
  · subst e
    rcases h3 g hg with h | h
    · have := hD.lt h; omega
    · omega
  · rcases h3 g hg with h | h
    · exact .inl h
    · exact .inr (by omega)
theorem set6 {W : World} {q : Nat} {T : TypeId} {u0 u1 u2 u3 u4 u5 : Value} (h : W.heap[q]? = some (.cells #[u0, u1, u2, u3, u4, u5] T)) (v0 v1 v2 v3 v4 v5 : Value) :
    ∃ W9, (((((W.setCell ⟨q, 0, none⟩ v0).setCell ⟨q, 1, none⟩ v1).setCell ⟨q, 2, none⟩ v2).setCell ⟨q, 3, none⟩ v3).setCell ⟨q, 4, none⟩ v4).setCell ⟨q, 5, none⟩ v5 = W9 ∧ W9.heap[q]? = some (.cells #[v0, v1, v2, v3, v4, v5] T) ∧ Chg (fun g => g = q) W W9 := by
  have e0 := heap_setCell_cells h 0 v0
  have e1 := heap_setCell_cells e0 1 v1
  have e2 := heap_setCell_cells e1 2 v2
  have e3 := heap_setCell_cells e2 3 v3
  have e4 := heap_setCell_cells e3 4 v4
  have e5 := heap_setCell_cells e4 5 v5
  have hs : ∀ (i : Nat) (W : World) (u : Value), Chg (fun g => g = q) W (W.setCell ⟨q, i, none⟩ u) := fun i W u => Chg.set (D := fun g => g = q) (q := q) i W u rfl
  exact ⟨_, rfl, e5, (((((hs 0 _ _).trans (hs 1 _ _)).trans (hs 2 _ _)).trans (hs 3 _ _)).trans (hs 4 _ _)).trans (hs 5 _ _)⟩
theorem box6 {W : World} {b : Nat} {T : TypeId} {v0 v1 v2 v3 v4 v5 : Value} (h : W.heap[b]? = some (.cells #[v0, v1, v2, v3, v4, v5] T)) : W.cell? ⟨b, 0, none⟩ = some v0 ∧ W.cell? ⟨b, 1, none⟩ = some v1 ∧ W.cell? ⟨b, 2, none⟩ = some v2 ∧ W.cell? ⟨b, 3, none⟩ = some v3 ∧ W.cell? ⟨b, 4, none⟩ = some v4 ∧ W.cell? ⟨b, 5, none⟩ = some v5 := by
  simp only [Lib.cell_of_heap h]
  exact ⟨rfl, rfl, rfl, rfl, rfl, rfl⟩
set_option maxHeartbeats 1000000 in
theorem num_any (x : Int) (w : World) : Calls Try.prog 6 #[.int .i64 x] w fun e w' => e = .returned (.int .i64 x) ∧ w' = w := by
  go_enter Try.func6, Try.ntmps6
  go_wp2_with fail
  go_ret
  exact ⟨rfl, rfl⟩
set_option maxHeartbeats 1000000 in
theorem copied_any {w : World} {a : Option Addr} {n cap : Nat} {l : List UInt8} (h : Rw byU 1 w a n cap l) (hl : n ≤ 140737488351232) :
    Calls Try.prog 8 #[.slice a n cap] w fun e w' => ∃ a' cap', e = .returned (.slice a' n cap') ∧ OwnF byU 1 5 w' w.heap.size (.slice a' n cap') l ∧ Below w.heap.size w w' := by
  obtain ⟨a7, cap7, w7, hr7, ho7, hb7, _⟩ := appendU kindU layU (ownF_nil w w.heap.size) (Nat.le_refl _) h (by simp; omega) (by simp; omega) 22
  simp only [List.length_nil, Nat.zero_add, List.nil_append] at hr7 ho7
  have HX : Hid (OwnF byU 1 5 w7 w.heap.size (.slice a7 n cap7) l ∧ Below w.heap.size w w7) := ⟨ho7, hb7⟩
  clear h hl ho7 hb7
  go_enter Try.func8, Try.ntmps8
  go_wp2_with (at_builtin; refine wpList_append_hr rfl _ _ 22 rfl _ _ rfl rfl hr7 ?_)
  go_ret
  exact ⟨a7, cap7, rfl, HX.out⟩
set_option maxHeartbeats 2000000 in
theorem does_2 {w : World} {p b ck : Nat} {S : Dk} {xs : List X} (h : DiskAt w p b S xs ck) (hO : S.Ok) (nm : List UInt8) (hl : nm.length ≤ 9223372036854775807) {ba : Option Addr} {bn bc : Nat} (N M : Int) (_hN : N ≤ 9223372036854775807) (_hM : M ≤ 9223372036854775807) :
    Calls Try.prog 14 #[.pointer (some ⟨p, 0, none⟩), .agg #[.int .i64 2, .string ⟨nm.toArray⟩, .slice ba bn bc, .int .i64 N, .int .i64 M]] w fun e w' => e = .returned (.agg #[.int .i64 ((syncP S nm).2), .int .i64 0, .int .i64 0, .slice none 0 0, .slice none 0 0, .bool false]) ∧ Nxt w w' p b xs ((syncP S nm).1) := by
  obtain ⟨W0, hW0⟩ : ∃ W0, w.alloc (.cells #[.int .i64 2, .string ⟨nm.toArray⟩, .slice ba bn bc, .int .i64 N, .int .i64 M] 51) = W0 := ⟨_, rfl⟩
  obtain ⟨W1, hW1⟩ : ∃ W1, W0.alloc (.cells #[.int .i64 0, .int .i64 0, .int .i64 0, .slice none 0 0, .slice none 0 0, .bool false] 48) = W1 := ⟨_, rfl⟩
  have hs0 : W0.heap.size = w.heap.size + 1 := by rw [← hW0, World.size_alloc]
  have hs1 : W1.heap.size = w.heap.size + 2 := by rw [← hW1, World.size_alloc, hs0]
  have hb1 : Below w.heap.size w W1 := by rw [← hW1, ← hW0]; exact ((Below.refl _ _).alloc (Nat.le_refl _) _).alloc (by rw [World.size_alloc]; omega) _
  have hq0 : W0.heap[w.heap.size]? = some (.cells #[.int .i64 2, .string ⟨nm.toArray⟩, .slice ba bn bc, .int .i64 N, .int .i64 M] 51) := by rw [← hW0]; exact (MapKept.heap_alloc w _).1
  have hq : W1.heap[w.heap.size]? = some (.cells #[.int .i64 2, .string ⟨nm.toArray⟩, .slice ba bn bc, .int .i64 N, .int .i64 M] 51) := by rw [← hW1]; exact ((MapKept.heap_alloc W0 _).2 _ (by omega)).trans hq0
  have hA : W1.heap[W0.heap.size]? = some (.cells #[.int .i64 0, .int .i64 0, .int .i64 0, .slice none 0 0, .slice none 0 0, .bool false] 48) := by rw [← hW1]; exact (MapKept.heap_alloc W0 _).1
  have hD1 := h.below hb1
  have HD : Hid (DiskAt w p b S xs ck ∧ Below w.heap.size w W1 ∧ w.heap.size ≤ W0.heap.size ∧ W0.heap.size < W1.heap.size ∧ DiskAt W1 p b S xs ck ∧ W1.heap[W0.heap.size]? = some (.cells #[.int .i64 0, .int .i64 0, .int .i64 0, .slice none 0 0, .slice none 0 0, .bool false] 48) ∧ W0.heap.size = w.heap.size + 1) := ⟨h, hb1, by omega, by omega, hD1, hA, hs0⟩
  obtain ⟨b0, b1, b2, b3, b4⟩ := box5 hq
  have HNU : Hid (∀ x w, Calls Try.prog 6 #[.int .i64 x] w fun e w' => e = .returned (.int .i64 x) ∧ w' = w) := num_any
  have HC : Hid (Calls Try.prog 32 #[.pointer (some ⟨p, 0, none⟩), .string ⟨nm.toArray⟩] W1 fun e w' => e = .returned (.int .i64 ((syncP S nm).2)) ∧ Nxt W1 w' p b xs ((syncP S nm).1)) := sync_all hD1 hO nm hl
  clear h hO hl _hN _hM hs0 hs1 hb1 hq0 hq hA hD1
  generalize (syncP S nm).2 = er at *
  generalize (syncP S nm).1 = S2 at *
  go_enter Try.func14, Try.ntmps14
  go_wp2_with fail
  refine HC.out.mono ?_
  rintro e w3 ⟨rfl, hnx⟩
  have HX : Hid (Nxt W1 w3 p b xs S2) := hnx
  have hAW : w3.heap[W0.heap.size]? = some (.cells #[.int .i64 0, .int .i64 0, .int .i64 0, .slice none 0 0, .slice none 0 0, .bool false] 48) := by
    obtain ⟨xs', ck', _, hC, _⟩ := hnx
    exact hC.block HD.out.2.2.2.2.2.1 (fun hg => by have := HD.out.1.lt hg; have := HD.out.2.2.1; omega)
  clear hnx HC
  go_wp2_with fail
  refine (HNU.out _ _).mono ?_
  rintro e wz ⟨rfl, hz⟩
  rw [hz]
  clear hz wz
  obtain ⟨W9, hW9, hh9, hC9⟩ := set6 hAW (.int .i64 er) (.int .i64 0) (.int .i64 0) (.slice none 0 0) (.slice none 0 0) (.bool false)
  obtain ⟨y0, y1, y2, y3, y4, y5⟩ := box6 hAW
  have k0 := Lib.frozen_of_heap hAW 0
  have k1 := Lib.frozen_of_heap hAW 1
  have k2 := Lib.frozen_of_heap hAW 2
  have k3 := Lib.frozen_of_heap hAW 3
  have k4 := Lib.frozen_of_heap hAW 4
  have k5 := Lib.frozen_of_heap hAW 5
  obtain ⟨r0, r1, r2, r3, r4, r5⟩ := box6 hh9
  have HC9 : Hid (Chg (fun g => g = W0.heap.size) w3 W9) := hC9
  clear hAW hh9 hC9
  go_wp2_with fail
  refine bodyPost_ret (v := .agg #[.int .i64 er, .int .i64 0, .int .i64 0, .slice none 0 0, .slice none 0 0, .bool false]) (by simp [results, Try.results14, go_sem, r0, r1, r2, r3, r4, r5]) rfl ?_
  exact ⟨rfl, nxt_wrap HD.out.1 HD.out.2.1 HX.out HD.out.2.2.1 HD.out.2.2.2.1 HC9.out⟩
set_option maxHeartbeats 2000000 in
theorem does_3 {w : World} {p b ck : Nat} {S : Dk} {xs : List X} (h : DiskAt w p b S xs ck) (hO : S.Ok) (nm : List UInt8) (hl : nm.length ≤ 9223372036854775807) {ba : Option Addr} {bn bc : Nat} (N M : Int) (_hN : N ≤ 9223372036854775807) (_hM : M ≤ 9223372036854775807) :
    Calls Try.prog 14 #[.pointer (some ⟨p, 0, none⟩), .agg #[.int .i64 3, .string ⟨nm.toArray⟩, .slice ba bn bc, .int .i64 N, .int .i64 M]] w fun e w' => e = .returned (.agg #[.int .i64 ((cutP S nm N).2), .int .i64 0, .int .i64 0, .slice none 0 0, .slice none 0 0, .bool false]) ∧ Nxt w w' p b xs ((cutP S nm N).1) := by
  obtain ⟨W0, hW0⟩ : ∃ W0, w.alloc (.cells #[.int .i64 3, .string ⟨nm.toArray⟩, .slice ba bn bc, .int .i64 N, .int .i64 M] 51) = W0 := ⟨_, rfl⟩
  obtain ⟨W1, hW1⟩ : ∃ W1, W0.alloc (.cells #[.int .i64 0, .int .i64 0, .int .i64 0, .slice none 0 0, .slice none 0 0, .bool false] 48) = W1 := ⟨_, rfl⟩
  have hs0 : W0.heap.size = w.heap.size + 1 := by rw [← hW0, World.size_alloc]
  have hs1 : W1.heap.size = w.heap.size + 2 := by rw [← hW1, World.size_alloc, hs0]
  have hb1 : Below w.heap.size w W1 := by rw [← hW1, ← hW0]; exact ((Below.refl _ _).alloc (Nat.le_refl _) _).alloc (by rw [World.size_alloc]; omega) _
  have hq0 : W0.heap[w.heap.size]? = some (.cells #[.int .i64 3, .string ⟨nm.toArray⟩, .slice ba bn bc, .int .i64 N, .int .i64 M] 51) := by rw [← hW0]; exact (MapKept.heap_alloc w _).1
  have hq : W1.heap[w.heap.size]? = some (.cells #[.int .i64 3, .string ⟨nm.toArray⟩, .slice ba bn bc, .int .i64 N, .int .i64 M] 51) := by rw [← hW1]; exact ((MapKept.heap_alloc W0 _).2 _ (by omega)).trans hq0
  have hA : W1.heap[W0.heap.size]? = some (.cells #[.int .i64 0, .int .i64 0, .int .i64 0, .slice none 0 0, .slice none 0 0, .bool false] 48) := by rw [← hW1]; exact (MapKept.heap_alloc W0 _).1
  have hD1 := h.below hb1
  have HD : Hid (DiskAt w p b S xs ck ∧ Below w.heap.size w W1 ∧ w.heap.size ≤ W0.heap.size ∧ W0.heap.size < W1.heap.size ∧ DiskAt W1 p b S xs ck ∧ W1.heap[W0.heap.size]? = some (.cells #[.int .i64 0, .int .i64 0, .int .i64 0, .slice none 0 0, .slice none 0 0, .bool false] 48) ∧ W0.heap.size = w.heap.size + 1) := ⟨h, hb1, by omega, by omega, hD1, hA, hs0⟩
  obtain ⟨b0, b1, b2, b3, b4⟩ := box5 hq
  have HNU : Hid (∀ x w, Calls Try.prog 6 #[.int .i64 x] w fun e w' => e = .returned (.int .i64 x) ∧ w' = w) := num_any
  have HC : Hid (Calls Try.prog 34 #[.pointer (some ⟨p, 0, none⟩), .string ⟨nm.toArray⟩, .int .i64 N] W1 fun e w' => e = .returned (.int .i64 ((cutP S nm N).2)) ∧ Nxt W1 w' p b xs ((cutP S nm N).1)) := cut_all hD1 hO nm hl N
  clear h hO hl _hN _hM hs0 hs1 hb1 hq0 hq hA hD1
  generalize (cutP S nm N).2 = er at *
  generalize (cutP S nm N).1 = S2 at *
  go_enter Try.func14, Try.ntmps14
  go_wp2_with fail
  refine HC.out.mono ?_
  rintro e w3 ⟨rfl, hnx⟩
  have HX : Hid (Nxt W1 w3 p b xs S2) := hnx
  have hAW : w3.heap[W0.heap.size]? = some (.cells #[.int .i64 0, .int .i64 0, .int .i64 0, .slice none 0 0, .slice none 0 0, .bool false] 48) := by
    obtain ⟨xs', ck', _, hC, _⟩ := hnx
    exact hC.block HD.out.2.2.2.2.2.1 (fun hg => by have := HD.out.1.lt hg; have := HD.out.2.2.1; omega)
  clear hnx HC
  go_wp2_with fail
  refine (HNU.out _ _).mono ?_
  rintro e wz ⟨rfl, hz⟩
  rw [hz]
  clear hz wz
  obtain ⟨W9, hW9, hh9, hC9⟩ := set6 hAW (.int .i64 er) (.int .i64 0) (.int .i64 0) (.slice none 0 0) (.slice none 0 0) (.bool false)
  obtain ⟨y0, y1, y2, y3, y4, y5⟩ := box6 hAW
  have k0 := Lib.frozen_of_heap hAW 0
  have k1 := Lib.frozen_of_heap hAW 1
  have k2 := Lib.frozen_of_heap hAW 2
  have k3 := Lib.frozen_of_heap hAW 3
  have k4 := Lib.frozen_of_heap hAW 4
  have k5 := Lib.frozen_of_heap hAW 5
  obtain ⟨r0, r1, r2, r3, r4, r5⟩ := box6 hh9
  have HC9 : Hid (Chg (fun g => g = W0.heap.size) w3 W9) := hC9
  clear hAW hh9 hC9
  go_wp2_with fail
  refine bodyPost_ret (v := .agg #[.int .i64 er, .int .i64 0, .int .i64 0, .slice none 0 0, .slice none 0 0, .bool false]) (by simp [results, Try.results14, go_sem, r0, r1, r2, r3, r4, r5]) rfl ?_
  exact ⟨rfl, nxt_wrap HD.out.1 HD.out.2.1 HX.out HD.out.2.2.1 HD.out.2.2.2.1 HC9.out⟩
set_option maxHeartbeats 2000000 in
theorem does_4 {w : World} {p b ck : Nat} {S : Dk} {xs : List X} (h : DiskAt w p b S xs ck) (hO : S.Ok) (nm : List UInt8) (hl : nm.length ≤ 9223372036854775807) {ba : Option Addr} {bn bc : Nat} (N M : Int) (_hN : N ≤ 9223372036854775807) (_hM : M ≤ 9223372036854775807) :
    Calls Try.prog 14 #[.pointer (some ⟨p, 0, none⟩), .agg #[.int .i64 4, .string ⟨nm.toArray⟩, .slice ba bn bc, .int .i64 N, .int .i64 M]] w fun e w' => e = .returned (.agg #[.int .i64 ((removeP S nm).2), .int .i64 0, .int .i64 0, .slice none 0 0, .slice none 0 0, .bool false]) ∧ Nxt w w' p b xs ((removeP S nm).1) := by
  obtain ⟨W0, hW0⟩ : ∃ W0, w.alloc (.cells #[.int .i64 4, .string ⟨nm.toArray⟩, .slice ba bn bc, .int .i64 N, .int .i64 M] 51) = W0 := ⟨_, rfl⟩
  obtain ⟨W1, hW1⟩ : ∃ W1, W0.alloc (.cells #[.int .i64 0, .int .i64 0, .int .i64 0, .slice none 0 0, .slice none 0 0, .bool false] 48) = W1 := ⟨_, rfl⟩
  have hs0 : W0.heap.size = w.heap.size + 1 := by rw [← hW0, World.size_alloc]
  have hs1 : W1.heap.size = w.heap.size + 2 := by rw [← hW1, World.size_alloc, hs0]
  have hb1 : Below w.heap.size w W1 := by rw [← hW1, ← hW0]; exact ((Below.refl _ _).alloc (Nat.le_refl _) _).alloc (by rw [World.size_alloc]; omega) _
  have hq0 : W0.heap[w.heap.size]? = some (.cells #[.int .i64 4, .string ⟨nm.toArray⟩, .slice ba bn bc, .int .i64 N, .int .i64 M] 51) := by rw [← hW0]; exact (MapKept.heap_alloc w _).1
  have hq : W1.heap[w.heap.size]? = some (.cells #[.int .i64 4, .string ⟨nm.toArray⟩, .slice ba bn bc, .int .i64 N, .int .i64 M] 51) := by rw [← hW1]; exact ((MapKept.heap_alloc W0 _).2 _ (by omega)).trans hq0
  have hA : W1.heap[W0.heap.size]? = some (.cells #[.int .i64 0, .int .i64 0, .int .i64 0, .slice none 0 0, .slice none 0 0, .bool false] 48) := by rw [← hW1]; exact (MapKept.heap_alloc W0 _).1
  have hD1 := h.below hb1
  have HD : Hid (DiskAt w p b S xs ck ∧ Below w.heap.size w W1 ∧ w.heap.size ≤ W0.heap.size ∧ W0.heap.size < W1.heap.size ∧ DiskAt W1 p b S xs ck ∧ W1.heap[W0.heap.size]? = some (.cells #[.int .i64 0, .int .i64 0, .int .i64 0, .slice none 0 0, .slice none 0 0, .bool false] 48) ∧ W0.heap.size = w.heap.size + 1) := ⟨h, hb1, by omega, by omega, hD1, hA, hs0⟩
  obtain ⟨b0, b1, b2, b3, b4⟩ := box5 hq
  have HNU : Hid (∀ x w, Calls Try.prog 6 #[.int .i64 x] w fun e w' => e = .returned (.int .i64 x) ∧ w' = w) := num_any
  have HC : Hid (Calls Try.prog 35 #[.pointer (some ⟨p, 0, none⟩), .string ⟨nm.toArray⟩] W1 fun e w' => e = .returned (.int .i64 ((removeP S nm).2)) ∧ Nxt W1 w' p b xs ((removeP S nm).1)) := remove_all hD1 hO nm hl
  clear h hO hl _hN _hM hs0 hs1 hb1 hq0 hq hA hD1
  generalize (removeP S nm).2 = er at *
  generalize (removeP S nm).1 = S2 at *
  go_enter Try.func14, Try.ntmps14
  go_wp2_with fail
  refine HC.out.mono ?_
  rintro e w3 ⟨rfl, hnx⟩
  have HX : Hid (Nxt W1 w3 p b xs S2) := hnx
  have hAW : w3.heap[W0.heap.size]? = some (.cells #[.int .i64 0, .int .i64 0, .int .i64 0, .slice none 0 0, .slice none 0 0, .bool false] 48) := by
    obtain ⟨xs', ck', _, hC, _⟩ := hnx
    exact hC.block HD.out.2.2.2.2.2.1 (fun hg => by have := HD.out.1.lt hg; have := HD.out.2.2.1; omega)
  clear hnx HC
  go_wp2_with fail
  refine (HNU.out _ _).mono ?_
  rintro e wz ⟨rfl, hz⟩
  rw [hz]
  clear hz wz
  obtain ⟨W9, hW9, hh9, hC9⟩ := set6 hAW (.int .i64 er) (.int .i64 0) (.int .i64 0) (.slice none 0 0) (.slice none 0 0) (.bool false)
  obtain ⟨y0, y1, y2, y3, y4, y5⟩ := box6 hAW
  have k0 := Lib.frozen_of_heap hAW 0
  have k1 := Lib.frozen_of_heap hAW 1
  have k2 := Lib.frozen_of_heap hAW 2
  have k3 := Lib.frozen_of_heap hAW 3
  have k4 := Lib.frozen_of_heap hAW 4
  have k5 := Lib.frozen_of_heap hAW 5
  obtain ⟨r0, r1, r2, r3, r4, r5⟩ := box6 hh9
  have HC9 : Hid (Chg (fun g => g = W0.heap.size) w3 W9) := hC9
  clear hAW hh9 hC9
  go_wp2_with fail
  refine bodyPost_ret (v := .agg #[.int .i64 er, .int .i64 0, .int .i64 0, .slice none 0 0, .slice none 0 0, .bool false]) (by simp [results, Try.results14, go_sem, r0, r1, r2, r3, r4, r5]) rfl ?_
  exact ⟨rfl, nxt_wrap HD.out.1 HD.out.2.1 HX.out HD.out.2.2.1 HD.out.2.2.2.1 HC9.out⟩
set_option maxHeartbeats 2000000 in
theorem does_8 {w : World} {p b ck : Nat} {S : Dk} {xs : List X} (h : DiskAt w p b S xs ck) (_hO : S.Ok) (nm : List UInt8) (_hl : nm.length ≤ 9223372036854775807) {ba : Option Addr} {bn bc : Nat} (N M : Int) (_hN : N ≤ 9223372036854775807) (_hM : M ≤ 9223372036854775807) :
    Calls Try.prog 14 #[.pointer (some ⟨p, 0, none⟩), .agg #[.int .i64 8, .string ⟨nm.toArray⟩, .slice ba bn bc, .int .i64 N, .int .i64 M]] w fun e w' => e = .returned (.agg #[.int .i64 ((armP S N M).2), .int .i64 0, .int .i64 0, .slice none 0 0, .slice none 0 0, .bool false]) ∧ Nxt w w' p b xs ((armP S N M).1) := by
  obtain ⟨W0, hW0⟩ : ∃ W0, w.alloc (.cells #[.int .i64 8, .string ⟨nm.toArray⟩, .slice ba bn bc, .int .i64 N, .int .i64 M] 51) = W0 := ⟨_, rfl⟩
  obtain ⟨W1, hW1⟩ : ∃ W1, W0.alloc (.cells #[.int .i64 0, .int .i64 0, .int .i64 0, .slice none 0 0, .slice none 0 0, .bool false] 48) = W1 := ⟨_, rfl⟩
  have hs0 : W0.heap.size = w.heap.size + 1 := by rw [← hW0, World.size_alloc]
  have hs1 : W1.heap.size = w.heap.size + 2 := by rw [← hW1, World.size_alloc, hs0]
  have hb1 : Below w.heap.size w W1 := by rw [← hW1, ← hW0]; exact ((Below.refl _ _).alloc (Nat.le_refl _) _).alloc (by rw [World.size_alloc]; omega) _
  have hq0 : W0.heap[w.heap.size]? = some (.cells #[.int .i64 8, .string ⟨nm.toArray⟩, .slice ba bn bc, .int .i64 N, .int .i64 M] 51) := by rw [← hW0]; exact (MapKept.heap_alloc w _).1
  have hq : W1.heap[w.heap.size]? = some (.cells #[.int .i64 8, .string ⟨nm.toArray⟩, .slice ba bn bc, .int .i64 N, .int .i64 M] 51) := by rw [← hW1]; exact ((MapKept.heap_alloc W0 _).2 _ (by omega)).trans hq0
  have hA : W1.heap[W0.heap.size]? = some (.cells #[.int .i64 0, .int .i64 0, .int .i64 0, .slice none 0 0, .slice none 0 0, .bool false] 48) := by rw [← hW1]; exact (MapKept.heap_alloc W0 _).1
  have hD1 := h.below hb1
  have HD : Hid (DiskAt w p b S xs ck ∧ Below w.heap.size w W1 ∧ w.heap.size ≤ W0.heap.size ∧ W0.heap.size < W1.heap.size ∧ DiskAt W1 p b S xs ck ∧ W1.heap[W0.heap.size]? = some (.cells #[.int .i64 0, .int .i64 0, .int .i64 0, .slice none 0 0, .slice none 0 0, .bool false] 48) ∧ W0.heap.size = w.heap.size + 1) := ⟨h, hb1, by omega, by omega, hD1, hA, hs0⟩
  obtain ⟨b0, b1, b2, b3, b4⟩ := box5 hq
  have HNU : Hid (∀ x w, Calls Try.prog 6 #[.int .i64 x] w fun e w' => e = .returned (.int .i64 x) ∧ w' = w) := num_any
  have HC : Hid (Calls Try.prog 37 #[.pointer (some ⟨p, 0, none⟩), .int .i64 N, .int .i64 M] W1 fun e w' => e = .returned (.int .i64 ((armP S N M).2)) ∧ Nxt W1 w' p b xs ((armP S N M).1)) := arm_all hD1 N M
  clear h _hO _hl _hN _hM hs0 hs1 hb1 hq0 hq hA hD1
  generalize (armP S N M).2 = er at *
  generalize (armP S N M).1 = S2 at *
  go_enter Try.func14, Try.ntmps14
  go_wp2_with fail
  refine HC.out.mono ?_
  rintro e w3 ⟨rfl, hnx⟩
  have HX : Hid (Nxt W1 w3 p b xs S2) := hnx
  have hAW : w3.heap[W0.heap.size]? = some (.cells #[.int .i64 0, .int .i64 0, .int .i64 0, .slice none 0 0, .slice none 0 0, .bool false] 48) := by
    obtain ⟨xs', ck', _, hC, _⟩ := hnx
    exact hC.block HD.out.2.2.2.2.2.1 (fun hg => by have := HD.out.1.lt hg; have := HD.out.2.2.1; omega)
  clear hnx HC
  go_wp2_with fail
  refine (HNU.out _ _).mono ?_
  rintro e wz ⟨rfl, hz⟩
  rw [hz]
  clear hz wz
  obtain ⟨W9, hW9, hh9, hC9⟩ := set6 hAW (.int .i64 er) (.int .i64 0) (.int .i64 0) (.slice none 0 0) (.slice none 0 0) (.bool false)
  obtain ⟨y0, y1, y2, y3, y4, y5⟩ := box6 hAW
  have k0 := Lib.frozen_of_heap hAW 0
  have k1 := Lib.frozen_of_heap hAW 1
  have k2 := Lib.frozen_of_heap hAW 2
  have k3 := Lib.frozen_of_heap hAW 3
  have k4 := Lib.frozen_of_heap hAW 4
  have k5 := Lib.frozen_of_heap hAW 5
  obtain ⟨r0, r1, r2, r3, r4, r5⟩ := box6 hh9
  have HC9 : Hid (Chg (fun g => g = W0.heap.size) w3 W9) := hC9
  clear hAW hh9 hC9
  go_wp2_with fail
  refine bodyPost_ret (v := .agg #[.int .i64 er, .int .i64 0, .int .i64 0, .slice none 0 0, .slice none 0 0, .bool false]) (by simp [results, Try.results14, go_sem, r0, r1, r2, r3, r4, r5]) rfl ?_
  exact ⟨rfl, nxt_wrap HD.out.1 HD.out.2.1 HX.out HD.out.2.2.1 HD.out.2.2.2.1 HC9.out⟩
set_option maxHeartbeats 2000000 in
theorem does_9 {w : World} {p b ck : Nat} {S : Dk} {xs : List X} (h : DiskAt w p b S xs ck) (hO : S.Ok) (nm : List UInt8) (_hl : nm.length ≤ 9223372036854775807) {ba : Option Addr} {bn bc : Nat} (N M : Int) (hN : N ≤ 9223372036854775807) (_hM : M ≤ 9223372036854775807) :
    Calls Try.prog 14 #[.pointer (some ⟨p, 0, none⟩), .agg #[.int .i64 9, .string ⟨nm.toArray⟩, .slice ba bn bc, .int .i64 N, .int .i64 M]] w fun e w' => e = .returned (.agg #[.int .i64 ((crashC S N).2), .int .i64 0, .int .i64 0, .slice none 0 0, .slice none 0 0, .bool false]) ∧ Nxt w w' p b xs ((crashC S N).1) := by
  obtain ⟨W0, hW0⟩ : ∃ W0, w.alloc (.cells #[.int .i64 9, .string ⟨nm.toArray⟩, .slice ba bn bc, .int .i64 N, .int .i64 M] 51) = W0 := ⟨_, rfl⟩
  obtain ⟨W1, hW1⟩ : ∃ W1, W0.alloc (.cells #[.int .i64 0, .int .i64 0, .int .i64 0, .slice none 0 0, .slice none 0 0, .bool false] 48) = W1 := ⟨_, rfl⟩
  have hs0 : W0.heap.size = w.heap.size + 1 := by rw [← hW0, World.size_alloc]
  have hs1 : W1.heap.size = w.heap.size + 2 := by rw [← hW1, World.size_alloc, hs0]
  have hb1 : Below w.heap.size w W1 := by rw [← hW1, ← hW0]; exact ((Below.refl _ _).alloc (Nat.le_refl _) _).alloc (by rw [World.size_alloc]; omega) _
  have hq0 : W0.heap[w.heap.size]? = some (.cells #[.int .i64 9, .string ⟨nm.toArray⟩, .slice ba bn bc, .int .i64 N, .int .i64 M] 51) := by rw [← hW0]; exact (MapKept.heap_alloc w _).1
  have hq : W1.heap[w.heap.size]? = some (.cells #[.int .i64 9, .string ⟨nm.toArray⟩, .slice ba bn bc, .int .i64 N, .int .i64 M] 51) := by rw [← hW1]; exact ((MapKept.heap_alloc W0 _).2 _ (by omega)).trans hq0
  have hA : W1.heap[W0.heap.size]? = some (.cells #[.int .i64 0, .int .i64 0, .int .i64 0, .slice none 0 0, .slice none 0 0, .bool false] 48) := by rw [← hW1]; exact (MapKept.heap_alloc W0 _).1
  have hD1 := h.below hb1
  have HD : Hid (DiskAt w p b S xs ck ∧ Below w.heap.size w W1 ∧ w.heap.size ≤ W0.heap.size ∧ W0.heap.size < W1.heap.size ∧ DiskAt W1 p b S xs ck ∧ W1.heap[W0.heap.size]? = some (.cells #[.int .i64 0, .int .i64 0, .int .i64 0, .slice none 0 0, .slice none 0 0, .bool false] 48) ∧ W0.heap.size = w.heap.size + 1) := ⟨h, hb1, by omega, by omega, hD1, hA, hs0⟩
  obtain ⟨b0, b1, b2, b3, b4⟩ := box5 hq
  have HNU : Hid (∀ x w, Calls Try.prog 6 #[.int .i64 x] w fun e w' => e = .returned (.int .i64 x) ∧ w' = w) := num_any
  have HC : Hid (Calls Try.prog 33 #[.pointer (some ⟨p, 0, none⟩), .int .i64 N] W1 fun e w' => e = .returned (.int .i64 ((crashC S N).2)) ∧ Nxt W1 w' p b xs ((crashC S N).1)) := crash_all hD1 hO N hN
  clear h hO _hl hN _hM hs0 hs1 hb1 hq0 hq hA hD1
  generalize (crashC S N).2 = er at *
  generalize (crashC S N).1 = S2 at *
  go_enter Try.func14, Try.ntmps14
  go_wp2_with fail
  refine HC.out.mono ?_
  rintro e w3 ⟨rfl, hnx⟩
  have HX : Hid (Nxt W1 w3 p b xs S2) := hnx
  have hAW : w3.heap[W0.heap.size]? = some (.cells #[.int .i64 0, .int .i64 0, .int .i64 0, .slice none 0 0, .slice none 0 0, .bool false] 48) := by
    obtain ⟨xs', ck', _, hC, _⟩ := hnx
    exact hC.block HD.out.2.2.2.2.2.1 (fun hg => by have := HD.out.1.lt hg; have := HD.out.2.2.1; omega)
  clear hnx HC
  go_wp2_with fail
  refine (HNU.out _ _).mono ?_
  rintro e wz ⟨rfl, hz⟩
  rw [hz]
  clear hz wz
  obtain ⟨W9, hW9, hh9, hC9⟩ := set6 hAW (.int .i64 er) (.int .i64 0) (.int .i64 0) (.slice none 0 0) (.slice none 0 0) (.bool false)
  obtain ⟨y0, y1, y2, y3, y4, y5⟩ := box6 hAW
  have k0 := Lib.frozen_of_heap hAW 0
  have k1 := Lib.frozen_of_heap hAW 1
  have k2 := Lib.frozen_of_heap hAW 2
  have k3 := Lib.frozen_of_heap hAW 3
  have k4 := Lib.frozen_of_heap hAW 4
  have k5 := Lib.frozen_of_heap hAW 5
  obtain ⟨r0, r1, r2, r3, r4, r5⟩ := box6 hh9
  have HC9 : Hid (Chg (fun g => g = W0.heap.size) w3 W9) := hC9
  clear hAW hh9 hC9
  go_wp2_with fail
  refine bodyPost_ret (v := .agg #[.int .i64 er, .int .i64 0, .int .i64 0, .slice none 0 0, .slice none 0 0, .bool false]) (by simp [results, Try.results14, go_sem, r0, r1, r2, r3, r4, r5]) rfl ?_
  exact ⟨rfl, nxt_wrap HD.out.1 HD.out.2.1 HX.out HD.out.2.2.1 HD.out.2.2.2.1 HC9.out⟩
def upP (S : Dk) : Dk × Int := ({ S with down := false, steps := 0, keep := 0 }, 0)
theorem up_all {w : World} {p b ck : Nat} {S : Dk} {xs : List X} (h : DiskAt w p b S xs ck) : Calls Try.prog 20 #[.pointer (some ⟨p, 0, none⟩)] w fun e w' => e = .returned (.int .i64 (upP S).2) ∧ Nxt w w' p b xs (upP S).1 := by
  refine (up_any h).mono ?_
  rintro e w' ⟨rfl, h1, h2, _⟩
  exact ⟨rfl, nxt_box h1 h2⟩
set_option maxHeartbeats 2000000 in
theorem does_10 {w : World} {p b ck : Nat} {S : Dk} {xs : List X} (h : DiskAt w p b S xs ck) (_hO : S.Ok) (nm : List UInt8) (_hl : nm.length ≤ 9223372036854775807) {ba : Option Addr} {bn bc : Nat} (N M : Int) (_hN : N ≤ 9223372036854775807) (_hM : M ≤ 9223372036854775807) :
    Calls Try.prog 14 #[.pointer (some ⟨p, 0, none⟩), .agg #[.int .i64 10, .string ⟨nm.toArray⟩, .slice ba bn bc, .int .i64 N, .int .i64 M]] w fun e w' => e = .returned (.agg #[.int .i64 ((upP S).2), .int .i64 0, .int .i64 0, .slice none 0 0, .slice none 0 0, .bool false]) ∧ Nxt w w' p b xs ((upP S).1) := by
  obtain ⟨W0, hW0⟩ : ∃ W0, w.alloc (.cells #[.int .i64 10, .string ⟨nm.toArray⟩, .slice ba bn bc, .int .i64 N, .int .i64 M] 51) = W0 := ⟨_, rfl⟩
  obtain ⟨W1, hW1⟩ : ∃ W1, W0.alloc (.cells #[.int .i64 0, .int .i64 0, .int .i64 0, .slice none 0 0, .slice none 0 0, .bool false] 48) = W1 := ⟨_, rfl⟩
  have hs0 : W0.heap.size = w.heap.size + 1 := by rw [← hW0, World.size_alloc]
  have hs1 : W1.heap.size = w.heap.size + 2 := by rw [← hW1, World.size_alloc, hs0]
  have hb1 : Below w.heap.size w W1 := by rw [← hW1, ← hW0]; exact ((Below.refl _ _).alloc (Nat.le_refl _) _).alloc (by rw [World.size_alloc]; omega) _
  have hq0 : W0.heap[w.heap.size]? = some (.cells #[.int .i64 10, .string ⟨nm.toArray⟩, .slice ba bn bc, .int .i64 N, .int .i64 M] 51) := by rw [← hW0]; exact (MapKept.heap_alloc w _).1
  have hq : W1.heap[w.heap.size]? = some (.cells #[.int .i64 10, .string ⟨nm.toArray⟩, .slice ba bn bc, .int .i64 N, .int .i64 M] 51) := by rw [← hW1]; exact ((MapKept.heap_alloc W0 _).2 _ (by omega)).trans hq0
  have hA : W1.heap[W0.heap.size]? = some (.cells #[.int .i64 0, .int .i64 0, .int .i64 0, .slice none 0 0, .slice none 0 0, .bool false] 48) := by rw [← hW1]; exact (MapKept.heap_alloc W0 _).1
  have hD1 := h.below hb1
  have HD : Hid (DiskAt w p b S xs ck ∧ Below w.heap.size w W1 ∧ w.heap.size ≤ W0.heap.size ∧ W0.heap.size < W1.heap.size ∧ DiskAt W1 p b S xs ck ∧ W1.heap[W0.heap.size]? = some (.cells #[.int .i64 0, .int .i64 0, .int .i64 0, .slice none 0 0, .slice none 0 0, .bool false] 48) ∧ W0.heap.size = w.heap.size + 1) := ⟨h, hb1, by omega, by omega, hD1, hA, hs0⟩
  obtain ⟨b0, b1, b2, b3, b4⟩ := box5 hq
  have HNU : Hid (∀ x w, Calls Try.prog 6 #[.int .i64 x] w fun e w' => e = .returned (.int .i64 x) ∧ w' = w) := num_any
  have HC : Hid (Calls Try.prog 20 #[.pointer (some ⟨p, 0, none⟩)] W1 fun e w' => e = .returned (.int .i64 ((upP S).2)) ∧ Nxt W1 w' p b xs ((upP S).1)) := up_all hD1
  clear h _hO _hl _hN _hM hs0 hs1 hb1 hq0 hq hA hD1
  generalize (upP S).2 = er at *
  generalize (upP S).1 = S2 at *
  go_enter Try.func14, Try.ntmps14
  go_wp2_with fail
  refine HC.out.mono ?_
  rintro e w3 ⟨rfl, hnx⟩
  have HX : Hid (Nxt W1 w3 p b xs S2) := hnx
  have hAW : w3.heap[W0.heap.size]? = some (.cells #[.int .i64 0, .int .i64 0, .int .i64 0, .slice none 0 0, .slice none 0 0, .bool false] 48) := by
    obtain ⟨xs', ck', _, hC, _⟩ := hnx
    exact hC.block HD.out.2.2.2.2.2.1 (fun hg => by have := HD.out.1.lt hg; have := HD.out.2.2.1; omega)
  clear hnx HC
  go_wp2_with fail
  refine (HNU.out _ _).mono ?_
  rintro e wz ⟨rfl, hz⟩
  rw [hz]
  clear hz wz
  obtain ⟨W9, hW9, hh9, hC9⟩ := set6 hAW (.int .i64 er) (.int .i64 0) (.int .i64 0) (.slice none 0 0) (.slice none 0 0) (.bool false)
  obtain ⟨y0, y1, y2, y3, y4, y5⟩ := box6 hAW
  have k0 := Lib.frozen_of_heap hAW 0
  have k1 := Lib.frozen_of_heap hAW 1
  have k2 := Lib.frozen_of_heap hAW 2
  have k3 := Lib.frozen_of_heap hAW 3
  have k4 := Lib.frozen_of_heap hAW 4
  have k5 := Lib.frozen_of_heap hAW 5
  obtain ⟨r0, r1, r2, r3, r4, r5⟩ := box6 hh9
  have HC9 : Hid (Chg (fun g => g = W0.heap.size) w3 W9) := hC9
  clear hAW hh9 hC9
  go_wp2_with fail
  refine bodyPost_ret (v := .agg #[.int .i64 er, .int .i64 0, .int .i64 0, .slice none 0 0, .slice none 0 0, .bool false]) (by simp [results, Try.results14, go_sem, r0, r1, r2, r3, r4, r5]) rfl ?_
  exact ⟨rfl, nxt_wrap HD.out.1 HD.out.2.1 HX.out HD.out.2.2.1 HD.out.2.2.2.1 HC9.out⟩
end Go.Proofs.Ytjcfeaekhefpfaa
