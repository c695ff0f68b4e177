import Derived.Test.YtfehgaioioejoaaDgKO
import Derived.Test.YtfehgaioioejoaaDeC
/-! The sentences' own should. -/
namespace Go.Proofs.Ytfehgaioioejoaa
open Go.RowKit Go.Lib
set_option maxRecDepth 100000

variable {w : World} {r c : Nat} {T : Dk} {Kk : Int} {a : Option Addr} {xs : List Rf}
theorem rx_wrap {w2 w3 W9 : World} {A : Nat} {T' : Dk} (h : RefAt w r T Kk a c xs) (hb : Below w.heap.size w w2) (hx : RNx w2 w3 r a xs T') (hA : w.heap.size ≤ A) (hA2 : A < w2.heap.size) (hC : Chg (fun g => g = A) w3 W9) : RNx w W9 r a xs T' := by
  obtain ⟨K', a', c', xs', h1, h2, h3⟩ := hx
  have hsz := hb.size
  refine ⟨K', a', c', xs', h1.chg hC (fun g hg e => ?_), ((Chg.of_below hb).trans h2).then hC (fun g e => .inr (by omega)), fun g hg => ?_⟩
  · subst e
    rcases h3 g hg with h' | h'
    · have := h.lt g h'; omega
    · omega
  · rcases h3 g hg with h' | h'
    · exact .inl h'
    · exact .inr (by omega)
theorem rArm (h : RefAt w r T Kk a c xs) (s k : Int) : Calls Try.prog 69 #[.pointer (some ⟨r, 0, none⟩), .int .i64 s, .int .i64 k] w fun e w' => e = .returned (.int .i64 (armP T s k).2) ∧ RNx w w' r a xs (armP T s k).1 := by
  by_cases hd : T.down = true
  · have hP : armP T s k = (T, 110) := by unfold armP; rw [if_pos hd]
    rw [hP]
    refine (rArm_down h hd s k).mono ?_
    rintro e w' ⟨rfl, rfl⟩
    exact ⟨rfl, h.nxt (Below.refl _ _)⟩
  · have hd2 : T.down = false := by simpa using hd
    by_cases h0 : s = 0
    · subst h0
      have hP : armP T 0 k = ({ T with steps := 0, keep := 0 }, 0) := by unfold armP; rw [if_neg hd, if_pos rfl]
      rw [hP]
      exact rArm_off h hd2 k
    · by_cases hb : s < 0 ∨ k < 0
      · have hP : armP T s k = (T, 12) := by unfold armP; rw [if_neg hd, if_neg h0, if_pos hb]
        rw [hP]
        refine (rArm_bad h hd2 s k h0 hb).mono ?_
        rintro e w' ⟨rfl, rfl⟩
        exact ⟨rfl, h.nxt (Below.refl _ _)⟩
      · obtain ⟨s', rfl⟩ : ∃ m : Nat, s = (m : Int) := ⟨s.toNat, by omega⟩
        obtain ⟨k', rfl⟩ : ∃ m : Nat, k = (m : Int) := ⟨k.toNat, by omega⟩
        have hP : armP T (s' : Int) (k' : Int) = ({ T with steps := s', keep := k' }, 0) := by unfold armP; rw [if_neg hd, if_neg h0, if_neg hb]; rfl
        rw [hP]
        exact rArm_set h hd2 s' k' (by omega)
set_option maxHeartbeats 2000000 in
theorem should_2 (h : RefAt w r T Kk a c xs) (hI : RIn T xs) (hle : xs.length ≤ 1000000000) (nm : List UInt8) (hl : nm.length ≤ 9223372036854775807) (ba : Option Addr) (bn bc : Nat) (N M : Int) (hN : N ≤ 9223372036854775807) (hM : M ≤ 9223372036854775807) :
    Calls Try.prog 42 #[.pointer (some ⟨r, 0, none⟩), .agg #[.int .i64 2, .string ⟨nm.toArray⟩, .slice ba bn bc, .int .i64 N, .int .i64 M]] w fun e w' => e = .returned (.agg #[.int .i64 ((syncP T nm).2), .int .i64 0, .int .i64 0, .slice none 0 0, .slice none 0 0, .bool false]) ∧ RNx w w' r a xs ((syncP T nm).1) := by
  obtain ⟨W0, hW0⟩ : ∃ W0, w.alloc (.cells #[.int .i64 2, .string ⟨nm.toArray⟩, .slice ba bn bc, .int .i64 N, .int .i64 M] 38) = W0 := ⟨_, rfl⟩
  obtain ⟨W1, hW1⟩ : ∃ W1, W0.alloc (.cells #[.int .i64 0, .int .i64 0, .int .i64 0, .slice none 0 0, .slice none 0 0, .bool false] 40) = W1 := ⟨_, rfl⟩
  have hs0 : W0.heap.size = w.heap.size + 1 := by rw [← hW0, World.size_alloc]
  have hs1 : W1.heap.size = w.heap.size + 2 := by rw [← hW1, World.size_alloc, hs0]
  have hb1 : Below w.heap.size w W1 := by rw [← hW1, ← hW0]; exact ((Below.refl _ _).alloc (Nat.le_refl _) _).alloc (by rw [World.size_alloc]; omega) _
  have hq0 : W0.heap[w.heap.size]? = some (.cells #[.int .i64 2, .string ⟨nm.toArray⟩, .slice ba bn bc, .int .i64 N, .int .i64 M] 38) := by rw [← hW0]; exact (MapKept.heap_alloc w _).1
  have hq : W1.heap[w.heap.size]? = some (.cells #[.int .i64 2, .string ⟨nm.toArray⟩, .slice ba bn bc, .int .i64 N, .int .i64 M] 38) := by rw [← hW1]; exact ((MapKept.heap_alloc W0 _).2 _ (by omega)).trans hq0
  have hA : W1.heap[W0.heap.size]? = some (.cells #[.int .i64 0, .int .i64 0, .int .i64 0, .slice none 0 0, .slice none 0 0, .bool false] 40) := by rw [← hW1]; exact (MapKept.heap_alloc W0 _).1
  have hD1 := h.below hb1
  have hrl := h.lt r (.inl rfl)
  have HD : Hid (RefAt w r T Kk a c xs ∧ Below w.heap.size w W1 ∧ w.heap.size ≤ W0.heap.size ∧ W0.heap.size < W1.heap.size ∧ RefAt W1 r T Kk a c xs ∧ W1.heap[W0.heap.size]? = some (.cells #[.int .i64 0, .int .i64 0, .int .i64 0, .slice none 0 0, .slice none 0 0, .bool false] 40) ∧ W0.heap.size = w.heap.size + 1 ∧ r < w.heap.size) := ⟨h, hb1, by omega, by omega, hD1, hA, hs0, hrl⟩
  obtain ⟨b0, b1, b2, b3, b4⟩ := box5 hq
  have HC : Hid (Calls Try.prog 61 #[.pointer (some ⟨r, 0, none⟩), .string ⟨nm.toArray⟩] W1 fun e w' => e = .returned (.int .i64 ((syncP T nm).2)) ∧ RNx W1 w' r a xs ((syncP T nm).1)) := rSync hD1 hI nm hl
  have _r1 := hI
  have _r2 := hle
  have _r3 := hl
  have _r4 := hN
  have _r5 := hM
  clear h _r1 _r2 _r3 _r4 _r5 hI hle hl hN hM hs0 hs1 hb1 hq0 hq hA hD1 hrl
  generalize (syncP T nm).2 = er at *
  generalize (syncP T nm).1 = S2 at *
  go_enter Try.func42, Try.ntmps42
  go_wp2_with fail
  refine HC.out.mono ?_
  rintro e w3 ⟨rfl, hnx⟩
  have HX : Hid (RNx W1 w3 r a xs S2) := hnx
  have hAW : w3.heap[W0.heap.size]? = some (.cells #[.int .i64 0, .int .i64 0, .int .i64 0, .slice none 0 0, .slice none 0 0, .bool false] 40) := by
    obtain ⟨K', a', c', xs', _, hC, _⟩ := hnx
    exact hC.block HD.out.2.2.2.2.2.1 (by have := HD.out.2.2.2.2.2.2; omega)
  clear hnx HC
  obtain ⟨W9, hW9, hh9, hC9⟩ := set6 hAW (.int .i64 er) (.int .i64 0) (.int .i64 0) (.slice none 0 0) (.slice none 0 0) (.bool false)
  obtain ⟨y0, y1, y2, y3, y4, y5⟩ := box6 hAW
  have k0 := Lib.frozen_of_heap hAW 0
  have k1 := Lib.frozen_of_heap hAW 1
  have k2 := Lib.frozen_of_heap hAW 2
  have k3 := Lib.frozen_of_heap hAW 3
  have k4 := Lib.frozen_of_heap hAW 4
  have k5 := Lib.frozen_of_heap hAW 5
  obtain ⟨r0, r1, r2, r3, r4, r5⟩ := box6 hh9
  have HC9 : Hid (Chg (fun g => g = W0.heap.size) w3 W9) := hC9
  clear hAW hh9 hC9
  go_wp2_with fail
  refine bodyPost_ret (v := .agg #[.int .i64 er, .int .i64 0, .int .i64 0, .slice none 0 0, .slice none 0 0, .bool false]) (by simp [results, Try.results42, go_sem, r0, r1, r2, r3, r4, r5]) rfl ?_
  exact ⟨rfl, rx_wrap HD.out.1 HD.out.2.1 HX.out HD.out.2.2.1 HD.out.2.2.2.1 HC9.out⟩
set_option maxHeartbeats 2000000 in
theorem should_3 (h : RefAt w r T Kk a c xs) (hI : RIn T xs) (hle : xs.length ≤ 1000000000) (nm : List UInt8) (hl : nm.length ≤ 9223372036854775807) (ba : Option Addr) (bn bc : Nat) (N M : Int) (hN : N ≤ 9223372036854775807) (hM : M ≤ 9223372036854775807) :
    Calls Try.prog 42 #[.pointer (some ⟨r, 0, none⟩), .agg #[.int .i64 3, .string ⟨nm.toArray⟩, .slice ba bn bc, .int .i64 N, .int .i64 M]] w fun e w' => e = .returned (.agg #[.int .i64 ((cutP T nm N).2), .int .i64 0, .int .i64 0, .slice none 0 0, .slice none 0 0, .bool false]) ∧ RNx w w' r a xs ((cutP T nm N).1) := by
  obtain ⟨W0, hW0⟩ : ∃ W0, w.alloc (.cells #[.int .i64 3, .string ⟨nm.toArray⟩, .slice ba bn bc, .int .i64 N, .int .i64 M] 38) = W0 := ⟨_, rfl⟩
  obtain ⟨W1, hW1⟩ : ∃ W1, W0.alloc (.cells #[.int .i64 0, .int .i64 0, .int .i64 0, .slice none 0 0, .slice none 0 0, .bool false] 40) = W1 := ⟨_, rfl⟩
  have hs0 : W0.heap.size = w.heap.size + 1 := by rw [← hW0, World.size_alloc]
  have hs1 : W1.heap.size = w.heap.size + 2 := by rw [← hW1, World.size_alloc, hs0]
  have hb1 : Below w.heap.size w W1 := by rw [← hW1, ← hW0]; exact ((Below.refl _ _).alloc (Nat.le_refl _) _).alloc (by rw [World.size_alloc]; omega) _
  have hq0 : W0.heap[w.heap.size]? = some (.cells #[.int .i64 3, .string ⟨nm.toArray⟩, .slice ba bn bc, .int .i64 N, .int .i64 M] 38) := by rw [← hW0]; exact (MapKept.heap_alloc w _).1
  have hq : W1.heap[w.heap.size]? = some (.cells #[.int .i64 3, .string ⟨nm.toArray⟩, .slice ba bn bc, .int .i64 N, .int .i64 M] 38) := by rw [← hW1]; exact ((MapKept.heap_alloc W0 _).2 _ (by omega)).trans hq0
  have hA : W1.heap[W0.heap.size]? = some (.cells #[.int .i64 0, .int .i64 0, .int .i64 0, .slice none 0 0, .slice none 0 0, .bool false] 40) := by rw [← hW1]; exact (MapKept.heap_alloc W0 _).1
  have hD1 := h.below hb1
  have hrl := h.lt r (.inl rfl)
  have HD : Hid (RefAt w r T Kk a c xs ∧ Below w.heap.size w W1 ∧ w.heap.size ≤ W0.heap.size ∧ W0.heap.size < W1.heap.size ∧ RefAt W1 r T Kk a c xs ∧ W1.heap[W0.heap.size]? = some (.cells #[.int .i64 0, .int .i64 0, .int .i64 0, .slice none 0 0, .slice none 0 0, .bool false] 40) ∧ W0.heap.size = w.heap.size + 1 ∧ r < w.heap.size) := ⟨h, hb1, by omega, by omega, hD1, hA, hs0, hrl⟩
  obtain ⟨b0, b1, b2, b3, b4⟩ := box5 hq
  have HC : Hid (Calls Try.prog 62 #[.pointer (some ⟨r, 0, none⟩), .string ⟨nm.toArray⟩, .int .i64 N] W1 fun e w' => e = .returned (.int .i64 ((cutP T nm N).2)) ∧ RNx W1 w' r a xs ((cutP T nm N).1)) := rCut hD1 hI nm hl N
  have _r1 := hI
  have _r2 := hle
  have _r3 := hl
  have _r4 := hN
  have _r5 := hM
  clear h _r1 _r2 _r3 _r4 _r5 hI hle hl hN hM hs0 hs1 hb1 hq0 hq hA hD1 hrl
  generalize (cutP T nm N).2 = er at *
  generalize (cutP T nm N).1 = S2 at *
  go_enter Try.func42, Try.ntmps42
  go_wp2_with fail
  refine HC.out.mono ?_
  rintro e w3 ⟨rfl, hnx⟩
  have HX : Hid (RNx W1 w3 r a xs S2) := hnx
  have hAW : w3.heap[W0.heap.size]? = some (.cells #[.int .i64 0, .int .i64 0, .int .i64 0, .slice none 0 0, .slice none 0 0, .bool false] 40) := by
    obtain ⟨K', a', c', xs', _, hC, _⟩ := hnx
    exact hC.block HD.out.2.2.2.2.2.1 (by have := HD.out.2.2.2.2.2.2; omega)
  clear hnx HC
  obtain ⟨W9, hW9, hh9, hC9⟩ := set6 hAW (.int .i64 er) (.int .i64 0) (.int .i64 0) (.slice none 0 0) (.slice none 0 0) (.bool false)
  obtain ⟨y0, y1, y2, y3, y4, y5⟩ := box6 hAW
  have k0 := Lib.frozen_of_heap hAW 0
  have k1 := Lib.frozen_of_heap hAW 1
  have k2 := Lib.frozen_of_heap hAW 2
  have k3 := Lib.frozen_of_heap hAW 3
  have k4 := Lib.frozen_of_heap hAW 4
  have k5 := Lib.frozen_of_heap hAW 5
  obtain ⟨r0, r1, r2, r3, r4, r5⟩ := box6 hh9
  have HC9 : Hid (Chg (fun g => g = W0.heap.size) w3 W9) := hC9
  clear hAW hh9 hC9
  go_wp2_with fail
  refine bodyPost_ret (v := .agg #[.int .i64 er, .int .i64 0, .int .i64 0, .slice none 0 0, .slice none 0 0, .bool false]) (by simp [results, Try.results42, go_sem, r0, r1, r2, r3, r4, r5]) rfl ?_
  exact ⟨rfl, rx_wrap HD.out.1 HD.out.2.1 HX.out HD.out.2.2.1 HD.out.2.2.2.1 HC9.out⟩
set_option maxHeartbeats 2000000 in
theorem should_4 (h : RefAt w r T Kk a c xs) (hI : RIn T xs) (hle : xs.length ≤ 1000000000) (nm : List UInt8) (hl : nm.length ≤ 9223372036854775807) (ba : Option Addr) (bn bc : Nat) (N M : Int) (hN : N ≤ 9223372036854775807) (hM : M ≤ 9223372036854775807) :
    Calls Try.prog 42 #[.pointer (some ⟨r, 0, none⟩), .agg #[.int .i64 4, .string ⟨nm.toArray⟩, .slice ba bn bc, .int .i64 N, .int .i64 M]] w fun e w' => e = .returned (.agg #[.int .i64 ((removeP T nm).2), .int .i64 0, .int .i64 0, .slice none 0 0, .slice none 0 0, .bool false]) ∧ RNx w w' r a xs ((removeP T nm).1) := by
  obtain ⟨W0, hW0⟩ : ∃ W0, w.alloc (.cells #[.int .i64 4, .string ⟨nm.toArray⟩, .slice ba bn bc, .int .i64 N, .int .i64 M] 38) = W0 := ⟨_, rfl⟩
  obtain ⟨W1, hW1⟩ : ∃ W1, W0.alloc (.cells #[.int .i64 0, .int .i64 0, .int .i64 0, .slice none 0 0, .slice none 0 0, .bool false] 40) = W1 := ⟨_, rfl⟩
  have hs0 : W0.heap.size = w.heap.size + 1 := by rw [← hW0, World.size_alloc]
  have hs1 : W1.heap.size = w.heap.size + 2 := by rw [← hW1, World.size_alloc, hs0]
  have hb1 : Below w.heap.size w W1 := by rw [← hW1, ← hW0]; exact ((Below.refl _ _).alloc (Nat.le_refl _) _).alloc (by rw [World.size_alloc]; omega) _
  have hq0 : W0.heap[w.heap.size]? = some (.cells #[.int .i64 4, .string ⟨nm.toArray⟩, .slice ba bn bc, .int .i64 N, .int .i64 M] 38) := by rw [← hW0]; exact (MapKept.heap_alloc w _).1
  have hq : W1.heap[w.heap.size]? = some (.cells #[.int .i64 4, .string ⟨nm.toArray⟩, .slice ba bn bc, .int .i64 N, .int .i64 M] 38) := by rw [← hW1]; exact ((MapKept.heap_alloc W0 _).2 _ (by omega)).trans hq0
  have hA : W1.heap[W0.heap.size]? = some (.cells #[.int .i64 0, .int .i64 0, .int .i64 0, .slice none 0 0, .slice none 0 0, .bool false] 40) := by rw [← hW1]; exact (MapKept.heap_alloc W0 _).1
  have hD1 := h.below hb1
  have hrl := h.lt r (.inl rfl)
  have HD : Hid (RefAt w r T Kk a c xs ∧ Below w.heap.size w W1 ∧ w.heap.size ≤ W0.heap.size ∧ W0.heap.size < W1.heap.size ∧ RefAt W1 r T Kk a c xs ∧ W1.heap[W0.heap.size]? = some (.cells #[.int .i64 0, .int .i64 0, .int .i64 0, .slice none 0 0, .slice none 0 0, .bool false] 40) ∧ W0.heap.size = w.heap.size + 1 ∧ r < w.heap.size) := ⟨h, hb1, by omega, by omega, hD1, hA, hs0, hrl⟩
  obtain ⟨b0, b1, b2, b3, b4⟩ := box5 hq
  have HC : Hid (Calls Try.prog 63 #[.pointer (some ⟨r, 0, none⟩), .string ⟨nm.toArray⟩] W1 fun e w' => e = .returned (.int .i64 ((removeP T nm).2)) ∧ RNx W1 w' r a xs ((removeP T nm).1)) := rRemove hD1 hI nm hl
  have _r1 := hI
  have _r2 := hle
  have _r3 := hl
  have _r4 := hN
  have _r5 := hM
  clear h _r1 _r2 _r3 _r4 _r5 hI hle hl hN hM hs0 hs1 hb1 hq0 hq hA hD1 hrl
  generalize (removeP T nm).2 = er at *
  generalize (removeP T nm).1 = S2 at *
  go_enter Try.func42, Try.ntmps42
  go_wp2_with fail
  refine HC.out.mono ?_
  rintro e w3 ⟨rfl, hnx⟩
  have HX : Hid (RNx W1 w3 r a xs S2) := hnx
  have hAW : w3.heap[W0.heap.size]? = some (.cells #[.int .i64 0, .int .i64 0, .int .i64 0, .slice none 0 0, .slice none 0 0, .bool false] 40) := by
    obtain ⟨K', a', c', xs', _, hC, _⟩ := hnx
    exact hC.block HD.out.2.2.2.2.2.1 (by have := HD.out.2.2.2.2.2.2; omega)
  clear hnx HC
  obtain ⟨W9, hW9, hh9, hC9⟩ := set6 hAW (.int .i64 er) (.int .i64 0) (.int .i64 0) (.slice none 0 0) (.slice none 0 0) (.bool false)
  obtain ⟨y0, y1, y2, y3, y4, y5⟩ := box6 hAW
  have k0 := Lib.frozen_of_heap hAW 0
  have k1 := Lib.frozen_of_heap hAW 1
  have k2 := Lib.frozen_of_heap hAW 2
  have k3 := Lib.frozen_of_heap hAW 3
  have k4 := Lib.frozen_of_heap hAW 4
  have k5 := Lib.frozen_of_heap hAW 5
  obtain ⟨r0, r1, r2, r3, r4, r5⟩ := box6 hh9
  have HC9 : Hid (Chg (fun g => g = W0.heap.size) w3 W9) := hC9
  clear hAW hh9 hC9
  go_wp2_with fail
  refine bodyPost_ret (v := .agg #[.int .i64 er, .int .i64 0, .int .i64 0, .slice none 0 0, .slice none 0 0, .bool false]) (by simp [results, Try.results42, go_sem, r0, r1, r2, r3, r4, r5]) rfl ?_
  exact ⟨rfl, rx_wrap HD.out.1 HD.out.2.1 HX.out HD.out.2.2.1 HD.out.2.2.2.1 HC9.out⟩
set_option maxHeartbeats 2000000 in
theorem should_8 (h : RefAt w r T Kk a c xs) (hI : RIn T xs) (hle : xs.length ≤ 1000000000) (nm : List UInt8) (hl : nm.length ≤ 9223372036854775807) (ba : Option Addr) (bn bc : Nat) (N M : Int) (hN : N ≤ 9223372036854775807) (hM : M ≤ 9223372036854775807) :
    Calls Try.prog 42 #[.pointer (some ⟨r, 0, none⟩), .agg #[.int .i64 8, .string ⟨nm.toArray⟩, .slice ba bn bc, .int .i64 N, .int .i64 M]] w fun e w' => e = .returned (.agg #[.int .i64 ((armP T N M).2), .int .i64 0, .int .i64 0, .slice none 0 0, .slice none 0 0, .bool false]) ∧ RNx w w' r a xs ((armP T N M).1) := by
  obtain ⟨W0, hW0⟩ : ∃ W0, w.alloc (.cells #[.int .i64 8, .string ⟨nm.toArray⟩, .slice ba bn bc, .int .i64 N, .int .i64 M] 38) = W0 := ⟨_, rfl⟩
  obtain ⟨W1, hW1⟩ : ∃ W1, W0.alloc (.cells #[.int .i64 0, .int .i64 0, .int .i64 0, .slice none 0 0, .slice none 0 0, .bool false] 40) = W1 := ⟨_, rfl⟩
  have hs0 : W0.heap.size = w.heap.size + 1 := by rw [← hW0, World.size_alloc]
  have hs1 : W1.heap.size = w.heap.size + 2 := by rw [← hW1, World.size_alloc, hs0]
  have hb1 : Below w.heap.size w W1 := by rw [← hW1, ← hW0]; exact ((Below.refl _ _).alloc (Nat.le_refl _) _).alloc (by rw [World.size_alloc]; omega) _
  have hq0 : W0.heap[w.heap.size]? = some (.cells #[.int .i64 8, .string ⟨nm.toArray⟩, .slice ba bn bc, .int .i64 N, .int .i64 M] 38) := by rw [← hW0]; exact (MapKept.heap_alloc w _).1
  have hq : W1.heap[w.heap.size]? = some (.cells #[.int .i64 8, .string ⟨nm.toArray⟩, .slice ba bn bc, .int .i64 N, .int .i64 M] 38) := by rw [← hW1]; exact ((MapKept.heap_alloc W0 _).2 _ (by omega)).trans hq0
  have hA : W1.heap[W0.heap.size]? = some (.cells #[.int .i64 0, .int .i64 0, .int .i64 0, .slice none 0 0, .slice none 0 0, .bool false] 40) := by rw [← hW1]; exact (MapKept.heap_alloc W0 _).1
  have hD1 := h.below hb1
  have hrl := h.lt r (.inl rfl)
  have HD : Hid (RefAt w r T Kk a c xs ∧ Below w.heap.size w W1 ∧ w.heap.size ≤ W0.heap.size ∧ W0.heap.size < W1.heap.size ∧ RefAt W1 r T Kk a c xs ∧ W1.heap[W0.heap.size]? = some (.cells #[.int .i64 0, .int .i64 0, .int .i64 0, .slice none 0 0, .slice none 0 0, .bool false] 40) ∧ W0.heap.size = w.heap.size + 1 ∧ r < w.heap.size) := ⟨h, hb1, by omega, by omega, hD1, hA, hs0, hrl⟩
  obtain ⟨b0, b1, b2, b3, b4⟩ := box5 hq
  have HC : Hid (Calls Try.prog 69 #[.pointer (some ⟨r, 0, none⟩), .int .i64 N, .int .i64 M] W1 fun e w' => e = .returned (.int .i64 ((armP T N M).2)) ∧ RNx W1 w' r a xs ((armP T N M).1)) := rArm hD1 N M
  have _r1 := hI
  have _r2 := hle
  have _r3 := hl
  have _r4 := hN
  have _r5 := hM
  clear h _r1 _r2 _r3 _r4 _r5 hI hle hl hN hM hs0 hs1 hb1 hq0 hq hA hD1 hrl
  generalize (armP T N M).2 = er at *
  generalize (armP T N M).1 = S2 at *
  go_enter Try.func42, Try.ntmps42
  go_wp2_with fail
  refine HC.out.mono ?_
  rintro e w3 ⟨rfl, hnx⟩
  have HX : Hid (RNx W1 w3 r a xs S2) := hnx
  have hAW : w3.heap[W0.heap.size]? = some (.cells #[.int .i64 0, .int .i64 0, .int .i64 0, .slice none 0 0, .slice none 0 0, .bool false] 40) := by
    obtain ⟨K', a', c', xs', _, hC, _⟩ := hnx
    exact hC.block HD.out.2.2.2.2.2.1 (by have := HD.out.2.2.2.2.2.2; omega)
  clear hnx HC
  obtain ⟨W9, hW9, hh9, hC9⟩ := set6 hAW (.int .i64 er) (.int .i64 0) (.int .i64 0) (.slice none 0 0) (.slice none 0 0) (.bool false)
  obtain ⟨y0, y1, y2, y3, y4, y5⟩ := box6 hAW
  have k0 := Lib.frozen_of_heap hAW 0
  have k1 := Lib.frozen_of_heap hAW 1
  have k2 := Lib.frozen_of_heap hAW 2
  have k3 := Lib.frozen_of_heap hAW 3
  have k4 := Lib.frozen_of_heap hAW 4
  have k5 := Lib.frozen_of_heap hAW 5
  obtain ⟨r0, r1, r2, r3, r4, r5⟩ := box6 hh9
  have HC9 : Hid (Chg (fun g => g = W0.heap.size) w3 W9) := hC9
  clear hAW hh9 hC9
  go_wp2_with fail
  refine bodyPost_ret (v := .agg #[.int .i64 er, .int .i64 0, .int .i64 0, .slice none 0 0, .slice none 0 0, .bool false]) (by simp [results, Try.results42, go_sem, r0, r1, r2, r3, r4, r5]) rfl ?_
  exact ⟨rfl, rx_wrap HD.out.1 HD.out.2.1 HX.out HD.out.2.2.1 HD.out.2.2.2.1 HC9.out⟩
set_option maxHeartbeats 2000000 in
theorem should_9 (h : RefAt w r T Kk a c xs) (hI : RIn T xs) (hle : xs.length ≤ 1000000000) (nm : List UInt8) (hl : nm.length ≤ 9223372036854775807) (ba : Option Addr) (bn bc : Nat) (N M : Int) (hN : N ≤ 9223372036854775807) (hM : M ≤ 9223372036854775807) :
    Calls Try.prog 42 #[.pointer (some ⟨r, 0, none⟩), .agg #[.int .i64 9, .string ⟨nm.toArray⟩, .slice ba bn bc, .int .i64 N, .int .i64 M]] w fun e w' => e = .returned (.agg #[.int .i64 ((crashC T N).2), .int .i64 0, .int .i64 0, .slice none 0 0, .slice none 0 0, .bool false]) ∧ RNx w w' r a xs ((crashC T N).1) := by
  obtain ⟨W0, hW0⟩ : ∃ W0, w.alloc (.cells #[.int .i64 9, .string ⟨nm.toArray⟩, .slice ba bn bc, .int .i64 N, .int .i64 M] 38) = W0 := ⟨_, rfl⟩
  obtain ⟨W1, hW1⟩ : ∃ W1, W0.alloc (.cells #[.int .i64 0, .int .i64 0, .int .i64 0, .slice none 0 0, .slice none 0 0, .bool false] 40) = W1 := ⟨_, rfl⟩
  have hs0 : W0.heap.size = w.heap.size + 1 := by rw [← hW0, World.size_alloc]
  have hs1 : W1.heap.size = w.heap.size + 2 := by rw [← hW1, World.size_alloc, hs0]
  have hb1 : Below w.heap.size w W1 := by rw [← hW1, ← hW0]; exact ((Below.refl _ _).alloc (Nat.le_refl _) _).alloc (by rw [World.size_alloc]; omega) _
  have hq0 : W0.heap[w.heap.size]? = some (.cells #[.int .i64 9, .string ⟨nm.toArray⟩, .slice ba bn bc, .int .i64 N, .int .i64 M] 38) := by rw [← hW0]; exact (MapKept.heap_alloc w _).1
  have hq : W1.heap[w.heap.size]? = some (.cells #[.int .i64 9, .string ⟨nm.toArray⟩, .slice ba bn bc, .int .i64 N, .int .i64 M] 38) := by rw [← hW1]; exact ((MapKept.heap_alloc W0 _).2 _ (by omega)).trans hq0
  have hA : W1.heap[W0.heap.size]? = some (.cells #[.int .i64 0, .int .i64 0, .int .i64 0, .slice none 0 0, .slice none 0 0, .bool false] 40) := by rw [← hW1]; exact (MapKept.heap_alloc W0 _).1
  have hD1 := h.below hb1
  have hrl := h.lt r (.inl rfl)
  have HD : Hid (RefAt w r T Kk a c xs ∧ Below w.heap.size w W1 ∧ w.heap.size ≤ W0.heap.size ∧ W0.heap.size < W1.heap.size ∧ RefAt W1 r T Kk a c xs ∧ W1.heap[W0.heap.size]? = some (.cells #[.int .i64 0, .int .i64 0, .int .i64 0, .slice none 0 0, .slice none 0 0, .bool false] 40) ∧ W0.heap.size = w.heap.size + 1 ∧ r < w.heap.size) := ⟨h, hb1, by omega, by omega, hD1, hA, hs0, hrl⟩
  obtain ⟨b0, b1, b2, b3, b4⟩ := box5 hq
  have HC : Hid (Calls Try.prog 70 #[.pointer (some ⟨r, 0, none⟩), .int .i64 N] W1 fun e w' => e = .returned (.int .i64 ((crashC T N).2)) ∧ RNx W1 w' r a xs ((crashC T N).1)) := rCrash hD1 hI.len hI.str hI.hu N
  have _r1 := hI
  have _r2 := hle
  have _r3 := hl
  have _r4 := hN
  have _r5 := hM
  clear h _r1 _r2 _r3 _r4 _r5 hI hle hl hN hM hs0 hs1 hb1 hq0 hq hA hD1 hrl
  generalize (crashC T N).2 = er at *
  generalize (crashC T N).1 = S2 at *
  go_enter Try.func42, Try.ntmps42
  go_wp2_with fail
  refine HC.out.mono ?_
  rintro e w3 ⟨rfl, hnx⟩
  have HX : Hid (RNx W1 w3 r a xs S2) := hnx
  have hAW : w3.heap[W0.heap.size]? = some (.cells #[.int .i64 0, .int .i64 0, .int .i64 0, .slice none 0 0, .slice none 0 0, .bool false] 40) := by
    obtain ⟨K', a', c', xs', _, hC, _⟩ := hnx
    exact hC.block HD.out.2.2.2.2.2.1 (by have := HD.out.2.2.2.2.2.2; omega)
  clear hnx HC
  obtain ⟨W9, hW9, hh9, hC9⟩ := set6 hAW (.int .i64 er) (.int .i64 0) (.int .i64 0) (.slice none 0 0) (.slice none 0 0) (.bool false)
  obtain ⟨y0, y1, y2, y3, y4, y5⟩ := box6 hAW
  have k0 := Lib.frozen_of_heap hAW 0
  have k1 := Lib.frozen_of_heap hAW 1
  have k2 := Lib.frozen_of_heap hAW 2
  have k3 := Lib.frozen_of_heap hAW 3
  have k4 := Lib.frozen_of_heap hAW 4
  have k5 := Lib.frozen_of_heap hAW 5
  obtain ⟨r0, r1, r2, r3, r4, r5⟩ := box6 hh9
  have HC9 : Hid (Chg (fun g => g = W0.heap.size) w3 W9) := hC9
  clear hAW hh9 hC9
  go_wp2_with fail
  refine bodyPost_ret (v := .agg #[.int .i64 er, .int .i64 0, .int .i64 0, .slice none 0 0, .slice none 0 0, .bool false]) (by simp [results, Try.results42, go_sem, r0, r1, r2, r3, r4, r5]) rfl ?_
  exact ⟨rfl, rx_wrap HD.out.1 HD.out.2.1 HX.out HD.out.2.2.1 HD.out.2.2.2.1 HC9.out⟩
set_option maxHeartbeats 2000000 in
theorem should_10 (h : RefAt w r T Kk a c xs) (hI : RIn T xs) (hle : xs.length ≤ 1000000000) (nm : List UInt8) (hl : nm.length ≤ 9223372036854775807) (ba : Option Addr) (bn bc : Nat) (N M : Int) (hN : N ≤ 9223372036854775807) (hM : M ≤ 9223372036854775807) :
    Calls Try.prog 42 #[.pointer (some ⟨r, 0, none⟩), .agg #[.int .i64 10, .string ⟨nm.toArray⟩, .slice ba bn bc, .int .i64 N, .int .i64 M]] w fun e w' => e = .returned (.agg #[.int .i64 ((upP T).2), .int .i64 0, .int .i64 0, .slice none 0 0, .slice none 0 0, .bool false]) ∧ RNx w w' r a xs ((upP T).1) := by
  obtain ⟨W0, hW0⟩ : ∃ W0, w.alloc (.cells #[.int .i64 10, .string ⟨nm.toArray⟩, .slice ba bn bc, .int .i64 N, .int .i64 M] 38) = W0 := ⟨_, rfl⟩
  obtain ⟨W1, hW1⟩ : ∃ W1, W0.alloc (.cells #[.int .i64 0, .int .i64 0, .int .i64 0, .slice none 0 0, .slice none 0 0, .bool false] 40) = W1 := ⟨_, rfl⟩
  have hs0 : W0.heap.size = w.heap.size + 1 := by rw [← hW0, World.size_alloc]
  have hs1 : W1.heap.size = w.heap.size + 2 := by rw [← hW1, World.size_alloc, hs0]
  have hb1 : Below w.heap.size w W1 := by rw [← hW1, ← hW0]; exact ((Below.refl _ _).alloc (Nat.le_refl _) _).alloc (by rw [World.size_alloc]; omega) _
  have hq0 : W0.heap[w.heap.size]? = some (.cells #[.int .i64 10, .string ⟨nm.toArray⟩, .slice ba bn bc, .int .i64 N, .int .i64 M] 38) := by rw [← hW0]; exact (MapKept.heap_alloc w _).1
  have hq : W1.heap[w.heap.size]? = some (.cells #[.int .i64 10, .string ⟨nm.toArray⟩, .slice ba bn bc, .int .i64 N, .int .i64 M] 38) := by rw [← hW1]; exact ((MapKept.heap_alloc W0 _).2 _ (by omega)).trans hq0
  have hA : W1.heap[W0.heap.size]? = some (.cells #[.int .i64 0, .int .i64 0, .int .i64 0, .slice none 0 0, .slice none 0 0, .bool false] 40) := by rw [← hW1]; exact (MapKept.heap_alloc W0 _).1
  have hD1 := h.below hb1
  have hrl := h.lt r (.inl rfl)
  have HD : Hid (RefAt w r T Kk a c xs ∧ Below w.heap.size w W1 ∧ w.heap.size ≤ W0.heap.size ∧ W0.heap.size < W1.heap.size ∧ RefAt W1 r T Kk a c xs ∧ W1.heap[W0.heap.size]? = some (.cells #[.int .i64 0, .int .i64 0, .int .i64 0, .slice none 0 0, .slice none 0 0, .bool false] 40) ∧ W0.heap.size = w.heap.size + 1 ∧ r < w.heap.size) := ⟨h, hb1, by omega, by omega, hD1, hA, hs0, hrl⟩
  obtain ⟨b0, b1, b2, b3, b4⟩ := box5 hq
  have HC : Hid (Calls Try.prog 71 #[.pointer (some ⟨r, 0, none⟩)] W1 fun e w' => e = .returned (.int .i64 ((upP T).2)) ∧ RNx W1 w' r a xs ((upP T).1)) := rUp hD1
  have _r1 := hI
  have _r2 := hle
  have _r3 := hl
  have _r4 := hN
  have _r5 := hM
  clear h _r1 _r2 _r3 _r4 _r5 hI hle hl hN hM hs0 hs1 hb1 hq0 hq hA hD1 hrl
  generalize (upP T).2 = er at *
  generalize (upP T).1 = S2 at *
  go_enter Try.func42, Try.ntmps42
  go_wp2_with fail
  refine HC.out.mono ?_
  rintro e w3 ⟨rfl, hnx⟩
  have HX : Hid (RNx W1 w3 r a xs S2) := hnx
  have hAW : w3.heap[W0.heap.size]? = some (.cells #[.int .i64 0, .int .i64 0, .int .i64 0, .slice none 0 0, .slice none 0 0, .bool false] 40) := by
    obtain ⟨K', a', c', xs', _, hC, _⟩ := hnx
    exact hC.block HD.out.2.2.2.2.2.1 (by have := HD.out.2.2.2.2.2.2; omega)
  clear hnx HC
  obtain ⟨W9, hW9, hh9, hC9⟩ := set6 hAW (.int .i64 er) (.int .i64 0) (.int .i64 0) (.slice none 0 0) (.slice none 0 0) (.bool false)
  obtain ⟨y0, y1, y2, y3, y4, y5⟩ := box6 hAW
  have k0 := Lib.frozen_of_heap hAW 0
  have k1 := Lib.frozen_of_heap hAW 1
  have k2 := Lib.frozen_of_heap hAW 2
  have k3 := Lib.frozen_of_heap hAW 3
  have k4 := Lib.frozen_of_heap hAW 4
  have k5 := Lib.frozen_of_heap hAW 5
  obtain ⟨r0, r1, r2, r3, r4, r5⟩ := box6 hh9
  have HC9 : Hid (Chg (fun g => g = W0.heap.size) w3 W9) := hC9
  clear hAW hh9 hC9
  go_wp2_with fail
  refine bodyPost_ret (v := .agg #[.int .i64 er, .int .i64 0, .int .i64 0, .slice none 0 0, .slice none 0 0, .bool false]) (by simp [results, Try.results42, go_sem, r0, r1, r2, r3, r4, r5]) rfl ?_
  exact ⟨rfl, rx_wrap HD.out.1 HD.out.2.1 HX.out HD.out.2.2.1 HD.out.2.2.2.1 HC9.out⟩
set_option maxHeartbeats 2000000 in
theorem should_11 (h : RefAt w r T Kk a c xs) (hI : RIn T xs) (hle : xs.length ≤ 1000000000) (nm : List UInt8) (hl : nm.length ≤ 9223372036854775807) (ba : Option Addr) (bn bc : Nat) (N M : Int) (hN : N ≤ 9223372036854775807) (hM : M ≤ 9223372036854775807) :
    Calls Try.prog 42 #[.pointer (some ⟨r, 0, none⟩), .agg #[.int .i64 11, .string ⟨nm.toArray⟩, .slice ba bn bc, .int .i64 N, .int .i64 M]] w fun e w' => e = .returned (.agg #[.int .i64 ((turnP T nm N (maskOf M)).2), .int .i64 0, .int .i64 0, .slice none 0 0, .slice none 0 0, .bool false]) ∧ RNx w w' r a xs ((turnP T nm N (maskOf M)).1) := by
  obtain ⟨W0, hW0⟩ : ∃ W0, w.alloc (.cells #[.int .i64 11, .string ⟨nm.toArray⟩, .slice ba bn bc, .int .i64 N, .int .i64 M] 38) = W0 := ⟨_, rfl⟩
  obtain ⟨W1, hW1⟩ : ∃ W1, W0.alloc (.cells #[.int .i64 0, .int .i64 0, .int .i64 0, .slice none 0 0, .slice none 0 0, .bool false] 40) = W1 := ⟨_, rfl⟩
  have hs0 : W0.heap.size = w.heap.size + 1 := by rw [← hW0, World.size_alloc]
  have hs1 : W1.heap.size = w.heap.size + 2 := by rw [← hW1, World.size_alloc, hs0]
  have hb1 : Below w.heap.size w W1 := by rw [← hW1, ← hW0]; exact ((Below.refl _ _).alloc (Nat.le_refl _) _).alloc (by rw [World.size_alloc]; omega) _
  have hq0 : W0.heap[w.heap.size]? = some (.cells #[.int .i64 11, .string ⟨nm.toArray⟩, .slice ba bn bc, .int .i64 N, .int .i64 M] 38) := by rw [← hW0]; exact (MapKept.heap_alloc w _).1
  have hq : W1.heap[w.heap.size]? = some (.cells #[.int .i64 11, .string ⟨nm.toArray⟩, .slice ba bn bc, .int .i64 N, .int .i64 M] 38) := by rw [← hW1]; exact ((MapKept.heap_alloc W0 _).2 _ (by omega)).trans hq0
  have hA : W1.heap[W0.heap.size]? = some (.cells #[.int .i64 0, .int .i64 0, .int .i64 0, .slice none 0 0, .slice none 0 0, .bool false] 40) := by rw [← hW1]; exact (MapKept.heap_alloc W0 _).1
  have hD1 := h.below hb1
  have hrl := h.lt r (.inl rfl)
  have HD : Hid (RefAt w r T Kk a c xs ∧ Below w.heap.size w W1 ∧ w.heap.size ≤ W0.heap.size ∧ W0.heap.size < W1.heap.size ∧ RefAt W1 r T Kk a c xs ∧ W1.heap[W0.heap.size]? = some (.cells #[.int .i64 0, .int .i64 0, .int .i64 0, .slice none 0 0, .slice none 0 0, .bool false] 40) ∧ W0.heap.size = w.heap.size + 1 ∧ r < w.heap.size) := ⟨h, hb1, by omega, by omega, hD1, hA, hs0, hrl⟩
  obtain ⟨b0, b1, b2, b3, b4⟩ := box5 hq
  have HC : Hid (Calls Try.prog 72 #[.pointer (some ⟨r, 0, none⟩), .string ⟨nm.toArray⟩, .int .i64 N, .int .u8 ((maskOf M).toNat : Int)] W1 fun e w' => e = .returned (.int .i64 ((turnP T nm N (maskOf M)).2)) ∧ RNx W1 w' r a xs ((turnP T nm N (maskOf M)).1)) := rTurn hD1 hI nm hl N (maskOf M)
  have _r1 := hI
  have _r2 := hle
  have _r3 := hl
  have _r4 := hN
  have _r5 := hM
  clear h _r1 _r2 _r3 _r4 _r5 hI hle hl hN hM hs0 hs1 hb1 hq0 hq hA hD1 hrl
  have m1 := bits_and_255 M
  have m2 := wrap_mask M
  generalize (turnP T nm N (maskOf M)).2 = er at *
  generalize (turnP T nm N (maskOf M)).1 = S2 at *
  go_enter Try.func42, Try.ntmps42
  go_wp2_with fail
  refine HC.out.mono ?_
  rintro e w3 ⟨rfl, hnx⟩
  have HX : Hid (RNx W1 w3 r a xs S2) := hnx
  have hAW : w3.heap[W0.heap.size]? = some (.cells #[.int .i64 0, .int .i64 0, .int .i64 0, .slice none 0 0, .slice none 0 0, .bool false] 40) := by
    obtain ⟨K', a', c', xs', _, hC, _⟩ := hnx
    exact hC.block HD.out.2.2.2.2.2.1 (by have := HD.out.2.2.2.2.2.2; omega)
  clear hnx HC
  obtain ⟨W9, hW9, hh9, hC9⟩ := set6 hAW (.int .i64 er) (.int .i64 0) (.int .i64 0) (.slice none 0 0) (.slice none 0 0) (.bool false)
  obtain ⟨y0, y1, y2, y3, y4, y5⟩ := box6 hAW
  have k0 := Lib.frozen_of_heap hAW 0
  have k1 := Lib.frozen_of_heap hAW 1
  have k2 := Lib.frozen_of_heap hAW 2
  have k3 := Lib.frozen_of_heap hAW 3
  have k4 := Lib.frozen_of_heap hAW 4
  have k5 := Lib.frozen_of_heap hAW 5
  obtain ⟨r0, r1, r2, r3, r4, r5⟩ := box6 hh9
  have HC9 : Hid (Chg (fun g => g = W0.heap.size) w3 W9) := hC9
  clear hAW hh9 hC9
  go_wp2_with fail
  refine bodyPost_ret (v := .agg #[.int .i64 er, .int .i64 0, .int .i64 0, .slice none 0 0, .slice none 0 0, .bool false]) (by simp [results, Try.results42, go_sem, r0, r1, r2, r3, r4, r5]) rfl ?_
  exact ⟨rfl, rx_wrap HD.out.1 HD.out.2.1 HX.out HD.out.2.2.1 HD.out.2.2.2.1 HC9.out⟩
theorem app_wrap {w2 w3 W9 : World} {A : Nat} {T' : Dk} (h : RefAt w r T Kk a c xs) (hb : Below w.heap.size w w2) (hx : AppQ w2 w3 r a xs T') (hA : w.heap.size ≤ A) (hA2 : A < w2.heap.size) (hC : Chg (fun g => g = A) w3 W9) : AppQ w W9 r a xs T' := by
  obtain ⟨T2, h1, h2, h3⟩ := hx
  exact ⟨T2, h1, h2, rx_wrap h hb h3 hA hA2 hC⟩
set_option maxHeartbeats 2000000 in
theorem should_1 (h : RefAt w r T Kk a c xs) (hI : RIn T xs) (hle : xs.length ≤ 1000000000) (nm : List UInt8) (hl : nm.length ≤ 9223372036854775807) (ba : Option Addr) (bn bc : Nat) (N M : Int) (hN : N ≤ 9223372036854775807) (hM : M ≤ 9223372036854775807) {B : List UInt8} (hBB : ∀ W, Chg (fun g => g = r) w W → Rw byU 1 W ba bn bc B) (hbn : bn ≤ 140737488351232) :
    Calls Try.prog 42 #[.pointer (some ⟨r, 0, none⟩), .agg #[.int .i64 1, .string ⟨nm.toArray⟩, .slice ba bn bc, .int .i64 N, .int .i64 M]] w fun e w' => e = .returned (.agg #[.int .i64 (appC T nm B).2.2, .int .i64 (appC T nm B).2.1, .int .i64 0, .slice none 0 0, .slice none 0 0, .bool false]) ∧ AppQ w w' r a xs (appC T nm B).1 := by
  obtain ⟨W0, hW0⟩ : ∃ W0, w.alloc (.cells #[.int .i64 1, .string ⟨nm.toArray⟩, .slice ba bn bc, .int .i64 N, .int .i64 M] 38) = W0 := ⟨_, rfl⟩
  obtain ⟨W1, hW1⟩ : ∃ W1, W0.alloc (.cells #[.int .i64 0, .int .i64 0, .int .i64 0, .slice none 0 0, .slice none 0 0, .bool false] 40) = W1 := ⟨_, rfl⟩
  have hs0 : W0.heap.size = w.heap.size + 1 := by rw [← hW0, World.size_alloc]
  have hs1 : W1.heap.size = w.heap.size + 2 := by rw [← hW1, World.size_alloc, hs0]
  have hb1 : Below w.heap.size w W1 := by rw [← hW1, ← hW0]; exact ((Below.refl _ _).alloc (Nat.le_refl _) _).alloc (by rw [World.size_alloc]; omega) _
  have hq0 : W0.heap[w.heap.size]? = some (.cells #[.int .i64 1, .string ⟨nm.toArray⟩, .slice ba bn bc, .int .i64 N, .int .i64 M] 38) := by rw [← hW0]; exact (MapKept.heap_alloc w _).1
  have hq : W1.heap[w.heap.size]? = some (.cells #[.int .i64 1, .string ⟨nm.toArray⟩, .slice ba bn bc, .int .i64 N, .int .i64 M] 38) := by rw [← hW1]; exact ((MapKept.heap_alloc W0 _).2 _ (by omega)).trans hq0
  have hA : W1.heap[W0.heap.size]? = some (.cells #[.int .i64 0, .int .i64 0, .int .i64 0, .slice none 0 0, .slice none 0 0, .bool false] 40) := by rw [← hW1]; exact (MapKept.heap_alloc W0 _).1
  have hD1 := h.below hb1
  have hrl := h.lt r (.inl rfl)
  have HD : Hid (RefAt w r T Kk a c xs ∧ Below w.heap.size w W1 ∧ w.heap.size ≤ W0.heap.size ∧ W0.heap.size < W1.heap.size ∧ RefAt W1 r T Kk a c xs ∧ W1.heap[W0.heap.size]? = some (.cells #[.int .i64 0, .int .i64 0, .int .i64 0, .slice none 0 0, .slice none 0 0, .bool false] 40) ∧ W0.heap.size = w.heap.size + 1 ∧ r < w.heap.size) := ⟨h, hb1, by omega, by omega, hD1, hA, hs0, hrl⟩
  obtain ⟨b0, b1, b2, b3, b4⟩ := box5 hq
  have HC : Hid (Calls Try.prog 60 #[.pointer (some ⟨r, 0, none⟩), .string ⟨nm.toArray⟩, .slice ba bn bc] W1 fun e w' => e = .returned (.tuple #[.int .i64 (appC T nm B).2.1, .int .i64 (appC T nm B).2.2]) ∧ AppQ W1 w' r a xs (appC T nm B).1) := rAppend hD1 hI hle nm hl (fun W hC => hBB W ((Chg.of_below hb1).trans hC)) hbn
  have _r1 := hI
  have _r2 := hle
  have _r3 := hl
  have _r4 := hN
  have _r5 := hM
  clear h _r1 _r2 _r3 _r4 _r5 hI hle hl hN hM hs0 hs1 hb1 hq0 hq hA hD1 hrl
  clear hBB hbn
  generalize (appC T nm B).2.2 = er at *
  generalize (appC T nm B).2.1 = n at *
  generalize (appC T nm B).1 = S2 at *
  go_enter Try.func42, Try.ntmps42
  go_wp2_with fail
  refine HC.out.mono ?_
  rintro e w3 ⟨rfl, hnx⟩
  have HX : Hid (AppQ W1 w3 r a xs S2) := hnx
  have hAW : w3.heap[W0.heap.size]? = some (.cells #[.int .i64 0, .int .i64 0, .int .i64 0, .slice none 0 0, .slice none 0 0, .bool false] 40) := by
    obtain ⟨_, _, _, K', a', c', xs', _, hC, _⟩ := hnx
    exact hC.block HD.out.2.2.2.2.2.1 (by have := HD.out.2.2.2.2.2.2; omega)
  clear hnx HC
  obtain ⟨W9, hW9, hh9, hC9⟩ := set6 hAW (.int .i64 er) (.int .i64 n) (.int .i64 0) (.slice none 0 0) (.slice none 0 0) (.bool false)
  obtain ⟨y0, y1, y2, y3, y4, y5⟩ := box6 hAW
  have k0 := Lib.frozen_of_heap hAW 0
  have k1 := Lib.frozen_of_heap hAW 1
  have k2 := Lib.frozen_of_heap hAW 2
  have k3 := Lib.frozen_of_heap hAW 3
  have k4 := Lib.frozen_of_heap hAW 4
  have k5 := Lib.frozen_of_heap hAW 5
  obtain ⟨r0, r1, r2, r3, r4, r5⟩ := box6 hh9
  have HC9 : Hid (Chg (fun g => g = W0.heap.size) w3 W9) := hC9
  clear hAW hh9 hC9
  go_wp2_with fail
  refine bodyPost_ret (v := .agg #[.int .i64 er, .int .i64 n, .int .i64 0, .slice none 0 0, .slice none 0 0, .bool false]) (by simp [results, Try.results42, go_sem, r0, r1, r2, r3, r4, r5]) rfl ?_
  exact ⟨rfl, app_wrap HD.out.1 HD.out.2.1 HX.out HD.out.2.2.1 HD.out.2.2.2.1 HC9.out⟩
end Go.Proofs.Ytfehgaioioejoaa

/-! The sentences' own should, in one word. -/
namespace Go.Proofs.Ytfehgaioioejoaa
open Go.RowKit Go.Lib
set_option maxRecDepth 100000

variable {w : World} {r c : Nat} {T : Dk} {Kk : Int} {a : Option Addr} {xs : List Rf}
def Sh5 (w w' : World) (r : Nat) (a : Option Addr) (xs : List Rf) (T : Dk) (l : List UInt8) (er : Int) (e : Ending) : Prop := ∃ a3 c3, e = .returned (.agg #[.int .i64 er, .int .i64 0, .int .i64 0, .slice a3 l.length c3, .slice none 0 0, .bool false]) ∧ OwnF byU 1 5 w' w.heap.size (.slice a3 l.length c3) l ∧ RNx w w' r a xs T
set_option maxHeartbeats 4000000 in
theorem should_5 (h : RefAt w r T Kk a c xs) (hI : RIn T xs) (hle : xs.length ≤ 1000000000) (nm : List UInt8) (hl : nm.length ≤ 9223372036854775807) (ba : Option Addr) (bn bc : Nat) (N M : Int) (hN : N ≤ 9223372036854775807) (hM : M ≤ 9223372036854775807) :
    Calls Try.prog 42 #[.pointer (some ⟨r, 0, none⟩), .agg #[.int .i64 5, .string ⟨nm.toArray⟩, .slice ba bn bc, .int .i64 N, .int .i64 M]] w fun e w' => Sh5 w w' r a xs T (readP T nm N M).1 (readP T nm N M).2 e := by
  obtain ⟨W0, hW0⟩ : ∃ W0, w.alloc (.cells #[.int .i64 5, .string ⟨nm.toArray⟩, .slice ba bn bc, .int .i64 N, .int .i64 M] 38) = W0 := ⟨_, rfl⟩
  obtain ⟨W1, hW1⟩ : ∃ W1, W0.alloc (.cells #[.int .i64 0, .int .i64 0, .int .i64 0, .slice none 0 0, .slice none 0 0, .bool false] 40) = W1 := ⟨_, rfl⟩
  have hs0 : W0.heap.size = w.heap.size + 1 := by rw [← hW0, World.size_alloc]
  have hs1 : W1.heap.size = w.heap.size + 2 := by rw [← hW1, World.size_alloc, hs0]
  have hb1 : Below w.heap.size w W1 := by rw [← hW1, ← hW0]; exact ((Below.refl _ _).alloc (Nat.le_refl _) _).alloc (by rw [World.size_alloc]; omega) _
  have hq0 : W0.heap[w.heap.size]? = some (.cells #[.int .i64 5, .string ⟨nm.toArray⟩, .slice ba bn bc, .int .i64 N, .int .i64 M] 38) := by rw [← hW0]; exact (MapKept.heap_alloc w _).1
  have hq : W1.heap[w.heap.size]? = some (.cells #[.int .i64 5, .string ⟨nm.toArray⟩, .slice ba bn bc, .int .i64 N, .int .i64 M] 38) := by rw [← hW1]; exact ((MapKept.heap_alloc W0 _).2 _ (by omega)).trans hq0
  have hA : W1.heap[W0.heap.size]? = some (.cells #[.int .i64 0, .int .i64 0, .int .i64 0, .slice none 0 0, .slice none 0 0, .bool false] 40) := by rw [← hW1]; exact (MapKept.heap_alloc W0 _).1
  have hD1 := h.below hb1
  have hrl := h.lt r (.inl rfl)
  have HD : Hid (RefAt w r T Kk a c xs ∧ Below w.heap.size w W1 ∧ w.heap.size ≤ W0.heap.size ∧ W0.heap.size < W1.heap.size ∧ RefAt W1 r T Kk a c xs ∧ W1.heap[W0.heap.size]? = some (.cells #[.int .i64 0, .int .i64 0, .int .i64 0, .slice none 0 0, .slice none 0 0, .bool false] 40) ∧ W0.heap.size = w.heap.size + 1 ∧ r < w.heap.size) := ⟨h, hb1, by omega, by omega, hD1, hA, hs0, hrl⟩
  obtain ⟨b0, b1, b2, b3, b4⟩ := box5 hq
  have HC : Hid (Calls Try.prog 64 #[.pointer (some ⟨r, 0, none⟩), .string ⟨nm.toArray⟩, .int .i64 N, .int .i64 M] W1 fun e w' => ReadQ W1 (readP T nm N M).1 (readP T nm N M).2 e w') := rRead hD1 hI nm hl N M hN hM
  have _r1 := hI
  have _r2 := hle
  have _r3 := hl
  have _r4 := hN
  have _r5 := hM
  clear h _r1 _r2 _r3 _r4 _r5 hI hle hl hN hM hs0 hs1 hb1 hq0 hq hA hD1 hrl
  generalize (readP T nm N M).2 = er at *
  generalize (readP T nm N M).1 = res at *
  go_enter Try.func42, Try.ntmps42
  go_wp2_with fail
  refine HC.out.mono ?_
  rintro e w3 ⟨a3, c3, rfl, ho3, hb3⟩
  have HX : Hid (OwnF byU 1 5 w3 W1.heap.size (.slice a3 res.length c3) res ∧ Below W1.heap.size W1 w3) := ⟨ho3, hb3⟩
  have hAW : w3.heap[W0.heap.size]? = some (.cells #[.int .i64 0, .int .i64 0, .int .i64 0, .slice none 0 0, .slice none 0 0, .bool false] 40) := (hb3.block _ HD.out.2.2.2.1).trans HD.out.2.2.2.2.2.1
  clear ho3 hb3 HC
  obtain ⟨W9, hW9, hh9, hC9⟩ := set6 hAW (.int .i64 er) (.int .i64 0) (.int .i64 0) (.slice a3 res.length c3) (.slice none 0 0) (.bool false)
  obtain ⟨y0, y1, y2, y3, y4, y5⟩ := box6 hAW
  have k0 := Lib.frozen_of_heap hAW 0
  have k1 := Lib.frozen_of_heap hAW 1
  have k2 := Lib.frozen_of_heap hAW 2
  have k3 := Lib.frozen_of_heap hAW 3
  have k4 := Lib.frozen_of_heap hAW 4
  have k5 := Lib.frozen_of_heap hAW 5
  obtain ⟨r0, r1, r2, r3, r4, r5⟩ := box6 hh9
  have HC9 : Hid (Chg (fun g => g = W0.heap.size) w3 W9) := hC9
  clear hAW hh9 hC9
  go_wp2_with fail
  refine bodyPost_ret (v := .agg #[.int .i64 er, .int .i64 0, .int .i64 0, .slice a3 res.length c3, .slice none 0 0, .bool false]) (by simp [results, Try.results42, go_sem, r0, r1, r2, r3, r4, r5]) rfl ?_
  refine ⟨a3, c3, rfl, (HX.out.1.chg HC9.out (fun g hg e => ?_)).mono (Nat.le_trans HD.out.2.2.1 (Nat.le_of_lt HD.out.2.2.2.1)), rx_wrap HD.out.1 HD.out.2.1 (HD.out.2.2.2.2.1.nxt HX.out.2) HD.out.2.2.1 HD.out.2.2.2.1 HC9.out⟩
  have h1 := HX.out.1.ge hg
  have h2 := HD.out.2.2.2.1
  omega
set_option maxHeartbeats 4000000 in
theorem should_6 (h : RefAt w r T Kk a c xs) (hI : RIn T xs) (hle : xs.length ≤ 1000000000) (nm : List UInt8) (hl : nm.length ≤ 9223372036854775807) (ba : Option Addr) (bn bc : Nat) (N M : Int) (hN : N ≤ 9223372036854775807) (hM : M ≤ 9223372036854775807) :
    Calls Try.prog 42 #[.pointer (some ⟨r, 0, none⟩), .agg #[.int .i64 6, .string ⟨nm.toArray⟩, .slice ba bn bc, .int .i64 N, .int .i64 M]] w fun e w' => e = .returned (.agg #[.int .i64 (sizeP T nm).2.2, .int .i64 ((sizeP T nm).1 : Int), .int .i64 ((sizeP T nm).2.1 : Int), .slice none 0 0, .slice none 0 0, .bool false]) ∧ RNx w w' r a xs T := by
  obtain ⟨W0, hW0⟩ : ∃ W0, w.alloc (.cells #[.int .i64 6, .string ⟨nm.toArray⟩, .slice ba bn bc, .int .i64 N, .int .i64 M] 38) = W0 := ⟨_, rfl⟩
  obtain ⟨W1, hW1⟩ : ∃ W1, W0.alloc (.cells #[.int .i64 0, .int .i64 0, .int .i64 0, .slice none 0 0, .slice none 0 0, .bool false] 40) = W1 := ⟨_, rfl⟩
  have hs0 : W0.heap.size = w.heap.size + 1 := by rw [← hW0, World.size_alloc]
  have hs1 : W1.heap.size = w.heap.size + 2 := by rw [← hW1, World.size_alloc, hs0]
  have hb1 : Below w.heap.size w W1 := by rw [← hW1, ← hW0]; exact ((Below.refl _ _).alloc (Nat.le_refl _) _).alloc (by rw [World.size_alloc]; omega) _
  have hq0 : W0.heap[w.heap.size]? = some (.cells #[.int .i64 6, .string ⟨nm.toArray⟩, .slice ba bn bc, .int .i64 N, .int .i64 M] 38) := by rw [← hW0]; exact (MapKept.heap_alloc w _).1
  have hq : W1.heap[w.heap.size]? = some (.cells #[.int .i64 6, .string ⟨nm.toArray⟩, .slice ba bn bc, .int .i64 N, .int .i64 M] 38) := by rw [← hW1]; exact ((MapKept.heap_alloc W0 _).2 _ (by omega)).trans hq0
  have hA : W1.heap[W0.heap.size]? = some (.cells #[.int .i64 0, .int .i64 0, .int .i64 0, .slice none 0 0, .slice none 0 0, .bool false] 40) := by rw [← hW1]; exact (MapKept.heap_alloc W0 _).1
  have hD1 := h.below hb1
  have hrl := h.lt r (.inl rfl)
  have HD : Hid (RefAt w r T Kk a c xs ∧ Below w.heap.size w W1 ∧ w.heap.size ≤ W0.heap.size ∧ W0.heap.size < W1.heap.size ∧ RefAt W1 r T Kk a c xs ∧ W1.heap[W0.heap.size]? = some (.cells #[.int .i64 0, .int .i64 0, .int .i64 0, .slice none 0 0, .slice none 0 0, .bool false] 40) ∧ W0.heap.size = w.heap.size + 1 ∧ r < w.heap.size) := ⟨h, hb1, by omega, by omega, hD1, hA, hs0, hrl⟩
  obtain ⟨b0, b1, b2, b3, b4⟩ := box5 hq
  have HC : Hid (Calls Try.prog 65 #[.pointer (some ⟨r, 0, none⟩), .string ⟨nm.toArray⟩] W1 fun e w' => e = .returned (.tuple #[.int .i64 ((sizeP T nm).1 : Int), .int .i64 ((sizeP T nm).2.1 : Int), .int .i64 (sizeP T nm).2.2]) ∧ Below W1.heap.size W1 w') := rSize hD1 hI nm hl
  have _r1 := hI
  have _r2 := hle
  have _r3 := hl
  have _r4 := hN
  have _r5 := hM
  clear h _r1 _r2 _r3 _r4 _r5 hI hle hl hN hM hs0 hs1 hb1 hq0 hq hA hD1 hrl
  generalize (sizeP T nm).2.2 = er at *
  generalize (sizeP T nm).2.1 = n2 at *
  generalize (sizeP T nm).1 = n1 at *
  go_enter Try.func42, Try.ntmps42
  go_wp2_with fail
  refine HC.out.mono ?_
  rintro e w3 ⟨rfl, hb3⟩
  have HX : Hid (Below W1.heap.size W1 w3) := hb3
  have hAW : w3.heap[W0.heap.size]? = some (.cells #[.int .i64 0, .int .i64 0, .int .i64 0, .slice none 0 0, .slice none 0 0, .bool false] 40) := (hb3.block _ HD.out.2.2.2.1).trans HD.out.2.2.2.2.2.1
  clear hb3 HC
  obtain ⟨W9, hW9, hh9, hC9⟩ := set6 hAW (.int .i64 er) (.int .i64 (n1 : Int)) (.int .i64 (n2 : Int)) (.slice none 0 0) (.slice none 0 0) (.bool false)
  obtain ⟨y0, y1, y2, y3, y4, y5⟩ := box6 hAW
  have k0 := Lib.frozen_of_heap hAW 0
  have k1 := Lib.frozen_of_heap hAW 1
  have k2 := Lib.frozen_of_heap hAW 2
  have k3 := Lib.frozen_of_heap hAW 3
  have k4 := Lib.frozen_of_heap hAW 4
  have k5 := Lib.frozen_of_heap hAW 5
  obtain ⟨r0, r1, r2, r3, r4, r5⟩ := box6 hh9
  have HC9 : Hid (Chg (fun g => g = W0.heap.size) w3 W9) := hC9
  clear hAW hh9 hC9
  go_wp2_with fail
  refine bodyPost_ret (v := .agg #[.int .i64 er, .int .i64 (n1 : Int), .int .i64 (n2 : Int), .slice none 0 0, .slice none 0 0, .bool false]) (by simp [results, Try.results42, go_sem, r0, r1, r2, r3, r4, r5]) rfl ?_
  exact ⟨rfl, rx_wrap HD.out.1 HD.out.2.1 (HD.out.2.2.2.2.1.nxt HX.out) HD.out.2.2.1 HD.out.2.2.2.1 HC9.out⟩
theorem FilesO.of_ow {W1 w3 : World} {fs : List Fl} {n : Nat} {a' : Option Addr} {c' : Nat} {us : List Fv} (h : Ow W1 w3 fs n (.slice a' n c') us) (hn : n = fs.length) : FilesO w3 W1.heap.size a' n c' fs := by
  refine ⟨us, h.row.rw_ layFv, by rw [h.len, hn], fun i v f hv hf => (h.each i v f hv hf).ok, fun q e => h.row.ge (g := q.block) (by rw [e]; rfl), fun i v hv q e => ?_⟩
  have hi := (List.getElem?_eq_some_iff.1 hv).1
  have hil : i < fs.length := by rw [h.len] at hi; omega
  exact (h.each i v _ hv (List.getElem?_eq_getElem hil)).own.ge (g := q.block) (by rw [e]; rfl)
def Sh7 (w w' : World) (r : Nat) (a : Option Addr) (xs : List Rf) (T : Dk) (e : Ending) : Prop := ∃ a' c', e = .returned (.agg #[.int .i64 0, .int .i64 (sumR xs : Int), .int .i64 0, .slice none 0 0, .slice a' xs.length c', .bool T.down]) ∧ FilesO w' w.heap.size a' xs.length c' (xs.map Rf.fl) ∧ RNx w w' r a xs T
set_option maxHeartbeats 4000000 in
theorem should_7 (h : RefAt w r T Kk a c xs) (hI : RIn T xs) (hle : xs.length ≤ 1000000000) (nm : List UInt8) (hl : nm.length ≤ 9223372036854775807) (ba : Option Addr) (bn bc : Nat) (N M : Int) (hN : N ≤ 9223372036854775807) (hM : M ≤ 9223372036854775807) :
    Calls Try.prog 42 #[.pointer (some ⟨r, 0, none⟩), .agg #[.int .i64 7, .string ⟨nm.toArray⟩, .slice ba bn bc, .int .i64 N, .int .i64 M]] w fun e w' => Sh7 w w' r a xs T e := by
  obtain ⟨W0, hW0⟩ : ∃ W0, w.alloc (.cells #[.int .i64 7, .string ⟨nm.toArray⟩, .slice ba bn bc, .int .i64 N, .int .i64 M] 38) = W0 := ⟨_, rfl⟩
  obtain ⟨W1, hW1⟩ : ∃ W1, W0.alloc (.cells #[.int .i64 0, .int .i64 0, .int .i64 0, .slice none 0 0, .slice none 0 0, .bool false] 40) = W1 := ⟨_, rfl⟩
  have hs0 : W0.heap.size = w.heap.size + 1 := by rw [← hW0, World.size_alloc]
  have hs1 : W1.heap.size = w.heap.size + 2 := by rw [← hW1, World.size_alloc, hs0]
  have hb1 : Below w.heap.size w W1 := by rw [← hW1, ← hW0]; exact ((Below.refl _ _).alloc (Nat.le_refl _) _).alloc (by rw [World.size_alloc]; omega) _
  have hq0 : W0.heap[w.heap.size]? = some (.cells #[.int .i64 7, .string ⟨nm.toArray⟩, .slice ba bn bc, .int .i64 N, .int .i64 M] 38) := by rw [← hW0]; exact (MapKept.heap_alloc w _).1
  have hq : W1.heap[w.heap.size]? = some (.cells #[.int .i64 7, .string ⟨nm.toArray⟩, .slice ba bn bc, .int .i64 N, .int .i64 M] 38) := by rw [← hW1]; exact ((MapKept.heap_alloc W0 _).2 _ (by omega)).trans hq0
  have hA : W1.heap[W0.heap.size]? = some (.cells #[.int .i64 0, .int .i64 0, .int .i64 0, .slice none 0 0, .slice none 0 0, .bool false] 40) := by rw [← hW1]; exact (MapKept.heap_alloc W0 _).1
  have hD1 := h.below hb1
  have hrl := h.lt r (.inl rfl)
  have HD : Hid (RefAt w r T Kk a c xs ∧ Below w.heap.size w W1 ∧ w.heap.size ≤ W0.heap.size ∧ W0.heap.size < W1.heap.size ∧ RefAt W1 r T Kk a c xs ∧ W1.heap[W0.heap.size]? = some (.cells #[.int .i64 0, .int .i64 0, .int .i64 0, .slice none 0 0, .slice none 0 0, .bool false] 40) ∧ W0.heap.size = w.heap.size + 1 ∧ r < w.heap.size) := ⟨h, hb1, by omega, by omega, hD1, hA, hs0, hrl⟩
  obtain ⟨b0, b1, b2, b3, b4⟩ := box5 hq
  have HF : Hid (Calls Try.prog 66 #[.pointer (some ⟨r, 0, none⟩)] W1 fun e w' => ∃ (a' : Option Addr) (c' : Nat) (us : List Fv), e = .returned (.slice a' xs.length c') ∧ Ow W1 w' (xs.map Rf.fl) xs.length (.slice a' xs.length c') us) := rFiles hD1 hI.len hI.hu
  have HU : Hid (∀ W, Below W1.heap.size W1 W → Calls Try.prog 67 #[.pointer (some ⟨r, 0, none⟩)] W fun e w' => e = .returned (.int .i64 (sumR xs : Int)) ∧ w' = W) := fun W hb => rUsed (hD1.below hb) (by have := hI.len; omega) (by have := hI.use; have := hI.lim; omega)
  have HDN : Hid (∀ W, Below W1.heap.size W1 W → Calls Try.prog 68 #[.pointer (some ⟨r, 0, none⟩)] W fun e w' => e = .returned (.bool T.down) ∧ w' = W) := fun W hb => rDown (hD1.below hb)
  have _r1 := hI
  have _r2 := hle
  have _r3 := hl
  have _r4 := hN
  have _r5 := hM
  clear h _r1 _r2 _r3 _r4 _r5 hI hle hl hN hM hs0 hs1 hb1 hq0 hq hA hD1 hrl
  go_enter Try.func42, Try.ntmps42
  go_wp2_with fail
  refine HF.out.mono ?_
  rintro e w3 ⟨a', c', us, rfl, how⟩
  have HX : Hid (FilesO w3 W1.heap.size a' xs.length c' (xs.map Rf.fl) ∧ Below W1.heap.size W1 w3) := ⟨FilesO.of_ow how (by rw [List.length_map]), how.below⟩
  have hAW : w3.heap[W0.heap.size]? = some (.cells #[.int .i64 0, .int .i64 0, .int .i64 0, .slice none 0 0, .slice none 0 0, .bool false] 40) := (how.below.block _ HD.out.2.2.2.1).trans HD.out.2.2.2.2.2.1
  clear how HF
  go_wp2_with fail
  refine (HU.out _ HX.out.2).mono ?_
  rintro e wz ⟨rfl, hz⟩
  rw [hz]
  clear hz wz
  go_wp2_with fail
  refine (HDN.out _ HX.out.2).mono ?_
  rintro e wz ⟨rfl, hz⟩
  rw [hz]
  clear hz wz
  obtain ⟨W9, hW9, hh9, hC9⟩ := set6 hAW (.int .i64 0) (.int .i64 (sumR xs : Int)) (.int .i64 0) (.slice none 0 0) (.slice a' xs.length c') (.bool T.down)
  obtain ⟨y0, y1, y2, y3, y4, y5⟩ := box6 hAW
  have k0 := Lib.frozen_of_heap hAW 0
  have k1 := Lib.frozen_of_heap hAW 1
  have k2 := Lib.frozen_of_heap hAW 2
  have k3 := Lib.frozen_of_heap hAW 3
  have k4 := Lib.frozen_of_heap hAW 4
  have k5 := Lib.frozen_of_heap hAW 5
  obtain ⟨r0, r1, r2, r3, r4, r5⟩ := box6 hh9
  have HC9 : Hid (Chg (fun g => g = W0.heap.size) w3 W9) := hC9
  clear hAW hh9 hC9
  go_wp2_with fail
  refine bodyPost_ret (v := .agg #[.int .i64 0, .int .i64 (sumR xs : Int), .int .i64 0, .slice none 0 0, .slice a' xs.length c', .bool T.down]) (by simp [results, Try.results42, go_sem, r0, r1, r2, r3, r4, r5]) rfl ?_
  refine ⟨a', c', rfl, (HX.out.1.chg HC9.out (fun g e => ?_)).mono (Nat.le_trans HD.out.2.2.1 (Nat.le_of_lt HD.out.2.2.2.1)), rx_wrap HD.out.1 HD.out.2.1 (HD.out.2.2.2.2.1.nxt HX.out.2) HD.out.2.2.1 HD.out.2.2.2.1 HC9.out⟩
  have h2 := HD.out.2.2.2.1
  omega
set_option maxHeartbeats 4000000 in
theorem should_0 (h : RefAt w r T Kk a c xs) (hI : RIn T xs) (hle : xs.length ≤ 1000000000) (nm : List UInt8) (hl : nm.length ≤ 9223372036854775807) (ba : Option Addr) (bn bc : Nat) (N M : Int) (hN : N ≤ 9223372036854775807) (hM : M ≤ 9223372036854775807) (k : Int) (hk : k ≤ 0 ∨ 12 ≤ k) :
    Calls Try.prog 42 #[.pointer (some ⟨r, 0, none⟩), .agg #[.int .i64 k, .string ⟨nm.toArray⟩, .slice ba bn bc, .int .i64 N, .int .i64 M]] w fun e w' => e = .returned (.agg #[.int .i64 0, .int .i64 0, .int .i64 0, .slice none 0 0, .slice none 0 0, .bool false]) ∧ RNx w w' r a xs T := by
  obtain ⟨W0, hW0⟩ : ∃ W0, w.alloc (.cells #[.int .i64 k, .string ⟨nm.toArray⟩, .slice ba bn bc, .int .i64 N, .int .i64 M] 38) = W0 := ⟨_, rfl⟩
  obtain ⟨W1, hW1⟩ : ∃ W1, W0.alloc (.cells #[.int .i64 0, .int .i64 0, .int .i64 0, .slice none 0 0, .slice none 0 0, .bool false] 40) = W1 := ⟨_, rfl⟩
  have hs0 : W0.heap.size = w.heap.size + 1 := by rw [← hW0, World.size_alloc]
  have hs1 : W1.heap.size = w.heap.size + 2 := by rw [← hW1, World.size_alloc, hs0]
  have hb1 : Below w.heap.size w W1 := by rw [← hW1, ← hW0]; exact ((Below.refl _ _).alloc (Nat.le_refl _) _).alloc (by rw [World.size_alloc]; omega) _
  have hq0 : W0.heap[w.heap.size]? = some (.cells #[.int .i64 k, .string ⟨nm.toArray⟩, .slice ba bn bc, .int .i64 N, .int .i64 M] 38) := by rw [← hW0]; exact (MapKept.heap_alloc w _).1
  have hq : W1.heap[w.heap.size]? = some (.cells #[.int .i64 k, .string ⟨nm.toArray⟩, .slice ba bn bc, .int .i64 N, .int .i64 M] 38) := by rw [← hW1]; exact ((MapKept.heap_alloc W0 _).2 _ (by omega)).trans hq0
  have hA : W1.heap[W0.heap.size]? = some (.cells #[.int .i64 0, .int .i64 0, .int .i64 0, .slice none 0 0, .slice none 0 0, .bool false] 40) := by rw [← hW1]; exact (MapKept.heap_alloc W0 _).1
  have hD1 := h.below hb1
  have hrl := h.lt r (.inl rfl)
  have HD : Hid (RefAt w r T Kk a c xs ∧ Below w.heap.size w W1 ∧ w.heap.size ≤ W0.heap.size ∧ W0.heap.size < W1.heap.size ∧ RefAt W1 r T Kk a c xs ∧ W1.heap[W0.heap.size]? = some (.cells #[.int .i64 0, .int .i64 0, .int .i64 0, .slice none 0 0, .slice none 0 0, .bool false] 40) ∧ W0.heap.size = w.heap.size + 1 ∧ r < w.heap.size) := ⟨h, hb1, by omega, by omega, hD1, hA, hs0, hrl⟩
  obtain ⟨b0, b1, b2, b3, b4⟩ := box5 hq
  have t1 : (k == 1) = false := beq_eq_false_iff_ne.2 (by omega)
  have t2 : (k == 2) = false := beq_eq_false_iff_ne.2 (by omega)
  have t3 : (k == 3) = false := beq_eq_false_iff_ne.2 (by omega)
  have t4 : (k == 4) = false := beq_eq_false_iff_ne.2 (by omega)
  have t5 : (k == 5) = false := beq_eq_false_iff_ne.2 (by omega)
  have t6 : (k == 6) = false := beq_eq_false_iff_ne.2 (by omega)
  have t7 : (k == 7) = false := beq_eq_false_iff_ne.2 (by omega)
  have t8 : (k == 8) = false := beq_eq_false_iff_ne.2 (by omega)
  have t9 : (k == 9) = false := beq_eq_false_iff_ne.2 (by omega)
  have t10 : (k == 10) = false := beq_eq_false_iff_ne.2 (by omega)
  have t11 : (k == 11) = false := beq_eq_false_iff_ne.2 (by omega)
  have hAW := hA
  have _r1 := hI
  have _r2 := hle
  have _r3 := hl
  have _r4 := hN
  have _r5 := hM
  clear h _r1 _r2 _r3 _r4 _r5 hI hle hl hN hM hs0 hs1 hb1 hq0 hq hA hD1 hrl
  clear hk
  obtain ⟨W9, hW9, hh9, hC9⟩ := set6 hAW (.int .i64 0) (.int .i64 0) (.int .i64 0) (.slice none 0 0) (.slice none 0 0) (.bool false)
  obtain ⟨y0, y1, y2, y3, y4, y5⟩ := box6 hAW
  have k0 := Lib.frozen_of_heap hAW 0
  have k1 := Lib.frozen_of_heap hAW 1
  have k2 := Lib.frozen_of_heap hAW 2
  have k3 := Lib.frozen_of_heap hAW 3
  have k4 := Lib.frozen_of_heap hAW 4
  have k5 := Lib.frozen_of_heap hAW 5
  obtain ⟨r0, r1, r2, r3, r4, r5⟩ := box6 hh9
  have HC9 : Hid (Chg (fun g => g = W0.heap.size) W1 W9) := hC9
  clear hAW hh9 hC9
  go_enter Try.func42, Try.ntmps42
  go_wp2_with fail
  refine bodyPost_ret (v := .agg #[.int .i64 0, .int .i64 0, .int .i64 0, .slice none 0 0, .slice none 0 0, .bool false]) (by simp [results, Try.results42, go_sem, r0, r1, r2, r3, r4, r5]) rfl ?_
  exact ⟨rfl, rx_wrap HD.out.1 HD.out.2.1 (HD.out.2.2.2.2.1.nxt (Below.refl _ _)) HD.out.2.2.1 HD.out.2.2.2.1 HC9.out⟩
theorem strF_does {T : Dk} (h : StrF T.fs) (o : OpR) (hk : o.kind ≠ 1) : StrF (doesS T o).fs := by
  unfold doesS
  rw [if_neg hk]
  split
  · unfold syncP; split
    · split
      · exact strF_crash h _
      · exact strF_upd h _ _ (fun _ => rfl)
    · exact h
  · split
    · unfold cutP; split
      · split
        · exact h
        · split
          · exact strF_crash h _
          · exact strF_upd h _ _ (fun _ => rfl)
      · exact h
    · split
      · unfold removeP; split
        · split
          · exact strF_crash h _
          · exact strF_filter h _
        · exact h
      · split
        · unfold armP; split
          · exact h
          · split
            · exact h
            · split
              · exact h
              · exact h
        · split
          · unfold crashC; split
            · exact h
            · split
              · exact h
              · exact strF_crash h _
          · split
            · exact h
            · split
              · unfold turnP; split
                · split
                  · exact h
                  · exact strF_upd h _ _ (fun _ => rfl)
                · exact h
              · exact h
theorem RNx.app {w' : World} {T2 : Dk} (h : RNx w w' r a xs T2) (hs : StrF T2.fs) : AppQ w w' r a xs T2 := ⟨T2, ⟨rfl, rfl, rfl, rfl, List.Perm.refl _⟩, hs, h⟩
theorem strF_rise {fs : List Fl} (h : StrF fs) : RiseF fs := List.Pairwise.imp (fun {x y} hxy => by
  intro h2
  have := cmp_trans _ _ _ hxy h2
  rw [cmp_self] at this
  omega) h
def ShQ (w : World) (r : Nat) (a : Option Addr) (xs : List Rf) (T : Dk) (o : OpR) (e : Ending) (w' : World) : Prop := ∃ E N M a1 n1 c1 a2 n2 c2 dn, e = .returned (.agg #[.int .i64 E, .int .i64 N, .int .i64 M, .slice a1 n1 c1, .slice a2 n2 c2, .bool dn]) ∧ AnsOk w' w.heap.size T o E N M a1 n1 c1 a2 n2 c2 dn ∧ AppQ w w' r a xs (doesS T o)
theorem should_full (h : RefAt w r T Kk a c xs) (hI : RIn T xs) (hle : xs.length ≤ 1000000000) (o : OpR) (ho : OpIn w o) (hBB : ∀ W, Chg (fun g => g = r) w W → Rw byU 1 W o.ba o.B.length o.bc o.B) :
    Calls Try.prog 42 #[.pointer (some ⟨r, 0, none⟩), .agg #[.int .i64 o.kind, .string ⟨o.nm.toArray⟩, .slice o.ba o.B.length o.bc, .int .i64 o.N, .int .i64 o.M]] w fun e w' => ShQ w r a xs T o e w' := by
  have hst := strF_does hI.str o
  obtain ⟨k, nm, ba, bc, B, N, M⟩ := o
  obtain ⟨_, hl, hN, hM, hbl⟩ := ho
  simp only at hl hN hM hbl hBB hst
  by_cases k1 : k = 1
  · subst k1
    refine (should_1 h hI hle nm hl ba B.length bc N M hN hM hBB hbl).mono ?_
    rintro e w' ⟨rfl, hn⟩
    exact ⟨_, _, _, _, _, _, _, _, _, _, rfl, ans_plain rfl rfl rfl (by simp) (by simp), hn⟩
  have hst := hst k1
  by_cases k2 : k = 2
  · subst k2
    refine (should_2 h hI hle nm hl ba B.length bc N M hN hM).mono ?_
    rintro e w' ⟨rfl, hn⟩
    exact ⟨_, _, _, _, _, _, _, _, _, _, rfl, ans_plain rfl rfl rfl (by simp) (by simp), RNx.app hn hst⟩
  by_cases k3 : k = 3
  · subst k3
    refine (should_3 h hI hle nm hl ba B.length bc N M hN hM).mono ?_
    rintro e w' ⟨rfl, hn⟩
    exact ⟨_, _, _, _, _, _, _, _, _, _, rfl, ans_plain rfl rfl rfl (by simp) (by simp), RNx.app hn hst⟩
  by_cases k4 : k = 4
  · subst k4
    refine (should_4 h hI hle nm hl ba B.length bc N M hN hM).mono ?_
    rintro e w' ⟨rfl, hn⟩
    exact ⟨_, _, _, _, _, _, _, _, _, _, rfl, ans_plain rfl rfl rfl (by simp) (by simp), RNx.app hn hst⟩
  by_cases k8 : k = 8
  · subst k8
    refine (should_8 h hI hle nm hl ba B.length bc N M hN hM).mono ?_
    rintro e w' ⟨rfl, hn⟩
    exact ⟨_, _, _, _, _, _, _, _, _, _, rfl, ans_plain rfl rfl rfl (by simp) (by simp), RNx.app hn hst⟩
  by_cases k9 : k = 9
  · subst k9
    refine (should_9 h hI hle nm hl ba B.length bc N M hN hM).mono ?_
    rintro e w' ⟨rfl, hn⟩
    exact ⟨_, _, _, _, _, _, _, _, _, _, rfl, ans_plain rfl rfl rfl (by simp) (by simp), RNx.app hn hst⟩
  by_cases k10 : k = 10
  · subst k10
    refine (should_10 h hI hle nm hl ba B.length bc N M hN hM).mono ?_
    rintro e w' ⟨rfl, hn⟩
    exact ⟨_, _, _, _, _, _, _, _, _, _, rfl, ans_plain rfl rfl rfl (by simp) (by simp), RNx.app hn hst⟩
  by_cases k11 : k = 11
  · subst k11
    refine (should_11 h hI hle nm hl ba B.length bc N M hN hM).mono ?_
    rintro e w' ⟨rfl, hn⟩
    exact ⟨_, _, _, _, _, _, _, _, _, _, rfl, ans_plain rfl rfl rfl (by simp) (by simp), RNx.app hn hst⟩
  by_cases k6 : k = 6
  · subst k6
    refine (should_6 h hI hle nm hl ba B.length bc N M hN hM).mono ?_
    rintro e w' ⟨rfl, hn⟩
    exact ⟨_, _, _, _, _, _, _, _, _, _, rfl, ans_plain rfl rfl rfl (by simp) (by simp), RNx.app hn hst⟩
  by_cases k5 : k = 5
  · subst k5
    refine (should_5 h hI hle nm hl ba B.length bc N M hN hM).mono ?_
    rintro e w' ⟨a3, c3, rfl, ho3, hn⟩
    exact ⟨_, _, _, _, _, _, _, _, _, _, rfl, ⟨rfl, rfl, rfl, rfl, ho3, [], List.Perm.refl _, List.Pairwise.nil, filesO_nil _ _⟩, RNx.app hn hst⟩
  by_cases k7 : k = 7
  · subst k7
    refine (should_7 h hI hle nm hl ba B.length bc N M hN hM).mono ?_
    rintro e w' ⟨a3, c3, rfl, hf3, hn⟩
    refine ⟨_, _, _, _, _, _, _, _, _, _, rfl, ⟨rfl, ?_, rfl, rfl, ownF_nil _ _, T.fs, List.Perm.refl _, strF_rise hI.str, by rw [h.fs]; exact hf3⟩, RNx.app hn hst⟩
    show (sumR xs : Int) = (used T.fs : Int)
    rw [h.fs, sumR_used]
  have hk : k ≤ 0 ∨ 12 ≤ k := by omega
  refine (should_0 h hI hle nm hl ba B.length bc N M hN hM k hk).mono ?_
  rintro e w' ⟨rfl, hn⟩
  have hd : doesS T ⟨k, nm, ba, bc, B, N, M⟩ = T := by unfold doesS; simp only [k1, k2, k3, k4, k8, k9, k10, k11, if_false]
  refine ⟨_, _, _, _, _, _, _, _, _, _, rfl, ans_plain ?_ ?_ ?_ (by simp only; exact k5) (by simp only; exact k7), by rw [hd]; exact RNx.app hn hI.str⟩
  · unfold ansE; simp only [k1, k2, k3, k4, k5, k6, k8, k9, k10, k11, if_false]
  · unfold ansN; simp only [k1, k6, k7, if_false]
  · unfold ansM; simp only [k6, if_false]
end Go.Proofs.Ytfehgaioioejoaa
