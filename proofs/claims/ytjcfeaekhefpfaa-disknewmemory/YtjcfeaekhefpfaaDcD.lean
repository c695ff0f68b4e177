import Derived.Test.YtjcfeaekhefpfaaDcC
/-! The sentences' own does. -/
namespace Go.Proofs.Ytjcfeaekhefpfaa
open Go.RowKit Go.Lib Go.Sort Go.Shelf
set_option maxRecDepth 100000

set_option maxHeartbeats 4000000 in
theorem does_5 {w : World} {p b ck : Nat} {S : Dk} {xs : List X} (h : DiskAt w p b S xs ck) (hO : S.Ok) (nm : List UInt8) (hl : nm.length ≤ 9223372036854775807) {ba : Option Addr} {bn bc : Nat} (N M : Int) (hN : N ≤ 9223372036854775807) (hM : M ≤ 9223372036854775807) :
    Calls Try.prog 14 #[.pointer (some ⟨p, 0, none⟩), .agg #[.int .i64 5, .string ⟨nm.toArray⟩, .slice ba bn bc, .int .i64 N, .int .i64 M]] w fun e w' => ∃ a cap, e = .returned (.agg #[.int .i64 (readP S nm N M).2, .int .i64 0, .int .i64 0, .slice a (readP S nm N M).1.length cap, .slice none 0 0, .bool false]) ∧ OwnF byU 1 5 w' w.heap.size (.slice a (readP S nm N M).1.length cap) (readP S nm N M).1 ∧ Nxt w w' p b xs S := by
  obtain ⟨W0, hW0⟩ : ∃ W0, w.alloc (.cells #[.int .i64 5, .string ⟨nm.toArray⟩, .slice ba bn bc, .int .i64 N, .int .i64 M] 51) = W0 := ⟨_, rfl⟩
  obtain ⟨W1, hW1⟩ : ∃ W1, W0.alloc (.cells #[.int .i64 0, .int .i64 0, .int .i64 0, .slice none 0 0, .slice none 0 0, .bool false] 48) = W1 := ⟨_, rfl⟩
  have hs0 : W0.heap.size = w.heap.size + 1 := by rw [← hW0, World.size_alloc]
  have hs1 : W1.heap.size = w.heap.size + 2 := by rw [← hW1, World.size_alloc, hs0]
  have hb1 : Below w.heap.size w W1 := by rw [← hW1, ← hW0]; exact ((Below.refl _ _).alloc (Nat.le_refl _) _).alloc (by rw [World.size_alloc]; omega) _
  have hq0 : W0.heap[w.heap.size]? = some (.cells #[.int .i64 5, .string ⟨nm.toArray⟩, .slice ba bn bc, .int .i64 N, .int .i64 M] 51) := by rw [← hW0]; exact (MapKept.heap_alloc w _).1
  have hq : W1.heap[w.heap.size]? = some (.cells #[.int .i64 5, .string ⟨nm.toArray⟩, .slice ba bn bc, .int .i64 N, .int .i64 M] 51) := by rw [← hW1]; exact ((MapKept.heap_alloc W0 _).2 _ (by omega)).trans hq0
  have hA : W1.heap[W0.heap.size]? = some (.cells #[.int .i64 0, .int .i64 0, .int .i64 0, .slice none 0 0, .slice none 0 0, .bool false] 48) := by rw [← hW1]; exact (MapKept.heap_alloc W0 _).1
  have hD1 := h.below hb1
  have HD : Hid (DiskAt w p b S xs ck ∧ Below w.heap.size w W1 ∧ w.heap.size ≤ W0.heap.size ∧ W0.heap.size < W1.heap.size ∧ DiskAt W1 p b S xs ck ∧ W1.heap[W0.heap.size]? = some (.cells #[.int .i64 0, .int .i64 0, .int .i64 0, .slice none 0 0, .slice none 0 0, .bool false] 48) ∧ W0.heap.size = w.heap.size + 1) := ⟨h, hb1, by omega, by omega, hD1, hA, hs0⟩
  obtain ⟨b0, b1, b2, b3, b4⟩ := box5 hq
  have HNU : Hid (∀ x w, Calls Try.prog 6 #[.int .i64 x] w fun e w' => e = .returned (.int .i64 x) ∧ w' = w) := num_any
  have HC : Hid (Calls Try.prog 10 #[.pointer (some ⟨p, 0, none⟩), .string ⟨nm.toArray⟩, .int .i64 N, .int .i64 M] W1 fun e w' => ∃ a cap, e = .returned (.tuple #[.slice a (readP S nm N M).1.length cap, .int .i64 (readP S nm N M).2]) ∧ OwnF byU 1 5 w' W1.heap.size (.slice a (readP S nm N M).1.length cap) (readP S nm N M).1 ∧ Below W1.heap.size W1 w') := read_all hD1 hO nm hl N M hN hM
  clear h hO hl hN hM hs0 hs1 hb1 hq0 hq hA hD1
  generalize (readP S nm N M).2 = er at *
  generalize (readP S nm N M).1 = res at *
  go_enter Try.func14, Try.ntmps14
  go_wp2_with fail
  refine HC.out.mono ?_
  rintro e w3 ⟨a3, c3, rfl, ho3, hb3⟩
  have HX : Hid (OwnF byU 1 5 w3 W1.heap.size (.slice a3 res.length c3) res ∧ Below W1.heap.size W1 w3) := ⟨ho3, hb3⟩
  have hAW : w3.heap[W0.heap.size]? = some (.cells #[.int .i64 0, .int .i64 0, .int .i64 0, .slice none 0 0, .slice none 0 0, .bool false] 48) := (hb3.block _ HD.out.2.2.2.1).trans HD.out.2.2.2.2.2.1
  clear ho3 hb3 HC
  go_wp2_with fail
  refine (HNU.out _ _).mono ?_
  rintro e wz ⟨rfl, hz⟩
  rw [hz]
  clear hz wz
  obtain ⟨W9, hW9, hh9, hC9⟩ := set6 hAW (.int .i64 er) (.int .i64 0) (.int .i64 0) (.slice a3 res.length c3) (.slice none 0 0) (.bool false)
  obtain ⟨y0, y1, y2, y3, y4, y5⟩ := box6 hAW
  have k0 := Lib.frozen_of_heap hAW 0
  have k1 := Lib.frozen_of_heap hAW 1
  have k2 := Lib.frozen_of_heap hAW 2
  have k3 := Lib.frozen_of_heap hAW 3
  have k4 := Lib.frozen_of_heap hAW 4
  have k5 := Lib.frozen_of_heap hAW 5
  obtain ⟨r0, r1, r2, r3, r4, r5⟩ := box6 hh9
  have HC9 : Hid (Chg (fun g => g = W0.heap.size) w3 W9) := hC9
  clear hAW hh9 hC9
  go_wp2_with fail
  refine bodyPost_ret (v := .agg #[.int .i64 er, .int .i64 0, .int .i64 0, .slice a3 res.length c3, .slice none 0 0, .bool false]) (by simp [results, Try.results14, go_sem, r0, r1, r2, r3, r4, r5]) rfl ?_
  refine ⟨a3, c3, rfl, (HX.out.1.chg HC9.out (fun g hg e => ?_)).mono (Nat.le_trans HD.out.2.2.1 (Nat.le_of_lt HD.out.2.2.2.1)), nxt_wrap HD.out.1 HD.out.2.1 (nxt_below HD.out.2.2.2.2.1 HX.out.2) HD.out.2.2.1 HD.out.2.2.2.1 HC9.out⟩
  have h1 := HX.out.1.ge hg
  have h2 := HD.out.2.2.2.1
  omega
set_option maxHeartbeats 4000000 in
theorem does_6 {w : World} {p b ck : Nat} {S : Dk} {xs : List X} (h : DiskAt w p b S xs ck) (_hO : S.Ok) (nm : List UInt8) (hl : nm.length ≤ 9223372036854775807) {ba : Option Addr} {bn bc : Nat} (N M : Int) (_hN : N ≤ 9223372036854775807) (_hM : M ≤ 9223372036854775807) :
    Calls Try.prog 14 #[.pointer (some ⟨p, 0, none⟩), .agg #[.int .i64 6, .string ⟨nm.toArray⟩, .slice ba bn bc, .int .i64 N, .int .i64 M]] w fun e w' => e = .returned (.agg #[.int .i64 (sizeP S nm).2.2, .int .i64 ((sizeP S nm).1 : Int), .int .i64 ((sizeP S nm).2.1 : Int), .slice none 0 0, .slice none 0 0, .bool false]) ∧ Nxt w w' p b xs S := by
  obtain ⟨W0, hW0⟩ : ∃ W0, w.alloc (.cells #[.int .i64 6, .string ⟨nm.toArray⟩, .slice ba bn bc, .int .i64 N, .int .i64 M] 51) = W0 := ⟨_, rfl⟩
  obtain ⟨W1, hW1⟩ : ∃ W1, W0.alloc (.cells #[.int .i64 0, .int .i64 0, .int .i64 0, .slice none 0 0, .slice none 0 0, .bool false] 48) = W1 := ⟨_, rfl⟩
  have hs0 : W0.heap.size = w.heap.size + 1 := by rw [← hW0, World.size_alloc]
  have hs1 : W1.heap.size = w.heap.size + 2 := by rw [← hW1, World.size_alloc, hs0]
  have hb1 : Below w.heap.size w W1 := by rw [← hW1, ← hW0]; exact ((Below.refl _ _).alloc (Nat.le_refl _) _).alloc (by rw [World.size_alloc]; omega) _
  have hq0 : W0.heap[w.heap.size]? = some (.cells #[.int .i64 6, .string ⟨nm.toArray⟩, .slice ba bn bc, .int .i64 N, .int .i64 M] 51) := by rw [← hW0]; exact (MapKept.heap_alloc w _).1
  have hq : W1.heap[w.heap.size]? = some (.cells #[.int .i64 6, .string ⟨nm.toArray⟩, .slice ba bn bc, .int .i64 N, .int .i64 M] 51) := by rw [← hW1]; exact ((MapKept.heap_alloc W0 _).2 _ (by omega)).trans hq0
  have hA : W1.heap[W0.heap.size]? = some (.cells #[.int .i64 0, .int .i64 0, .int .i64 0, .slice none 0 0, .slice none 0 0, .bool false] 48) := by rw [← hW1]; exact (MapKept.heap_alloc W0 _).1
  have hD1 := h.below hb1
  have HD : Hid (DiskAt w p b S xs ck ∧ Below w.heap.size w W1 ∧ w.heap.size ≤ W0.heap.size ∧ W0.heap.size < W1.heap.size ∧ DiskAt W1 p b S xs ck ∧ W1.heap[W0.heap.size]? = some (.cells #[.int .i64 0, .int .i64 0, .int .i64 0, .slice none 0 0, .slice none 0 0, .bool false] 48) ∧ W0.heap.size = w.heap.size + 1) := ⟨h, hb1, by omega, by omega, hD1, hA, hs0⟩
  obtain ⟨b0, b1, b2, b3, b4⟩ := box5 hq
  have HNU : Hid (∀ x w, Calls Try.prog 6 #[.int .i64 x] w fun e w' => e = .returned (.int .i64 x) ∧ w' = w) := num_any
  have HC : Hid (Calls Try.prog 36 #[.pointer (some ⟨p, 0, none⟩), .string ⟨nm.toArray⟩] W1 fun e w' => e = .returned (.tuple #[.int .i64 ((sizeP S nm).1 : Int), .int .i64 ((sizeP S nm).2.1 : Int), .int .i64 (sizeP S nm).2.2]) ∧ Below W1.heap.size W1 w') := size_all hD1 nm hl
  clear h _hO hl _hN _hM hs0 hs1 hb1 hq0 hq hA hD1
  generalize (sizeP S nm).2.2 = er at *
  generalize (sizeP S nm).2.1 = n2 at *
  generalize (sizeP S nm).1 = n1 at *
  go_enter Try.func14, Try.ntmps14
  go_wp2_with fail
  refine HC.out.mono ?_
  rintro e w3 ⟨rfl, hb3⟩
  have HX : Hid (Below W1.heap.size W1 w3) := hb3
  have hAW : w3.heap[W0.heap.size]? = some (.cells #[.int .i64 0, .int .i64 0, .int .i64 0, .slice none 0 0, .slice none 0 0, .bool false] 48) := (hb3.block _ HD.out.2.2.2.1).trans HD.out.2.2.2.2.2.1
  clear hb3 HC
  go_wp2_with fail
  refine (HNU.out _ _).mono ?_
  rintro e wz ⟨rfl, hz⟩
  rw [hz]
  clear hz wz
  obtain ⟨W9, hW9, hh9, hC9⟩ := set6 hAW (.int .i64 er) (.int .i64 (n1 : Int)) (.int .i64 (n2 : Int)) (.slice none 0 0) (.slice none 0 0) (.bool false)
  obtain ⟨y0, y1, y2, y3, y4, y5⟩ := box6 hAW
  have k0 := Lib.frozen_of_heap hAW 0
  have k1 := Lib.frozen_of_heap hAW 1
  have k2 := Lib.frozen_of_heap hAW 2
  have k3 := Lib.frozen_of_heap hAW 3
  have k4 := Lib.frozen_of_heap hAW 4
  have k5 := Lib.frozen_of_heap hAW 5
  obtain ⟨r0, r1, r2, r3, r4, r5⟩ := box6 hh9
  have HC9 : Hid (Chg (fun g => g = W0.heap.size) w3 W9) := hC9
  clear hAW hh9 hC9
  go_wp2_with fail
  refine bodyPost_ret (v := .agg #[.int .i64 er, .int .i64 (n1 : Int), .int .i64 (n2 : Int), .slice none 0 0, .slice none 0 0, .bool false]) (by simp [results, Try.results14, go_sem, r0, r1, r2, r3, r4, r5]) rfl ?_
  exact ⟨rfl, nxt_wrap HD.out.1 HD.out.2.1 (nxt_below HD.out.2.2.2.2.1 HX.out) HD.out.2.2.1 HD.out.2.2.2.1 HC9.out⟩
def maskOf (M : Int) : UInt8 := UInt8.ofNat (M % 256).toNat
theorem maskOf_nat (M : Int) : ((maskOf M).toNat : Int) = M % 256 := by
  unfold maskOf
  rw [UInt8.toNat_ofNat']
  omega
theorem bits_and_255 (M : Int) : bits .and .i64 M 255 = M % 256 := by
  have e2 : (BitVec.ofInt 64 M &&& BitVec.ofInt 64 255).toNat = (M % 256).toNat := by
    rw [BitVec.toNat_and, BitVec.toNat_ofInt]
    have : (BitVec.ofInt 64 255).toNat = 2 ^ 8 - 1 := rfl
    rw [this, Nat.and_two_pow_sub_one_eq_mod]
    omega
  show IntKind.i64.wrap ((BitVec.ofInt 64 M &&& BitVec.ofInt 64 255).toNat : Int) = _
  rw [e2, IntWalk.i64_in _ (by omega)]
  omega
theorem wrap_mask (M : Int) : IntKind.u8.wrap (M % 256) = ((maskOf M).toNat : Int) := by
  rw [maskOf_nat]
  show (M % 256) % 256 = _
  omega
set_option maxHeartbeats 2000000 in
theorem does_11 {w : World} {p b ck : Nat} {S : Dk} {xs : List X} (h : DiskAt w p b S xs ck) (_hO : S.Ok) (nm : List UInt8) (hl : nm.length ≤ 9223372036854775807) {ba : Option Addr} {bn bc : Nat} (N M : Int) (_hN : N ≤ 9223372036854775807) (_hM : M ≤ 9223372036854775807) :
    Calls Try.prog 14 #[.pointer (some ⟨p, 0, none⟩), .agg #[.int .i64 11, .string ⟨nm.toArray⟩, .slice ba bn bc, .int .i64 N, .int .i64 M]] w fun e w' => e = .returned (.agg #[.int .i64 ((turnP S nm N (maskOf M)).2), .int .i64 0, .int .i64 0, .slice none 0 0, .slice none 0 0, .bool false]) ∧ Nxt w w' p b xs ((turnP S nm N (maskOf M)).1) := by
  obtain ⟨W0, hW0⟩ : ∃ W0, w.alloc (.cells #[.int .i64 11, .string ⟨nm.toArray⟩, .slice ba bn bc, .int .i64 N, .int .i64 M] 51) = W0 := ⟨_, rfl⟩
  obtain ⟨W1, hW1⟩ : ∃ W1, W0.alloc (.cells #[.int .i64 0, .int .i64 0, .int .i64 0, .slice none 0 0, .slice none 0 0, .bool false] 48) = W1 := ⟨_, rfl⟩
  have hs0 : W0.heap.size = w.heap.size + 1 := by rw [← hW0, World.size_alloc]
  have hs1 : W1.heap.size = w.heap.size + 2 := by rw [← hW1, World.size_alloc, hs0]
  have hb1 : Below w.heap.size w W1 := by rw [← hW1, ← hW0]; exact ((Below.refl _ _).alloc (Nat.le_refl _) _).alloc (by rw [World.size_alloc]; omega) _
  have hq0 : W0.heap[w.heap.size]? = some (.cells #[.int .i64 11, .string ⟨nm.toArray⟩, .slice ba bn bc, .int .i64 N, .int .i64 M] 51) := by rw [← hW0]; exact (MapKept.heap_alloc w _).1
  have hq : W1.heap[w.heap.size]? = some (.cells #[.int .i64 11, .string ⟨nm.toArray⟩, .slice ba bn bc, .int .i64 N, .int .i64 M] 51) := by rw [← hW1]; exact ((MapKept.heap_alloc W0 _).2 _ (by omega)).trans hq0
  have hA : W1.heap[W0.heap.size]? = some (.cells #[.int .i64 0, .int .i64 0, .int .i64 0, .slice none 0 0, .slice none 0 0, .bool false] 48) := by rw [← hW1]; exact (MapKept.heap_alloc W0 _).1
  have hD1 := h.below hb1
  have HD : Hid (DiskAt w p b S xs ck ∧ Below w.heap.size w W1 ∧ w.heap.size ≤ W0.heap.size ∧ W0.heap.size < W1.heap.size ∧ DiskAt W1 p b S xs ck ∧ W1.heap[W0.heap.size]? = some (.cells #[.int .i64 0, .int .i64 0, .int .i64 0, .slice none 0 0, .slice none 0 0, .bool false] 48) ∧ W0.heap.size = w.heap.size + 1) := ⟨h, hb1, by omega, by omega, hD1, hA, hs0⟩
  obtain ⟨b0, b1, b2, b3, b4⟩ := box5 hq
  have HNU : Hid (∀ x w, Calls Try.prog 6 #[.int .i64 x] w fun e w' => e = .returned (.int .i64 x) ∧ w' = w) := num_any
  have HC : Hid (Calls Try.prog 38 #[.pointer (some ⟨p, 0, none⟩), .string ⟨nm.toArray⟩, .int .i64 N, .int .u8 ((maskOf M).toNat : Int)] W1 fun e w' => e = .returned (.int .i64 ((turnP S nm N (maskOf M)).2)) ∧ Nxt W1 w' p b xs ((turnP S nm N (maskOf M)).1)) := turn_all hD1 nm hl N (maskOf M)
  clear h _hO hl _hN _hM hs0 hs1 hb1 hq0 hq hA hD1
  have m1 := bits_and_255 M
  have m2 := wrap_mask M
  generalize (turnP S nm N (maskOf M)).2 = er at *
  generalize (turnP S nm N (maskOf M)).1 = S2 at *
  go_enter Try.func14, Try.ntmps14
  go_wp2_with fail
  refine HC.out.mono ?_
  rintro e w3 ⟨rfl, hnx⟩
  have HX : Hid (Nxt W1 w3 p b xs S2) := hnx
  have hAW : w3.heap[W0.heap.size]? = some (.cells #[.int .i64 0, .int .i64 0, .int .i64 0, .slice none 0 0, .slice none 0 0, .bool false] 48) := by
    obtain ⟨xs', ck', _, hC, _⟩ := hnx
    exact hC.block HD.out.2.2.2.2.2.1 (fun hg => by have := HD.out.1.lt hg; have := HD.out.2.2.1; omega)
  clear hnx HC
  go_wp2_with fail
  refine (HNU.out _ _).mono ?_
  rintro e wz ⟨rfl, hz⟩
  rw [hz]
  clear hz wz
  obtain ⟨W9, hW9, hh9, hC9⟩ := set6 hAW (.int .i64 er) (.int .i64 0) (.int .i64 0) (.slice none 0 0) (.slice none 0 0) (.bool false)
  obtain ⟨y0, y1, y2, y3, y4, y5⟩ := box6 hAW
  have k0 := Lib.frozen_of_heap hAW 0
  have k1 := Lib.frozen_of_heap hAW 1
  have k2 := Lib.frozen_of_heap hAW 2
  have k3 := Lib.frozen_of_heap hAW 3
  have k4 := Lib.frozen_of_heap hAW 4
  have k5 := Lib.frozen_of_heap hAW 5
  obtain ⟨r0, r1, r2, r3, r4, r5⟩ := box6 hh9
  have HC9 : Hid (Chg (fun g => g = W0.heap.size) w3 W9) := hC9
  clear hAW hh9 hC9
  go_wp2_with fail
  refine bodyPost_ret (v := .agg #[.int .i64 er, .int .i64 0, .int .i64 0, .slice none 0 0, .slice none 0 0, .bool false]) (by simp [results, Try.results14, go_sem, r0, r1, r2, r3, r4, r5]) rfl ?_
  exact ⟨rfl, nxt_wrap HD.out.1 HD.out.2.1 HX.out HD.out.2.2.1 HD.out.2.2.2.1 HC9.out⟩
set_option maxHeartbeats 4000000 in
theorem does_7 {w : World} {p b ck : Nat} {S : Dk} {xs : List X} (h : DiskAt w p b S xs ck) (hO : S.Ok) (nm : List UInt8) (_hl : nm.length ≤ 9223372036854775807) {ba : Option Addr} {bn bc : Nat} (N M : Int) (_hN : N ≤ 9223372036854775807) (_hM : M ≤ 9223372036854775807) (hc : xs.length ≤ 4398046511104) (hnm : ∀ x ∈ xs, x.nm.length ≤ 281474976710656) :
    Calls Try.prog 14 #[.pointer (some ⟨p, 0, none⟩), .agg #[.int .i64 7, .string ⟨nm.toArray⟩, .slice ba bn bc, .int .i64 N, .int .i64 M]] w fun e w' => ∃ (g cap : Nat) (zs : List (Fv × X)), e = .returned (.agg #[.int .i64 0, .int .i64 (lenX xs : Int), .int .i64 0, .slice none 0 0, .slice (some ⟨g, 0, none⟩) zs.length cap, .bool S.down]) ∧ (∃ w2 w3, Below w.heap.size w w2 ∧ Below w2.heap.size w2 w3 ∧ FilesP w2 xs (.returned (.slice (some ⟨g, 0, none⟩) zs.length cap)) w3 ∧ ∃ w4 A, Below w3.heap.size w3 w4 ∧ Chg (fun q => q = A) w4 w' ∧ w.heap.size ≤ A ∧ A < w2.heap.size) ∧ Nxt w w' p b xs S := by
  obtain ⟨W0, hW0⟩ : ∃ W0, w.alloc (.cells #[.int .i64 7, .string ⟨nm.toArray⟩, .slice ba bn bc, .int .i64 N, .int .i64 M] 51) = W0 := ⟨_, rfl⟩
  obtain ⟨W1, hW1⟩ : ∃ W1, W0.alloc (.cells #[.int .i64 0, .int .i64 0, .int .i64 0, .slice none 0 0, .slice none 0 0, .bool false] 48) = W1 := ⟨_, rfl⟩
  have hs0 : W0.heap.size = w.heap.size + 1 := by rw [← hW0, World.size_alloc]
  have hs1 : W1.heap.size = w.heap.size + 2 := by rw [← hW1, World.size_alloc, hs0]
  have hb1 : Below w.heap.size w W1 := by rw [← hW1, ← hW0]; exact ((Below.refl _ _).alloc (Nat.le_refl _) _).alloc (by rw [World.size_alloc]; omega) _
  have hq0 : W0.heap[w.heap.size]? = some (.cells #[.int .i64 7, .string ⟨nm.toArray⟩, .slice ba bn bc, .int .i64 N, .int .i64 M] 51) := by rw [← hW0]; exact (MapKept.heap_alloc w _).1
  have hq : W1.heap[w.heap.size]? = some (.cells #[.int .i64 7, .string ⟨nm.toArray⟩, .slice ba bn bc, .int .i64 N, .int .i64 M] 51) := by rw [← hW1]; exact ((MapKept.heap_alloc W0 _).2 _ (by omega)).trans hq0
  have hA : W1.heap[W0.heap.size]? = some (.cells #[.int .i64 0, .int .i64 0, .int .i64 0, .slice none 0 0, .slice none 0 0, .bool false] 48) := by rw [← hW1]; exact (MapKept.heap_alloc W0 _).1
  have hD1 := h.below hb1
  have HD : Hid (DiskAt w p b S xs ck ∧ Below w.heap.size w W1 ∧ w.heap.size ≤ W0.heap.size ∧ W0.heap.size < W1.heap.size ∧ DiskAt W1 p b S xs ck ∧ W1.heap[W0.heap.size]? = some (.cells #[.int .i64 0, .int .i64 0, .int .i64 0, .slice none 0 0, .slice none 0 0, .bool false] 48) ∧ W0.heap.size = w.heap.size + 1) := ⟨h, hb1, by omega, by omega, hD1, hA, hs0⟩
  obtain ⟨b0, b1, b2, b3, b4⟩ := box5 hq
  have HNU : Hid (∀ x w, Calls Try.prog 6 #[.int .i64 x] w fun e w' => e = .returned (.int .i64 x) ∧ w' = w) := num_any
  have HF : Hid (Calls Try.prog 11 #[.pointer (some ⟨p, 0, none⟩)] W1 fun e w' => FilesP W1 xs e w') := files_any hD1 (hO.len h) hc hnm
  have HL : Hid (lenX xs ≤ 1099511627776) := hO.len h
  clear h hO _hl _hN _hM hs0 hs1 hb1 hq0 hq hA hD1 hc hnm
  go_enter Try.func14, Try.ntmps14
  go_wp2_with fail
  refine HF.out.mono ?_
  rintro e w3 hfp
  have HFP : Hid (FilesP W1 xs e w3) := hfp
  obtain ⟨g, cap, zs, rfl, _, _, _, _, _, hb3, _⟩ := hfp
  have HB3 : Hid (Below W1.heap.size W1 w3) := hb3
  clear hb3 HF
  go_wp2_with fail
  refine (used_any (HD.out.2.2.2.2.1.below HB3.out) HL.out).mono ?_
  rintro e w4 ⟨rfl, hb4⟩
  have HB4 : Hid (Below w3.heap.size w3 w4) := hb4
  clear hb4
  go_wp2_with fail
  refine (down_any ((HD.out.2.2.2.2.1.below HB3.out).below HB4.out)).mono ?_
  rintro e wz ⟨rfl, hz⟩
  rw [hz]
  clear hz wz
  have hAW : w4.heap[W0.heap.size]? = some (.cells #[.int .i64 0, .int .i64 0, .int .i64 0, .slice none 0 0, .slice none 0 0, .bool false] 48) := ((HB4.out.block _ (Nat.lt_of_lt_of_le HD.out.2.2.2.1 HB3.out.size)).trans (HB3.out.block _ HD.out.2.2.2.1)).trans HD.out.2.2.2.2.2.1
  obtain ⟨W9, hW9, hh9, hC9⟩ := set6 hAW (.int .i64 0) (.int .i64 (lenX xs : Int)) (.int .i64 0) (.slice none 0 0) (.slice (some ⟨g, 0, none⟩) zs.length cap) (.bool S.down)
  obtain ⟨y0, y1, y2, y3, y4, y5⟩ := box6 hAW
  have k0 := Lib.frozen_of_heap hAW 0
  have k1 := Lib.frozen_of_heap hAW 1
  have k2 := Lib.frozen_of_heap hAW 2
  have k3 := Lib.frozen_of_heap hAW 3
  have k4 := Lib.frozen_of_heap hAW 4
  have k5 := Lib.frozen_of_heap hAW 5
  obtain ⟨r0, r1, r2, r3, r4, r5⟩ := box6 hh9
  have HC9 : Hid (Chg (fun g => g = W0.heap.size) w4 W9) := hC9
  clear hAW hh9 hC9
  go_wp2_with fail
  refine bodyPost_ret (v := .agg #[.int .i64 0, .int .i64 (lenX xs : Int), .int .i64 0, .slice none 0 0, .slice (some ⟨g, 0, none⟩) zs.length cap, .bool S.down]) (by simp [results, Try.results14, go_sem, r0, r1, r2, r3, r4, r5]) rfl ?_
  exact ⟨g, cap, zs, rfl, ⟨W1, w3, HD.out.2.1, HB3.out, HFP.out, w4, W0.heap.size, HB4.out, HC9.out, HD.out.2.2.1, HD.out.2.2.2.1⟩, nxt_wrap HD.out.1 HD.out.2.1 (nxt_below HD.out.2.2.2.2.1 (HB3.out.trans (HB4.out.mono HB3.out.size))) HD.out.2.2.1 HD.out.2.2.2.1 HC9.out⟩
set_option maxHeartbeats 4000000 in
theorem does_0 {w : World} {p b ck : Nat} {S : Dk} {xs : List X} (h : DiskAt w p b S xs ck) (_hO : S.Ok) (nm : List UInt8) (_hl : nm.length ≤ 9223372036854775807) {ba : Option Addr} {bn bc : Nat} (N M : Int) (_hN : N ≤ 9223372036854775807) (_hM : M ≤ 9223372036854775807) (k : Int) (hk : k ≤ 0 ∨ 12 ≤ k) :
    Calls Try.prog 14 #[.pointer (some ⟨p, 0, none⟩), .agg #[.int .i64 k, .string ⟨nm.toArray⟩, .slice ba bn bc, .int .i64 N, .int .i64 M]] w fun e w' => e = .returned (.agg #[.int .i64 0, .int .i64 0, .int .i64 0, .slice none 0 0, .slice none 0 0, .bool false]) ∧ Nxt w w' p b xs S := by
  obtain ⟨W0, hW0⟩ : ∃ W0, w.alloc (.cells #[.int .i64 k, .string ⟨nm.toArray⟩, .slice ba bn bc, .int .i64 N, .int .i64 M] 51) = W0 := ⟨_, rfl⟩
  obtain ⟨W1, hW1⟩ : ∃ W1, W0.alloc (.cells #[.int .i64 0, .int .i64 0, .int .i64 0, .slice none 0 0, .slice none 0 0, .bool false] 48) = W1 := ⟨_, rfl⟩
  have hs0 : W0.heap.size = w.heap.size + 1 := by rw [← hW0, World.size_alloc]
  have hs1 : W1.heap.size = w.heap.size + 2 := by rw [← hW1, World.size_alloc, hs0]
  have hb1 : Below w.heap.size w W1 := by rw [← hW1, ← hW0]; exact ((Below.refl _ _).alloc (Nat.le_refl _) _).alloc (by rw [World.size_alloc]; omega) _
  have hq0 : W0.heap[w.heap.size]? = some (.cells #[.int .i64 k, .string ⟨nm.toArray⟩, .slice ba bn bc, .int .i64 N, .int .i64 M] 51) := by rw [← hW0]; exact (MapKept.heap_alloc w _).1
  have hq : W1.heap[w.heap.size]? = some (.cells #[.int .i64 k, .string ⟨nm.toArray⟩, .slice ba bn bc, .int .i64 N, .int .i64 M] 51) := by rw [← hW1]; exact ((MapKept.heap_alloc W0 _).2 _ (by omega)).trans hq0
  have hA : W1.heap[W0.heap.size]? = some (.cells #[.int .i64 0, .int .i64 0, .int .i64 0, .slice none 0 0, .slice none 0 0, .bool false] 48) := by rw [← hW1]; exact (MapKept.heap_alloc W0 _).1
  have hD1 := h.below hb1
  have HD : Hid (DiskAt w p b S xs ck ∧ Below w.heap.size w W1 ∧ w.heap.size ≤ W0.heap.size ∧ W0.heap.size < W1.heap.size ∧ DiskAt W1 p b S xs ck ∧ W1.heap[W0.heap.size]? = some (.cells #[.int .i64 0, .int .i64 0, .int .i64 0, .slice none 0 0, .slice none 0 0, .bool false] 48) ∧ W0.heap.size = w.heap.size + 1) := ⟨h, hb1, by omega, by omega, hD1, hA, hs0⟩
  obtain ⟨b0, b1, b2, b3, b4⟩ := box5 hq
  have HNU : Hid (∀ x w, Calls Try.prog 6 #[.int .i64 x] w fun e w' => e = .returned (.int .i64 x) ∧ w' = w) := num_any
  have t1 : (k == 1) = false := beq_eq_false_iff_ne.2 (by omega)
  have t2 : (k == 2) = false := beq_eq_false_iff_ne.2 (by omega)
  have t3 : (k == 3) = false := beq_eq_false_iff_ne.2 (by omega)
  have t4 : (k == 4) = false := beq_eq_false_iff_ne.2 (by omega)
  have t5 : (k == 5) = false := beq_eq_false_iff_ne.2 (by omega)
  have t6 : (k == 6) = false := beq_eq_false_iff_ne.2 (by omega)
  have t7 : (k == 7) = false := beq_eq_false_iff_ne.2 (by omega)
  have t8 : (k == 8) = false := beq_eq_false_iff_ne.2 (by omega)
  have t9 : (k == 9) = false := beq_eq_false_iff_ne.2 (by omega)
  have t10 : (k == 10) = false := beq_eq_false_iff_ne.2 (by omega)
  have t11 : (k == 11) = false := beq_eq_false_iff_ne.2 (by omega)
  have hAW := hA
  clear h _hO _hl _hN _hM hs0 hs1 hb1 hq0 hq hA hD1 hk
  obtain ⟨W9, hW9, hh9, hC9⟩ := set6 hAW (.int .i64 0) (.int .i64 0) (.int .i64 0) (.slice none 0 0) (.slice none 0 0) (.bool false)
  obtain ⟨y0, y1, y2, y3, y4, y5⟩ := box6 hAW
  have k0 := Lib.frozen_of_heap hAW 0
  have k1 := Lib.frozen_of_heap hAW 1
  have k2 := Lib.frozen_of_heap hAW 2
  have k3 := Lib.frozen_of_heap hAW 3
  have k4 := Lib.frozen_of_heap hAW 4
  have k5 := Lib.frozen_of_heap hAW 5
  obtain ⟨r0, r1, r2, r3, r4, r5⟩ := box6 hh9
  have HC9 : Hid (Chg (fun g => g = W0.heap.size) W1 W9) := hC9
  clear hAW hh9 hC9
  go_enter Try.func14, Try.ntmps14
  go_wp2_with fail
  refine bodyPost_ret (v := .agg #[.int .i64 0, .int .i64 0, .int .i64 0, .slice none 0 0, .slice none 0 0, .bool false]) (by simp [results, Try.results14, go_sem, r0, r1, r2, r3, r4, r5]) rfl ?_
  exact ⟨rfl, nxt_wrap HD.out.1 HD.out.2.1 (nxt_same HD.out.2.2.2.2.1) HD.out.2.2.1 HD.out.2.2.2.1 HC9.out⟩
set_option maxHeartbeats 4000000 in
theorem does_1 {w : World} {p b ck : Nat} {S : Dk} {xs : List X} (h : DiskAt w p b S xs ck) (hO : S.Ok) (nm : List UInt8) (hl : nm.length ≤ 9223372036854775807) {ba : Option Addr} {bn bc : Nat} (N M : Int) (_hN : N ≤ 9223372036854775807) (_hM : M ≤ 9223372036854775807) {B : List UInt8} (hB : Rw byU 1 w ba bn bc B) (hbn : bn ≤ 140737488351232) :
    Calls Try.prog 14 #[.pointer (some ⟨p, 0, none⟩), .agg #[.int .i64 1, .string ⟨nm.toArray⟩, .slice ba bn bc, .int .i64 N, .int .i64 M]] w fun e w' => e = .returned (.agg #[.int .i64 (appC S nm B).2.2, .int .i64 (appC S nm B).2.1, .int .i64 0, .slice none 0 0, .slice none 0 0, .bool false]) ∧ Nxt w w' p b xs (appC S nm B).1 := by
  obtain ⟨W0, hW0⟩ : ∃ W0, w.alloc (.cells #[.int .i64 1, .string ⟨nm.toArray⟩, .slice ba bn bc, .int .i64 N, .int .i64 M] 51) = W0 := ⟨_, rfl⟩
  obtain ⟨W1, hW1⟩ : ∃ W1, W0.alloc (.cells #[.int .i64 0, .int .i64 0, .int .i64 0, .slice none 0 0, .slice none 0 0, .bool false] 48) = W1 := ⟨_, rfl⟩
  have hs0 : W0.heap.size = w.heap.size + 1 := by rw [← hW0, World.size_alloc]
  have hs1 : W1.heap.size = w.heap.size + 2 := by rw [← hW1, World.size_alloc, hs0]
  have hb1 : Below w.heap.size w W1 := by rw [← hW1, ← hW0]; exact ((Below.refl _ _).alloc (Nat.le_refl _) _).alloc (by rw [World.size_alloc]; omega) _
  have hq0 : W0.heap[w.heap.size]? = some (.cells #[.int .i64 1, .string ⟨nm.toArray⟩, .slice ba bn bc, .int .i64 N, .int .i64 M] 51) := by rw [← hW0]; exact (MapKept.heap_alloc w _).1
  have hq : W1.heap[w.heap.size]? = some (.cells #[.int .i64 1, .string ⟨nm.toArray⟩, .slice ba bn bc, .int .i64 N, .int .i64 M] 51) := by rw [← hW1]; exact ((MapKept.heap_alloc W0 _).2 _ (by omega)).trans hq0
  have hA : W1.heap[W0.heap.size]? = some (.cells #[.int .i64 0, .int .i64 0, .int .i64 0, .slice none 0 0, .slice none 0 0, .bool false] 48) := by rw [← hW1]; exact (MapKept.heap_alloc W0 _).1
  have hD1 := h.below hb1
  have HD : Hid (DiskAt w p b S xs ck ∧ Below w.heap.size w W1 ∧ w.heap.size ≤ W0.heap.size ∧ W0.heap.size < W1.heap.size ∧ DiskAt W1 p b S xs ck ∧ W1.heap[W0.heap.size]? = some (.cells #[.int .i64 0, .int .i64 0, .int .i64 0, .slice none 0 0, .slice none 0 0, .bool false] 48) ∧ W0.heap.size = w.heap.size + 1) := ⟨h, hb1, by omega, by omega, hD1, hA, hs0⟩
  obtain ⟨b0, b1, b2, b3, b4⟩ := box5 hq
  have HNU : Hid (∀ x w, Calls Try.prog 6 #[.int .i64 x] w fun e w' => e = .returned (.int .i64 x) ∧ w' = w) := num_any
  have HCP : Hid (∀ W, Below W1.heap.size W1 W → Calls Try.prog 8 #[.slice ba bn bc] W fun e w' => ∃ a' cap', e = .returned (.slice a' bn cap') ∧ OwnF byU 1 5 w' W.heap.size (.slice a' bn cap') B ∧ Below W.heap.size W w') := fun W hW => copied_any (hB.below (hb1.trans (hW.mono (by omega)))) hbn
  have HOO : Hid (S.Ok ∧ nm.length ≤ 9223372036854775807) := ⟨hO, hl⟩
  obtain ⟨s, hss⟩ : ∃ s, s = (⟨nm.toArray⟩ : ByteArray) := ⟨_, rfl⟩
  have HSS : Hid (s = (⟨nm.toArray⟩ : ByteArray)) := hss
  rw [← hss] at b1 hW0 ⊢
  clear h hO hl _hN _hM hs0 hs1 hb1 hq0 hq hA hD1 hB hbn hss
  obtain ⟨er, her⟩ : ∃ er, (appC S nm B).2.2 = er := ⟨_, rfl⟩
  obtain ⟨n, hn⟩ : ∃ n, (appC S nm B).2.1 = n := ⟨_, rfl⟩
  rw [her, hn]
  have HEN : Hid ((appC S nm B).2.2 = er ∧ (appC S nm B).2.1 = n) := ⟨her, hn⟩
  clear her hn
  go_enter Try.func14, Try.ntmps14
  go_wp2_with fail
  refine wp_region_held_drew (S := (fun W => ∀ i : Nat, W.cell? ⟨w.heap.size, i, none⟩ = W1.cell? ⟨w.heap.size, i, none⟩)) (by kernel_rfl) ?hS1 (fun hHeld => ?rest1)
  case hS1 => (intro i; rfl)
  refine takeD (i := 0) (d := some 27) (v := ?vT2) rfl rfl (by kernel_rfl) (by kernel_rfl) (by kernel_rfl) (fun _ _ _ h => h) (Or.inl ⟨by rfl, ?hyT2⟩) (by assumption) ?rstT2
  case hyT2 => (intro w hSw; (try dsimp only at hSw); go_simp; (try with_reducible rfl))
  try simp only [Act.put, List.setIfInBounds_toArray, List.set_cons_zero, List.set_cons_succ]
  refine takeD (i := 1) (d := some 28) (v := ?vT3) rfl rfl (by kernel_rfl) (by kernel_rfl) (by kernel_rfl) (fun _ _ _ h => h) (Or.inl ⟨by rfl, ?hyT3⟩) (by assumption) ?rstT3
  case hyT3 => (intro w hSw; (try dsimp only at hSw); go_simp; (try with_reducible rfl))
  try simp only [Act.put, List.setIfInBounds_toArray, List.set_cons_zero, List.set_cons_succ]
  refine takeD (i := 2) (d := some 29) (v := ?vT4) rfl rfl (by kernel_rfl) (by kernel_rfl) (by kernel_rfl) (fun _ _ _ h => h) (Or.inl ⟨by rfl, ?hyT4⟩) (by assumption) ?rstT4
  case hyT4 => (intro w hSw; (try dsimp only at hSw); go_simp; (try with_reducible rfl))
  try simp only [Act.put, List.setIfInBounds_toArray, List.set_cons_zero, List.set_cons_succ]
  refine takeD (i := 3) (d := some 30) (v := ?vT5) rfl rfl (by kernel_rfl) (by kernel_rfl) (by kernel_rfl) (fun _ _ _ h => h) (Or.inl ⟨by rfl, ?hyT5⟩) (by assumption) ?rstT5
  case hyT5 => (intro w hSw; (try dsimp only at hSw); go_simp; (try with_reducible rfl))
  try simp only [Act.put, List.setIfInBounds_toArray, List.set_cons_zero, List.set_cons_succ]
  refine takeD (i := 4) (d := some 31) (v := ?vT6) rfl rfl (by kernel_rfl) (by kernel_rfl) (by kernel_rfl) (fun _ _ _ h => h) (Or.inl ⟨by rfl, ?hyT6⟩) (by assumption) ?rstT6
  case hyT6 => (intro w hSw; (try dsimp only at hSw); go_simp; (try with_reducible rfl))
  try simp only [Act.put, List.setIfInBounds_toArray, List.set_cons_zero, List.set_cons_succ]
  refine wpAnyH_ready (rs := [5]) (by kernel_rfl) (by simp) ?_
  refine AllReadyH.cons rfl (fun K hK => ?_) AllReadyH.nil
  go_simp
  refine (HCP.out _ (below_drewN (Below.refl _ _) 1)).mono ?_
  rintro e2 w2 ⟨a2, c2, rfl, ho2, hb2⟩
  have hcur : Below W1.heap.size W1 w2 := (below_drewN (Below.refl _ _) 1).trans hb2
  have HO2 : Hid (Rw byU 1 w2 a2 bn c2 B) := ho2.rw_ layU
  clear ho2 hb2
  clear hHeld
  refine hK.out _ _ ?hS7 (fun hHeld => ?rest7)
  case hS7 => (intro i; exact hcur.cell (p := ⟨w.heap.size, i, none⟩) (by have := HD.out.2.2.1; have := HD.out.2.2.2.1; show w.heap.size < W1.heap.size; omega))
  clear hK K
  try simp only [Act.put, List.setIfInBounds_toArray, List.set_cons_zero, List.set_cons_succ]
  refine wpAnyH_ready (rs := [6]) (by kernel_rfl) (by simp) ?_
  refine AllReadyH.cons rfl (fun K hK => ?_) AllReadyH.nil
  go_simp
  rw [HSS.out]
  refine (append_all (HD.out.2.2.2.2.1.below hcur) HOO.out.1 nm HOO.out.2 HO2.out).mono ?_
  rintro e3 w3 ⟨rfl, hnx⟩
  have HX : Hid (Nxt w2 w3 p b xs (appC S nm B).1) := hnx
  have hC3 : Chg (Blk p b xs) w2 w3 := by obtain ⟨_, _, _, hC, _⟩ := hnx; exact hC
  clear hnx
  clear hHeld
  refine hK.out _ _ ?hS8 (fun hHeld => ?rest8)
  case hS8 => (intro i; exact (hC3.cell (p := ⟨w.heap.size, i, none⟩) (by have := HD.out.2.2.1; have := HD.out.2.2.2.1; have := hcur.size; show w.heap.size < w2.heap.size; omega) (fun hg => by have := HD.out.1.lt hg; exact absurd this (Nat.lt_irrefl _))).trans (hcur.cell (p := ⟨w.heap.size, i, none⟩) (by have := HD.out.2.2.1; have := HD.out.2.2.2.1; show w.heap.size < W1.heap.size; omega)))
  clear hK K
  try simp only [Act.put, List.setIfInBounds_toArray, List.set_cons_zero, List.set_cons_succ]
  refine takeD (i := 7) (d := some 26) (v := ?vT9) rfl rfl (by kernel_rfl) (by kernel_rfl) (by kernel_rfl) (fun _ _ _ h => h) (Or.inl ⟨by rfl, ?hyT9⟩) (by assumption) ?rstT9
  case hyT9 => (intro w hSw; (try dsimp only at hSw); go_simp; (try with_reducible rfl))
  try simp only [Act.put, List.setIfInBounds_toArray, List.set_cons_zero, List.set_cons_succ]
  refine takeD (i := 8) (d := some 34) (v := ?vT10) rfl rfl (by kernel_rfl) (by kernel_rfl) (by kernel_rfl) (fun _ _ _ h => h) (Or.inl ⟨by rfl, ?hyT10⟩) (by assumption) ?rstT10
  case hyT10 => (intro w hSw; (try dsimp only at hSw); go_simp; (try with_reducible rfl))
  try simp only [Act.put, List.setIfInBounds_toArray, List.set_cons_zero, List.set_cons_succ]
  refine takeD (i := 9) (d := some 35) (v := ?vT11) rfl rfl (by kernel_rfl) (by kernel_rfl) (by kernel_rfl) (fun _ _ _ h => h) (Or.inl ⟨by rfl, ?hyT11⟩) (by assumption) ?rstT11
  case hyT11 => (intro w hSw; (try dsimp only at hSw); go_simp; (try with_reducible rfl))
  try simp only [Act.put, List.setIfInBounds_toArray, List.set_cons_zero, List.set_cons_succ]
  refine takeD (i := 10) (d := some 5) (v := ?vT12) rfl rfl (by kernel_rfl) (by kernel_rfl) (by kernel_rfl) (fun _ _ _ h => h) (Or.inl ⟨by rfl, ?hyT12⟩) (by assumption) ?rstT12
  case hyT12 => (intro w hSw; (try dsimp only at hSw); go_simp; (try with_reducible rfl))
  try simp only [Act.put, List.setIfInBounds_toArray, List.set_cons_zero, List.set_cons_succ]
  refine takeD (i := 11) (d := some 6) (v := ?vT13) rfl rfl (by kernel_rfl) (by kernel_rfl) (by kernel_rfl) (fun _ _ _ h => h) (Or.inl ⟨by rfl, ?hyT13⟩) (by assumption) ?rstT13
  case hyT13 => (intro w hSw; (try dsimp only at hSw); go_simp; (try with_reducible rfl))
  try simp only [Act.put, List.setIfInBounds_toArray, List.set_cons_zero, List.set_cons_succ]
  refine wpAnyH_done (by kernel_rfl) ?_ _
  have hAW : w3.heap[W0.heap.size]? = some (.cells #[.int .i64 0, .int .i64 0, .int .i64 0, .slice none 0 0, .slice none 0 0, .bool false] 48) := hC3.block ((hcur.block _ HD.out.2.2.2.1).trans HD.out.2.2.2.2.2.1) (fun hg => by have := HD.out.1.lt hg; have := HD.out.2.2.1; omega)
  clear hHeld
  rw [HEN.out.1, HEN.out.2]
  go_wp2_with fail
  refine (HNU.out _ _).mono ?_
  rintro e wz ⟨rfl, hz⟩
  rw [hz]
  clear hz wz
  obtain ⟨W9, hW9, hh9, hC9⟩ := set6 hAW (.int .i64 er) (.int .i64 n) (.int .i64 0) (.slice none 0 0) (.slice none 0 0) (.bool false)
  obtain ⟨y0, y1, y2, y3, y4, y5⟩ := box6 hAW
  have k0 := Lib.frozen_of_heap hAW 0
  have k1 := Lib.frozen_of_heap hAW 1
  have k2 := Lib.frozen_of_heap hAW 2
  have k3 := Lib.frozen_of_heap hAW 3
  have k4 := Lib.frozen_of_heap hAW 4
  have k5 := Lib.frozen_of_heap hAW 5
  obtain ⟨r0, r1, r2, r3, r4, r5⟩ := box6 hh9
  have HC9 : Hid (Chg (fun g => g = W0.heap.size) w3 W9) := hC9
  clear hAW hh9 hC9
  go_wp2_with fail
  refine bodyPost_ret (v := .agg #[.int .i64 er, .int .i64 n, .int .i64 0, .slice none 0 0, .slice none 0 0, .bool false]) (by simp [results, Try.results14, go_sem, r0, r1, r2, r3, r4, r5]) rfl ?_
  exact ⟨rfl, nxt_wrap HD.out.1 (HD.out.2.1.trans (hcur.mono (Nat.le_trans HD.out.2.2.1 (Nat.le_of_lt HD.out.2.2.2.1)))) HX.out HD.out.2.2.1 (Nat.lt_of_lt_of_le HD.out.2.2.2.1 hcur.size) HC9.out⟩
end Go.Proofs.Ytjcfeaekhefpfaa
