import Derived.Test.YtmeciikfnbbllaaGreatDoorXfE
import Derived.Test.YtmeciikfnbbllaaGreatDoorGaJ
namespace Go.Proofs.YtmeciikfnbbllaaGreatDoor
open Go.RowKit Go.Lib
set_option maxRecDepth 100000
theorem box9' {W : World} {b : Nat} {T : TypeId} {v0 v1 v2 v3 v4 v5 v6 v7 v8 : Value} (h : W.heap[b]? = some (.cells #[v0, v1, v2, v3, v4, v5, v6, v7, v8] T)) : W.cell? ⟨b, 3, none⟩ = some v3 ∧ W.cell? ⟨b, 4, none⟩ = some v4 := ⟨(box9 h).2.2.2.1, (box9 h).2.2.2.2.1⟩
set_option maxHeartbeats 8000000 in
theorem awake_any (w : World) (hB : Bar w) : Calls Tryz.prog 13 #[] w fun e w' => e = .returned (.bool true) ∧ Below w.heap.size w w' := by
  have HJ1 : Hid (∀ W, Calls Tryz.prog 10 #[.int .i64 1, .int .i64 1, .int .i64 3, .string ⟨#[120, 121]⟩] W fun e w' => e = .returned (opVal (⟨1, 1, 1, 3, ⟨#[120, 121]⟩, [], 0, 0, false⟩ : OpV) (.slice none 0 0)) ∧ Below W.heap.size W w') := fun W => ins_any 1 1 3 ⟨#[120, 121]⟩ W
  have HJ2 : Hid (∀ W, Calls Tryz.prog 10 #[.int .i64 2, .int .i64 1, .int .i64 3, .string ⟨#[97, 98, 99]⟩] W fun e w' => e = .returned (opVal (⟨2, 1, 1, 3, ⟨#[97, 98, 99]⟩, [], 0, 0, false⟩ : OpV) (.slice none 0 0)) ∧ Below W.heap.size W w') := fun W => ins_any 2 1 3 ⟨#[97, 98, 99]⟩ W
  have HJ3 : Hid (∀ W, Calls Tryz.prog 10 #[.int .i64 1, .int .i64 1, .int .i64 5, .string ⟨#[120]⟩] W fun e w' => e = .returned (opVal (⟨1, 1, 1, 5, ⟨#[120]⟩, [], 0, 0, false⟩ : OpV) (.slice none 0 0)) ∧ Below W.heap.size W w') := fun W => ins_any 1 1 5 ⟨#[120]⟩ W
  have HJ4 : Hid (∀ W, Calls Tryz.prog 10 #[.int .i64 1, .int .i64 1, .int .i64 3, .string ⟨#[97, 98, 99]⟩] W fun e w' => e = .returned (opVal (⟨1, 1, 1, 3, ⟨#[97, 98, 99]⟩, [], 0, 0, false⟩ : OpV) (.slice none 0 0)) ∧ Below W.heap.size W w') := fun W => ins_any 1 1 3 ⟨#[97, 98, 99]⟩ W
  have HJ5 : Hid (∀ W, Calls Tryz.prog 10 #[.int .i64 2, .int .i64 1, .int .i64 3, .string ⟨#[120]⟩] W fun e w' => e = .returned (opVal (⟨2, 1, 1, 3, ⟨#[120]⟩, [], 0, 0, false⟩ : OpV) (.slice none 0 0)) ∧ Below W.heap.size W w') := fun W => ins_any 2 1 3 ⟨#[120]⟩ W
  have HI1 : Hid (∀ W, Below w.heap.size w W → Calls Tryz.prog 18 #[opVal (⟨1, 1, 1, 3, ⟨#[120, 121]⟩, [], 0, 0, false⟩ : OpV) (.slice none 0 0), opVal (⟨2, 1, 1, 3, ⟨#[97, 98, 99]⟩, [], 0, 0, false⟩ : OpV) (.slice none 0 0), .bool true] W fun e w' => ∃ va vm vc, e = .returned (.tuple #[opVal (⟨1, 1, 1, 6, ⟨#[120, 121]⟩, [], 0, 0, false⟩ : OpV) (.slice va vm vc), .int .i64 0]) ∧ Below W.heap.size W w') := fun W hb => by
    refine (Include_any (o := (⟨1, 1, 1, 3, ⟨#[120, 121]⟩, [], 0, 0, false⟩ : OpV)) (o2 := (⟨2, 1, 1, 3, ⟨#[97, 98, 99]⟩, [], 0, 0, false⟩ : OpV)) (a := none) (m := 0) (cap := 0) (b := none) (m2 := 0) (cap2 := 0) (rng_of_rw (rw_nil W)) (rng_of_rw (rw_nil W)) (by simp [ByteArray.size]) (by simp [ByteArray.size]) (hB.below hb)).mono ?_
    rintro e w1 ⟨va, vm, vc, rfl, _, hb1⟩
    rw [show xInclude (⟨1, 1, 1, 3, ⟨#[120, 121]⟩, [], 0, 0, false⟩ : OpV) (⟨2, 1, 1, 3, ⟨#[97, 98, 99]⟩, [], 0, 0, false⟩ : OpV) true = ((⟨1, 1, 1, 6, ⟨#[120, 121]⟩, [], 0, 0, false⟩ : OpV), 0) by kernel_rfl]
    exact ⟨va, vm, vc, rfl, hb1⟩
  have HI2 : Hid (∀ W, Below w.heap.size w W → Calls Tryz.prog 18 #[opVal (⟨1, 1, 1, 3, ⟨#[120, 121]⟩, [], 0, 0, false⟩ : OpV) (.slice none 0 0), opVal (⟨2, 1, 1, 3, ⟨#[97, 98, 99]⟩, [], 0, 0, false⟩ : OpV) (.slice none 0 0), .bool false] W fun e w' => ∃ va vm vc, e = .returned (.tuple #[opVal (⟨1, 1, 1, 3, ⟨#[120, 121]⟩, [], 0, 0, false⟩ : OpV) (.slice va vm vc), .int .i64 0]) ∧ Below W.heap.size W w') := fun W hb => by
    refine (Include_any (o := (⟨1, 1, 1, 3, ⟨#[120, 121]⟩, [], 0, 0, false⟩ : OpV)) (o2 := (⟨2, 1, 1, 3, ⟨#[97, 98, 99]⟩, [], 0, 0, false⟩ : OpV)) (a := none) (m := 0) (cap := 0) (b := none) (m2 := 0) (cap2 := 0) (rng_of_rw (rw_nil W)) (rng_of_rw (rw_nil W)) (by simp [ByteArray.size]) (by simp [ByteArray.size]) (hB.below hb)).mono ?_
    rintro e w1 ⟨va, vm, vc, rfl, _, hb1⟩
    rw [show xInclude (⟨1, 1, 1, 3, ⟨#[120, 121]⟩, [], 0, 0, false⟩ : OpV) (⟨2, 1, 1, 3, ⟨#[97, 98, 99]⟩, [], 0, 0, false⟩ : OpV) false = ((⟨1, 1, 1, 3, ⟨#[120, 121]⟩, [], 0, 0, false⟩ : OpV), 0) by kernel_rfl]
    exact ⟨va, vm, vc, rfl, hb1⟩
  have HX : Hid (∀ W, Below w.heap.size w W → Calls Tryz.prog 19 #[opVal (⟨1, 1, 1, 5, ⟨#[120]⟩, [], 0, 0, false⟩ : OpV) (.slice none 0 0), opVal (⟨2, 1, 1, 3, ⟨#[97, 98, 99]⟩, [], 0, 0, false⟩ : OpV) (.slice none 0 0)] W fun e w' => ∃ va vm vc, e = .returned (.tuple #[opVal op0 (.slice va vm vc), .int .i64 23]) ∧ Below W.heap.size W w') := fun W hb => by
    refine (Exclude_any (o := (⟨1, 1, 1, 5, ⟨#[120]⟩, [], 0, 0, false⟩ : OpV)) (o2 := (⟨2, 1, 1, 3, ⟨#[97, 98, 99]⟩, [], 0, 0, false⟩ : OpV)) (a := none) (m := 0) (cap := 0) (b := none) (m2 := 0) (cap2 := 0) (rng_of_rw (rw_nil W)) (rng_of_rw (rw_nil W)) (by simp [ByteArray.size]) (by simp [ByteArray.size]) (hB.below hb)).mono ?_
    rintro e w1 ⟨va, vm, vc, rfl, _, hb1⟩
    rw [show xExclude (⟨1, 1, 1, 5, ⟨#[120]⟩, [], 0, 0, false⟩ : OpV) (⟨2, 1, 1, 3, ⟨#[97, 98, 99]⟩, [], 0, 0, false⟩ : OpV) = (op0, 23) by kernel_rfl]
    exact ⟨va, vm, vc, rfl, hb1⟩
  have HT : Hid (∀ W, Below w.heap.size w W → Calls Tryz.prog 20 #[opVal (⟨1, 1, 1, 3, ⟨#[97, 98, 99]⟩, [], 0, 0, false⟩ : OpV) (.slice none 0 0), opVal (⟨2, 1, 1, 3, ⟨#[120]⟩, [], 0, 0, false⟩ : OpV) (.slice none 0 0)] W fun e w' => ∃ va vm vc ya ym yc, e = .returned (.tuple #[opVal (⟨2, 1, 1, 3, ⟨#[120]⟩, [], 0, 0, false⟩ : OpV) (.slice va vm vc), opVal (⟨1, 1, 1, 4, ⟨#[97, 98, 99]⟩, [], 0, 0, false⟩ : OpV) (.slice ya ym yc), .int .i64 0]) ∧ Below W.heap.size W w') := fun W hb => by
    refine (Transpose_any (o := (⟨1, 1, 1, 3, ⟨#[97, 98, 99]⟩, [], 0, 0, false⟩ : OpV)) (o2 := (⟨2, 1, 1, 3, ⟨#[120]⟩, [], 0, 0, false⟩ : OpV)) (a := none) (m := 0) (cap := 0) (b := none) (m2 := 0) (cap2 := 0) (rng_of_rw (rw_nil W)) (rng_of_rw (rw_nil W)) (by simp [ByteArray.size]) (by simp [ByteArray.size]) (hB.below hb)).mono ?_
    rintro e w1 ⟨va, vm, vc, ya, ym, yc, rfl, _, _, hb1⟩
    rw [show xTranspose (⟨1, 1, 1, 3, ⟨#[97, 98, 99]⟩, [], 0, 0, false⟩ : OpV) (⟨2, 1, 1, 3, ⟨#[120]⟩, [], 0, 0, false⟩ : OpV) = (((⟨2, 1, 1, 3, ⟨#[120]⟩, [], 0, 0, false⟩ : OpV), (⟨1, 1, 1, 4, ⟨#[97, 98, 99]⟩, [], 0, 0, false⟩ : OpV)), 0) by kernel_rfl]
    exact ⟨va, vm, vc, ya, ym, yc, rfl, hb1⟩
  have HN : Hid (∀ (x : Int) W, Calls Tryz.prog 11 #[.int .i64 x] W fun r w' => r = .returned (.int .i64 x) ∧ W = w') := fun x W => (num_any x W).mono fun e w' h => ⟨h.1, h.2.symm⟩
  clear hB
  simp only [opVal, op0] at HJ1 HJ2 HJ3 HJ4 HJ5 HI1 HI2 HX HT
  go_enter Tryz.func13, Tryz.ntmps13
  go_wp2_with fail
  refine (HJ1.out _).mono ?_
  rintro e w1 ⟨rfl, h1⟩
  go_wp2_with fail
  refine (HJ2.out _).mono ?_
  rintro e w2 ⟨rfl, h2⟩
  have hb2 := h1.trans (h2.mono h1.size)
  go_wp2_with fail
  refine (HI1.out _ hb2).mono ?_
  rintro e w3 ⟨va, vm, vc, rfl, h3⟩
  have hb3 := hb2.trans (h3.mono hb2.size)
  clear h1 h2 h3 hb2 HI1 w1 w2
  go_upto_region 2 with fail
  obtain ⟨W1, hW1⟩ : ∃ W1, w3.alloc (Obj.cells #[.int .i64 1, .int .i64 1, .int .i64 1, .int .i64 6, .string ⟨#[120, 121]⟩, .slice va vm vc, .int .i64 0, .int .i64 0, .bool false] 33) = W1 := ⟨_, rfl⟩
  have hX1 : W1.heap[w3.heap.size]? = some (Obj.cells #[.int .i64 1, .int .i64 1, .int .i64 1, .int .i64 6, .string ⟨#[120, 121]⟩, .slice va vm vc, .int .i64 0, .int .i64 0, .bool false] 33) := by rw [← hW1]; exact alloc_last _ _ _ rfl
  have hb4 : Below w.heap.size w W1 := by rw [← hW1]; exact hb3.alloc hb3.size _
  rw [hW1]
  clear hW1
  obtain ⟨k3, k4⟩ := box9' hX1
  go_wp2_with fail
  refine (HN.out _ _).mono ?_
  rintro e w4 ⟨rfl, rfl⟩
  go_wp2_with fail
  refine (HJ1.out _).mono ?_
  rintro e w4 ⟨rfl, h1⟩
  clear k3 k4 hX1
  go_wp2_with fail
  refine (HJ2.out _).mono ?_
  rintro e w5 ⟨rfl, h2⟩
  have hb5 := (hb4.trans (h1.mono hb4.size))
  have hb6 := hb5.trans (h2.mono hb5.size)
  go_wp2_with fail
  refine (HI2.out _ hb6).mono ?_
  rintro e w6 ⟨ua, um, uc, rfl, h3⟩
  have hb7 := hb6.trans (h3.mono hb6.size)
  clear h1 h2 h3 hb5 hb6 HI2 hb4 hb3
  go_upto_region 5 with fail
  obtain ⟨W2, hW2⟩ : ∃ W2, w6.alloc (Obj.cells #[.int .i64 1, .int .i64 1, .int .i64 1, .int .i64 3, .string ⟨#[120, 121]⟩, .slice ua um uc, .int .i64 0, .int .i64 0, .bool false] 33) = W2 := ⟨_, rfl⟩
  have hX2 : W2.heap[w6.heap.size]? = some (Obj.cells #[.int .i64 1, .int .i64 1, .int .i64 1, .int .i64 3, .string ⟨#[120, 121]⟩, .slice ua um uc, .int .i64 0, .int .i64 0, .bool false] 33) := by rw [← hW2]; exact alloc_last _ _ _ rfl
  have hb8 : Below w.heap.size w W2 := by rw [← hW2]; exact hb7.alloc hb7.size _
  rw [hW2]
  clear hW2
  obtain ⟨k3, k4⟩ := box9' hX2
  go_wp2_with fail
  refine (HN.out _ _).mono ?_
  rintro e w7 ⟨rfl, rfl⟩
  go_wp2_with fail
  refine (HJ3.out _).mono ?_
  rintro e w7 ⟨rfl, h1⟩
  clear k3 k4 hX2
  go_wp2_with fail
  refine (HJ2.out _).mono ?_
  rintro e w8 ⟨rfl, h2⟩
  have hb9 := (hb8.trans (h1.mono hb8.size))
  have hb10 := hb9.trans (h2.mono hb9.size)
  go_wp2_with fail
  refine (HX.out _ hb10).mono ?_
  rintro e w9 ⟨xa, xm, xc, rfl, h3⟩
  have hb11 := hb10.trans (h3.mono hb10.size)
  clear h1 h2 h3 hb10 hb9 HX hb8 hb7
  go_upto_region 8 with fail
  obtain ⟨W3, hW3⟩ : ∃ W3, w9.alloc (Obj.cells #[.int .i64 0, .int .i64 0, .int .i64 0, .int .i64 0, .string ⟨#[]⟩, .slice xa xm xc, .int .i64 0, .int .i64 0, .bool false] 33) = W3 := ⟨_, rfl⟩
  have hb12 : Below w.heap.size w W3 := by rw [← hW3]; exact hb11.alloc hb11.size _
  rw [hW3]
  clear hW3
  go_wp2_with fail
  refine (HJ4.out _).mono ?_
  rintro e w10 ⟨rfl, h1⟩
  go_wp2_with fail
  refine (HJ5.out _).mono ?_
  rintro e w11 ⟨rfl, h2⟩
  have hb13 := (hb12.trans (h1.mono hb12.size))
  have hb14 := hb13.trans (h2.mono hb13.size)
  go_wp2_with fail
  refine (HT.out _ hb14).mono ?_
  rintro e w12 ⟨ya, ym, yc, za, zm, zc, rfl, h3⟩
  have hb15 := hb14.trans (h3.mono hb14.size)
  clear h1 h2 h3 hb14 hb13 HT hb12 hb11
  go_upto_region 9 with fail
  obtain ⟨W4, hW4⟩ : ∃ W4, (w12.alloc (Obj.cells #[.int .i64 2, .int .i64 1, .int .i64 1, .int .i64 3, .string ⟨#[120]⟩, .slice ya ym yc, .int .i64 0, .int .i64 0, .bool false] 33)).alloc (Obj.cells #[.int .i64 1, .int .i64 1, .int .i64 1, .int .i64 4, .string ⟨#[97, 98, 99]⟩, .slice za zm zc, .int .i64 0, .int .i64 0, .bool false] 33) = W4 := ⟨_, rfl⟩
  have hX3 : W4.heap[w12.heap.size]? = some (Obj.cells #[.int .i64 2, .int .i64 1, .int .i64 1, .int .i64 3, .string ⟨#[120]⟩, .slice ya ym yc, .int .i64 0, .int .i64 0, .bool false] 33) := by rw [← hW4]; exact (Below.heap_alloc _ _ _ (by simp)).trans (alloc_last _ _ _ rfl)
  have hX4 : W4.heap[w12.heap.size + 1]? = some (Obj.cells #[.int .i64 1, .int .i64 1, .int .i64 1, .int .i64 4, .string ⟨#[97, 98, 99]⟩, .slice za zm zc, .int .i64 0, .int .i64 0, .bool false] 33) := by rw [← hW4]; exact alloc_last _ _ _ (by simp)
  have hb16 : Below w.heap.size w W4 := by rw [← hW4]; exact (hb15.alloc hb15.size _).alloc (by have := hb15.size; simp; omega) _
  rw [hW4]
  clear hW4
  obtain ⟨k3, k4⟩ := box9' hX3
  obtain ⟨j3, j4⟩ := box9' hX4
  go_wp2_with fail
  refine (HN.out _ _).mono ?_
  rintro e w13 ⟨rfl, rfl⟩
  go_wp2_with fail
  refine (HN.out _ _).mono ?_
  rintro e w13 ⟨rfl, rfl⟩
  go_wp2_with fail
  go_ret
  exact ⟨rfl, hb16⟩
end Go.Proofs.YtmeciikfnbbllaaGreatDoor
