import Derived.Test.YtmeciikfnbbllaaGreatDoorXkD
import Derived.Test.YtmeciikfnbbllaaGreatDoorXkE
import Derived.Test.YtmeciikfnbbllaaGreatDoorXgF
import Derived.Deep.Cut
namespace Go.Proofs.YtmeciikfnbbllaaGreatDoor
open Go.RowKit Go.Lib
set_option maxRecDepth 100000
theorem rdy_nil {w : World} {o : OpV} (h : o.l = []) (hs : o.s.size ≤ 281474976710656) : Rdy w (o, (none, 0, 0)) := ⟨by simp only; rw [h]; exact rng_of_rw (rw_nil w), by simp only; rw [h]; decide, hs⟩
set_option maxHeartbeats 4000000 in
theorem xformOvers_any {a : Option Addr} {n cap : Nat} {w : World} {L : List XOp} (h : Scr w a n cap L) :
    Calls Tryz.prog 7 #[.slice a n cap] w fun e w' => e = .returned (.bool true) ∧ Below w.heap.size w w' := by
  have HJ1 : Hid (∀ W, Calls Tryz.prog 10 #[.int .i64 1, .int .i64 1, .int .i64 2, .string ⟨#[120]⟩] W fun e w' => e = .returned (opVal (⟨1, 1, 1, 2, ⟨#[120]⟩, [], 0, 0, false⟩ : OpV) (.slice none 0 0)) ∧ Below W.heap.size W w') := fun W => ins_any 1 1 2 ⟨#[120]⟩ W
  have HJ2 : Hid (∀ W, Calls Tryz.prog 10 #[.int .i64 2, .int .i64 1, .int .i64 2, .string ⟨#[97, 98]⟩] W fun e w' => e = .returned (opVal (⟨2, 1, 1, 2, ⟨#[97, 98]⟩, [], 0, 0, false⟩ : OpV) (.slice none 0 0)) ∧ Below W.heap.size W w') := fun W => ins_any 2 1 2 ⟨#[97, 98]⟩ W
  have HJ3 : Hid (∀ W, Calls Tryz.prog 10 #[.int .i64 2, .int .i64 2, .int .i64 4, .string ⟨#[99]⟩] W fun e w' => e = .returned (opVal (⟨2, 2, 1, 4, ⟨#[99]⟩, [], 0, 0, false⟩ : OpV) (.slice none 0 0)) ∧ Below W.heap.size W w') := fun W => ins_any 2 2 4 ⟨#[99]⟩ W
  have HO : Hid (∀ (W : World) (g : Nat), Below w.heap.size w W → W.heap[g]? = some (.cells (opF ((⟨2, 1, 1, 2, ⟨#[97, 98]⟩, [], 0, 0, false⟩ : OpV), (none, 0, 0)) ++ opF ((⟨2, 2, 1, 4, ⟨#[99]⟩, [], 0, 0, false⟩ : OpV), (none, 0, 0))).toArray 33) → Calls Tryz.prog 14 #[opVal (⟨1, 1, 1, 2, ⟨#[120]⟩, [], 0, 0, false⟩ : OpV) (.slice none 0 0), .bool true, .slice (some ⟨g, 0, none⟩) 2 2] W fun e w' => ∃ va vm vc, e = .returned (.tuple #[opVal (⟨1, 1, 1, 5, ⟨#[120]⟩, [], 0, 0, false⟩ : OpV) (.slice va vm vc), .int .i64 0]) ∧ Below W.heap.size W w') := fun W g hb hg => by
    refine (Over_any (o := (⟨1, 1, 1, 2, ⟨#[120]⟩, [], 0, 0, false⟩ : OpV)) (a := none) (m := 0) (cap := 0) (ear := true) (L := [((⟨2, 1, 1, 2, ⟨#[97, 98]⟩, [], 0, 0, false⟩ : OpV), (none, 0, 0)), ((⟨2, 2, 1, 4, ⟨#[99]⟩, [], 0, 0, false⟩ : OpV), (none, 0, 0))]) (rdy_nil rfl (by simp [ByteArray.size])) (two_ops hg) (fun x hx => ?_) (by decide) (h.bar.below hb)).mono ?_
    · simp at hx
      rcases hx with rfl | rfl
      · exact rdy_nil rfl (by simp [ByteArray.size])
      · exact rdy_nil rfl (by simp [ByteArray.size])
    rintro e w1 ⟨va, vm, vc, rfl, _, hb1⟩
    rw [show xOver (⟨1, 1, 1, 2, ⟨#[120]⟩, [], 0, 0, false⟩ : OpV) true ([(((⟨2, 1, 1, 2, ⟨#[97, 98]⟩, [], 0, 0, false⟩ : OpV), (none, 0, 0)) : OpM), ((⟨2, 2, 1, 4, ⟨#[99]⟩, [], 0, 0, false⟩ : OpV), (none, 0, 0))].map (·.1)) = ((⟨1, 1, 1, 5, ⟨#[120]⟩, [], 0, 0, false⟩ : OpV), 0) by kernel_rfl]
    exact ⟨va, vm, vc, rfl, hb1⟩
  have HN : Hid (∀ W, Calls Tryz.prog 11 #[.int .i64 0] W fun r w' => r = .returned (.int .i64 0) ∧ W = w') := fun W => (num_any 0 W).mono fun e w' h => ⟨h.1, h.2.symm⟩
  have HP : Hid (∀ W, Below w.heap.size w W → Calls Tryz.prog 12 #[.slice a n cap, .int .i64 4, .int .i64 4] W fun e w' => e = .returned (.bool true) ∧ Below W.heap.size W w') := fun W hb => by
    have h1 := h.below hb
    exact played_any h1.row 4 4 (fun W2 hb2 x hx q1 q2 => plays_runs (.inl (by omega)) (fun W3 hb3 => runs_4 (((h1.ok x hx).below hb2).below hb3) (by omega) ((h1.bar.below hb2).below hb3)))
  clear h
  simp only [opVal] at HJ1 HJ2 HJ3 HO
  simp only [opF, List.cons_append, List.nil_append] at HO
  go_enter Tryz.func7, Tryz.ntmps7
  go_wp2_with fail
  refine (HJ1.out _).mono ?_
  rintro e w1 ⟨rfl, h1⟩
  go_wp2_with fail
  refine (HJ2.out _).mono ?_
  rintro e w2 ⟨rfl, h2⟩
  have hb2 := h1.trans (h2.mono h1.size)
  go_wp2_with fail
  refine (HJ3.out _).mono ?_
  rintro e w3 ⟨rfl, h3⟩
  have hb3 := hb2.trans (h3.mono hb2.size)
  clear h1 h2 h3 hb2
  obtain ⟨W1, hW1⟩ : ∃ V, w3.alloc (Obj.cells #[.int .i64 2, .int .i64 1, .int .i64 1, .int .i64 2, .string ⟨#[97, 98]⟩, .slice none 0 0, .int .i64 0, .int .i64 0, .bool false, .int .i64 2, .int .i64 2, .int .i64 1, .int .i64 4, .string ⟨#[99]⟩, .slice none 0 0, .int .i64 0, .int .i64 0, .bool false] 33) = V := ⟨_, rfl⟩
  have hT : W1.heap[w3.heap.size]? = some (Obj.cells #[.int .i64 2, .int .i64 1, .int .i64 1, .int .i64 2, .string ⟨#[97, 98]⟩, .slice none 0 0, .int .i64 0, .int .i64 0, .bool false, .int .i64 2, .int .i64 2, .int .i64 1, .int .i64 4, .string ⟨#[99]⟩, .slice none 0 0, .int .i64 0, .int .i64 0, .bool false] 33) := by rw [← hW1]; exact heap_alloc_new _ _
  have hb4 : Below w.heap.size w W1 := by rw [← hW1]; exact hb3.alloc hb3.size _
  go_wp2_with fail
  refine (HO.out W1 _ hb4 hT).mono ?_
  rintro e w4 ⟨va, vm, vc, rfl, h4⟩
  have hb5 := hb4.trans (h4.mono hb4.size)
  clear h4 hT hW1 hb4 hb3 HO
  go_upto_region 2 with fail
  obtain ⟨W2, hW2⟩ : ∃ V, w4.alloc (Obj.cells #[.int .i64 1, .int .i64 1, .int .i64 1, .int .i64 5, .string ⟨#[120]⟩, .slice va vm vc, .int .i64 0, .int .i64 0, .bool false] 33) = V := ⟨_, rfl⟩
  have hX2 : W2.heap[w4.heap.size]? = some (Obj.cells #[.int .i64 1, .int .i64 1, .int .i64 1, .int .i64 5, .string ⟨#[120]⟩, .slice va vm vc, .int .i64 0, .int .i64 0, .bool false] 33) := by rw [← hW2]; exact heap_alloc_new _ _
  have hb6 : Below w.heap.size w W2 := by rw [← hW2]; exact hb5.alloc hb5.size _
  obtain ⟨k0, k1, k2, k3, k4, k5, k6, k7, k8⟩ := box9 hX2
  rw [hW2]
  clear hX2 hb5 hW2
  go_wp2_with fail
  refine (HN.out _).mono ?_
  rintro e w5 ⟨rfl, rfl⟩
  go_wp2_with fail
  refine (HP.out _ hb6).mono ?_
  rintro e w5 ⟨rfl, hb7⟩
  have hB7 := hb6.trans (hb7.mono hb6.size)
  clear k0 k1 k2 k3 k4 k5 k6 k7 k8
  go_wp2_with fail
  go_ret
  exact ⟨rfl, hB7⟩
end Go.Proofs.YtmeciikfnbbllaaGreatDoor
