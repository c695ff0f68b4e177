import Derived.Test.YtmdnmhdimfglaaaGreatDoorXlH
import Derived.Test.YtmdnmhdimfglaaaGreatDoorXkE
import Derived.Test.YtmdnmhdimfglaaaGreatDoorXgF
import Derived.Deep.Cut
namespace Go.Proofs.YtmdnmhdimfglaaaGreatDoor
open Go.RowKit Go.Lib
set_option maxRecDepth 100000
set_option maxHeartbeats 4000000 in
theorem xformCrosses_any {a : Option Addr} {n cap : Nat} {w : World} {L : List XOp} (h : Scr w a n cap L) :
    Calls Tryz.prog 3 #[.slice a n cap] w fun e w' => e = .returned (.bool true) ∧ Below w.heap.size w w' := by
  have HJ1 : Hid (∀ W, Calls Tryz.prog 6 #[.int .i64 1, .int .i64 1, .int .i64 2, .string ⟨#[69]⟩] W fun e w' => e = .returned (opVal (⟨1, 1, 1, 2, ⟨#[69]⟩, [], 0, 0, false⟩ : OpV) (.slice none 0 0)) ∧ Below W.heap.size W w') := fun W => ins_any 1 1 2 ⟨#[69]⟩ W
  have HJ2 : Hid (∀ W, Calls Tryz.prog 6 #[.int .i64 2, .int .i64 1, .int .i64 2, .string ⟨#[76]⟩] W fun e w' => e = .returned (opVal (⟨2, 1, 1, 2, ⟨#[76]⟩, [], 0, 0, false⟩ : OpV) (.slice none 0 0)) ∧ Below W.heap.size W w') := fun W => ins_any 2 1 2 ⟨#[76]⟩ W
  have HJ3 : Hid (∀ W, Calls Tryz.prog 6 #[.int .i64 2, .int .i64 2, .int .i64 2, .string ⟨#[77]⟩] W fun e w' => e = .returned (opVal (⟨2, 2, 1, 2, ⟨#[77]⟩, [], 0, 0, false⟩ : OpV) (.slice none 0 0)) ∧ Below W.heap.size W w') := fun W => ins_any 2 2 2 ⟨#[77]⟩ W
  have HO : Hid (∀ (W : World) (g1 g2 : Nat), Below w.heap.size w W → W.heap[g1]? = some (.cells (opF ((⟨1, 1, 1, 2, ⟨#[69]⟩, [], 0, 0, false⟩ : OpV), (none, 0, 0))).toArray 34) → W.heap[g2]? = some (.cells (opF ((⟨2, 1, 1, 2, ⟨#[76]⟩, [], 0, 0, false⟩ : OpV), (none, 0, 0)) ++ opF ((⟨2, 2, 1, 2, ⟨#[77]⟩, [], 0, 0, false⟩ : OpV), (none, 0, 0))).toArray 34) → Calls Tryz.prog 5 #[.slice (some ⟨g1, 0, none⟩) 1 1, .slice (some ⟨g2, 0, none⟩) 2 2] W fun e w' => ∃ x1 c1 x2 c2, e = .returned (.tuple #[.slice (some ⟨x1, 0, none⟩) 1 c1, .slice (some ⟨x2, 0, none⟩) 2 c2, .int .i64 0]) ∧ w'.cell? ⟨x1, 3, none⟩ = some (.int .i64 2) ∧ w'.cell? ⟨x2, 3, none⟩ = some (.int .i64 3) ∧ w'.cell? ⟨x2, 12, none⟩ = some (.int .i64 3) ∧ Below W.heap.size W w') := fun W g1 g2 hb h1 h2 => by
    refine (Cross_any (runIn_one h1 (rdy_nil rfl (by simp [ByteArray.size]))) (runIn_two h2 (rdy_nil rfl (by simp [ByteArray.size])) (rdy_nil rfl (by simp [ByteArray.size]))) (by decide) (by decide) (h.bar.below hb)).mono ?_
    rintro e w1 ⟨a1, n1, c1, a2, n2, c2, rfl, r1, r2, hb1⟩
    rw [show xCross [(⟨1, 1, 1, 2, ⟨#[69]⟩, [], 0, 0, false⟩ : OpV)] [(⟨2, 1, 1, 2, ⟨#[76]⟩, [], 0, 0, false⟩ : OpV), (⟨2, 2, 1, 2, ⟨#[77]⟩, [], 0, 0, false⟩ : OpV)] = (([(⟨1, 1, 1, 2, ⟨#[69]⟩, [], 0, 0, false⟩ : OpV)], [(⟨2, 1, 1, 3, ⟨#[76]⟩, [], 0, 0, false⟩ : OpV), (⟨2, 2, 1, 3, ⟨#[77]⟩, [], 0, 0, false⟩ : OpV)]), 0) by kernel_rfl] at r1 r2 ⊢
    obtain ⟨x1, rfl, rfl, q1⟩ := r1.at_ (by simp)
    obtain ⟨x2, rfl, rfl, q2⟩ := r2.at_ (by simp)
    exact ⟨x1, c1, x2, c2, rfl, (q1 0 _ rfl).1, (q2 0 _ rfl).1, (q2 1 _ rfl).1, hb1⟩
  have HN : Hid (∀ W, Calls Tryz.prog 7 #[.int .i64 0] W fun r w' => r = .returned (.int .i64 0) ∧ W = w') := fun W => (num_any 0 W).mono fun e w' h => ⟨h.1, h.2.symm⟩
  have HP : Hid (∀ W, Below w.heap.size w W → Calls Tryz.prog 8 #[.slice a n cap, .int .i64 5, .int .i64 5] W fun e w' => e = .returned (.bool true) ∧ Below W.heap.size W w') := fun W hb => by
    have h1 := h.below hb
    exact played_any h1.row 5 5 (fun W2 hb2 x hx q1 q2 => plays_runs (.inr (.inl (by omega))) (fun W3 hb3 => runs_5 (((h1.ok x hx).below hb2).below hb3) (by omega) ((h1.bar.below hb2).below hb3)))
  clear h
  simp only [opVal] at HJ1 HJ2 HJ3
  simp only [opF, List.cons_append, List.nil_append] at HO
  go_enter Tryz.func3, Tryz.ntmps3
  go_wp2_with fail
  refine (HJ1.out _).mono ?_
  rintro e w1 ⟨rfl, h1⟩
  obtain ⟨W1, hW1⟩ : ∃ V, w1.alloc (Obj.cells #[.int .i64 1, .int .i64 1, .int .i64 1, .int .i64 2, .string ⟨#[69]⟩, .slice none 0 0, .int .i64 0, .int .i64 0, .bool false] 34) = V := ⟨_, rfl⟩
  have hT1 : W1.heap[w1.heap.size]? = some (Obj.cells #[.int .i64 1, .int .i64 1, .int .i64 1, .int .i64 2, .string ⟨#[69]⟩, .slice none 0 0, .int .i64 0, .int .i64 0, .bool false] 34) := by rw [← hW1]; exact heap_alloc_new _ _
  have hb1 : Below w.heap.size w W1 := by rw [← hW1]; exact h1.alloc h1.size _
  have hg1 : w1.heap.size < W1.heap.size := (Array.getElem?_eq_some_iff.1 hT1).1
  go_wp2_with fail
  refine (HJ2.out W1).mono ?_
  rintro e w2 ⟨rfl, h2⟩
  have hb2 := hb1.trans (h2.mono hb1.size)
  have hT2 := (h2.block _ hg1).trans hT1
  have hg2 := Nat.lt_of_lt_of_le hg1 h2.size
  clear h2 hb1 hT1 hW1 hg1
  go_wp2_with fail
  refine (HJ3.out w2).mono ?_
  rintro e w3 ⟨rfl, h3⟩
  have hb3 := hb2.trans (h3.mono hb2.size)
  have hT3 := (h3.block _ hg2).trans hT2
  have hg3 := Nat.lt_of_lt_of_le hg2 h3.size
  clear h3 hb2 hT2 hg2
  obtain ⟨W4, hW4⟩ : ∃ V, w3.alloc (Obj.cells #[.int .i64 2, .int .i64 1, .int .i64 1, .int .i64 2, .string ⟨#[76]⟩, .slice none 0 0, .int .i64 0, .int .i64 0, .bool false, .int .i64 2, .int .i64 2, .int .i64 1, .int .i64 2, .string ⟨#[77]⟩, .slice none 0 0, .int .i64 0, .int .i64 0, .bool false] 34) = V := ⟨_, rfl⟩
  have hT4 : W4.heap[w3.heap.size]? = some (Obj.cells #[.int .i64 2, .int .i64 1, .int .i64 1, .int .i64 2, .string ⟨#[76]⟩, .slice none 0 0, .int .i64 0, .int .i64 0, .bool false, .int .i64 2, .int .i64 2, .int .i64 1, .int .i64 2, .string ⟨#[77]⟩, .slice none 0 0, .int .i64 0, .int .i64 0, .bool false] 34) := by rw [← hW4]; exact heap_alloc_new _ _
  have hc4 : Below w3.heap.size w3 W4 := by rw [← hW4]; exact (Below.refl _ _).alloc (Nat.le_refl _) _
  have hb4 := hb3.trans (hc4.mono hb3.size)
  have hT5 := (hc4.block _ hg3).trans hT3
  go_wp2_with fail
  refine (HO.out W4 _ _ hb4 hT5 hT4).mono ?_
  rintro e w5 ⟨x1, c1, x2, c2, rfl, k1, k2, k3, h5⟩
  have HBX := hb4.trans (h5.mono hb4.size)
  clear h5 hT5 hT4 hT3 hW4 hc4 hb3 hb4 HO h1 hg3
  go_wp2_with fail
  refine (HN.out _).mono ?_
  rintro e w6 ⟨rfl, rfl⟩
  go_wp2_with fail
  refine (HP.out _ HBX).mono ?_
  rintro e w7 ⟨rfl, hb7⟩
  have hB7 := HBX.trans (hb7.mono HBX.size)
  clear k1 k2 k3
  go_wp2_with fail
  go_ret
  exact ⟨rfl, hB7⟩
end Go.Proofs.YtmdnmhdimfglaaaGreatDoor
