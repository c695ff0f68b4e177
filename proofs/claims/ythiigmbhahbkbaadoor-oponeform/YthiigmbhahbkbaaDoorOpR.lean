import Derived.Test.YthiigmbhahbkbaaDoorOpQ
namespace Go.Proofs.YthiigmbhahbkbaaDoor
open Go.RowKit Go.Lib Sp
set_option maxRecDepth 100000

theorem quoted_ab : quoted ⟨#[97, 98]⟩ = [34, 97, 98, 34] := by kernel_rfl
theorem itoa_0 : Lib.itoa 0 = [48] := by simp [Lib.itoa, Lib.decDigits]
theorem itoa_1 : Lib.itoa 1 = [49] := by simp [Lib.itoa, Lib.decDigits]
theorem line_ab : idB 1 1 ++ [32] ++ insB 0 ⟨#[97, 98]⟩ = [49, 46, 49, 32, 105, 110, 115, 32, 48, 32, 34, 97, 98, 34] := by
  unfold idB insB
  rw [if_neg (by decide), itoa_0, itoa_1, quoted_ab]
  rfl
theorem own_ab (total : Int) (h : total = 0) : opCheck ⟨1, 1, 1, 0, ⟨#[97, 98]⟩, [], 0, 0, false⟩ total = 0 := by
  subst h
  rw [opCheck_ins (by decide) (.inr rfl)]; simp only [insP, check_ab]; rw [if_neg (by decide), if_neg (by decide), if_neg (by decide), if_neg (by decide), if_neg (by decide)]
theorem own_ab2 : ownP ⟨1, 1, 1, 0, ⟨#[97, 98]⟩, [], 0, 0, false⟩ = 0 := by
  unfold ownP
  rw [if_pos (by decide)]
  exact own_ab 0 rfl

set_option maxHeartbeats 1000000 in
theorem opFixed_any (w : World) (hw : Bar w) (hp : Pow w) (hd : Deb w) : Calls Tryd.prog 23 #[] w fun e w' => e = .returned (.bool true) ∧ Below w.heap.size w w' := by
  have HC : Hid (∀ w' : World, Below w.heap.size w w' → Calls Tryd.prog 31 #[opVal ⟨1, 1, 1, 0, ⟨#[97, 98]⟩, [], 0, 0, false⟩ (.slice none 0 0), .int .i64 0] w' fun e w'' => e = .returned (.int .i64 0) ∧ Below w'.heap.size w' w'') := fun w' hb => by
    have h := opCheck_any (o := ⟨1, 1, 1, 0, ⟨#[97, 98]⟩, [], 0, 0, false⟩) (total := 0) (rng_nil w') (Nat.le_of_ble_eq_true rfl) (hw.below hb)
    rw [own_ab 0 rfl] at h
    exact h
  have HD : Hid (∀ w' : World, Below w.heap.size w w' → Calls Tryd.prog 48 #[opVal ⟨1, 1, 1, 0, ⟨#[97, 98]⟩, [], 0, 0, false⟩ (.slice none 0 0)] w' fun e w'' => e = .returned (.int .i64 2) ∧ Below w'.heap.size w' w'') := fun w' hb => by
    have h := width_any (o := ⟨1, 1, 1, 0, ⟨#[97, 98]⟩, [], 0, 0, false⟩) (v := .slice none 0 0) (w := w') (Nat.le_of_ble_eq_true rfl) (hw.below hb)
    have e : widthP ⟨1, 1, 1, 0, ⟨#[97, 98]⟩, [], 0, 0, false⟩ = 2 := by unfold widthP; rw [if_pos rfl]; simp only [check_ab]
    rw [e] at h
    exact h
  have HP : Hid (∀ w' : World, Below w.heap.size w w' → Calls Tryd.prog 25 #[opVal ⟨1, 1, 1, 0, ⟨#[97, 98]⟩, [], 0, 0, false⟩ (.slice none 0 0)] w' fun e w'' => e = .returned (.tuple #[.string ⟨#[49, 46, 49, 32, 105, 110, 115, 32, 48, 32, 34, 97, 98, 34]⟩, .int .i64 0]) ∧ Below w'.heap.size w' w'') := fun w' hb => by
    have h := print_ins (c := 1) (n := 1) (p := 0) (s := ⟨#[97, 98]⟩) (.inr rfl) (by decide) (by decide) (Nat.le_of_ble_eq_true rfl) (by rw [quoted_ab]; exact Nat.le_of_ble_eq_true rfl) own_ab2 w' (hw.below hb) (hp.below hb) (hd.below hb)
    rw [line_ab] at h
    exact h
  clear hw hp hd
  simp only [opVal] at *
  have hw2 := (Below.refl w.heap.size w).alloc (Nat.le_refl _) (Obj.cells #[.int .i64 1, .int .i64 1, .int .i64 1, .int .i64 0, .string ⟨#[97, 98]⟩, .slice none 0 0, .int .i64 0, .int .i64 0, .bool false] 31)
  go_enter Tryd.func23, Tryd.ntmps23
  go_wp2_with fail
  refine (HC.out _ hw2).mono ?_
  rintro e w1 ⟨rfl, hb1⟩
  have hB1 := hw2.trans (hb1.mono hw2.size)
  have d0 : w1.cell? ⟨w.heap.size, 0, none⟩ = some (.int .i64 1) := (hb1.cell (p := ⟨w.heap.size, 0, none⟩) (by simp)).trans (World.cell?_alloc_mark ..)
  have d1 : w1.cell? ⟨w.heap.size, 1, none⟩ = some (.int .i64 1) := (hb1.cell (p := ⟨w.heap.size, 1, none⟩) (by simp)).trans (World.cell?_alloc_mark ..)
  have d2 : w1.cell? ⟨w.heap.size, 2, none⟩ = some (.int .i64 1) := (hb1.cell (p := ⟨w.heap.size, 2, none⟩) (by simp)).trans (World.cell?_alloc_mark ..)
  have d3 : w1.cell? ⟨w.heap.size, 3, none⟩ = some (.int .i64 0) := (hb1.cell (p := ⟨w.heap.size, 3, none⟩) (by simp)).trans (World.cell?_alloc_mark ..)
  have d4 : w1.cell? ⟨w.heap.size, 4, none⟩ = some (.string ⟨#[97, 98]⟩) := (hb1.cell (p := ⟨w.heap.size, 4, none⟩) (by simp)).trans (World.cell?_alloc_mark ..)
  have d5 : w1.cell? ⟨w.heap.size, 5, none⟩ = some (.slice none 0 0) := (hb1.cell (p := ⟨w.heap.size, 5, none⟩) (by simp)).trans (World.cell?_alloc_mark ..)
  have d6 : w1.cell? ⟨w.heap.size, 6, none⟩ = some (.int .i64 0) := (hb1.cell (p := ⟨w.heap.size, 6, none⟩) (by simp)).trans (World.cell?_alloc_mark ..)
  have d7 : w1.cell? ⟨w.heap.size, 7, none⟩ = some (.int .i64 0) := (hb1.cell (p := ⟨w.heap.size, 7, none⟩) (by simp)).trans (World.cell?_alloc_mark ..)
  have d8 : w1.cell? ⟨w.heap.size, 8, none⟩ = some (.bool false) := (hb1.cell (p := ⟨w.heap.size, 8, none⟩) (by simp)).trans (World.cell?_alloc_mark ..)
  go_wp2_with fail
  refine (HD.out _ hB1).mono ?_
  rintro e w2 ⟨rfl, hb2⟩
  have hB2 := hB1.trans (hb2.mono hB1.size)
  have hc2 := hb1.trans (hb2.mono hb1.size)
  have f0 : w2.cell? ⟨w.heap.size, 0, none⟩ = some (.int .i64 1) := (hc2.cell (p := ⟨w.heap.size, 0, none⟩) (by simp)).trans (World.cell?_alloc_mark ..)
  have f1 : w2.cell? ⟨w.heap.size, 1, none⟩ = some (.int .i64 1) := (hc2.cell (p := ⟨w.heap.size, 1, none⟩) (by simp)).trans (World.cell?_alloc_mark ..)
  have f2 : w2.cell? ⟨w.heap.size, 2, none⟩ = some (.int .i64 1) := (hc2.cell (p := ⟨w.heap.size, 2, none⟩) (by simp)).trans (World.cell?_alloc_mark ..)
  have f3 : w2.cell? ⟨w.heap.size, 3, none⟩ = some (.int .i64 0) := (hc2.cell (p := ⟨w.heap.size, 3, none⟩) (by simp)).trans (World.cell?_alloc_mark ..)
  have f4 : w2.cell? ⟨w.heap.size, 4, none⟩ = some (.string ⟨#[97, 98]⟩) := (hc2.cell (p := ⟨w.heap.size, 4, none⟩) (by simp)).trans (World.cell?_alloc_mark ..)
  have f5 : w2.cell? ⟨w.heap.size, 5, none⟩ = some (.slice none 0 0) := (hc2.cell (p := ⟨w.heap.size, 5, none⟩) (by simp)).trans (World.cell?_alloc_mark ..)
  have f6 : w2.cell? ⟨w.heap.size, 6, none⟩ = some (.int .i64 0) := (hc2.cell (p := ⟨w.heap.size, 6, none⟩) (by simp)).trans (World.cell?_alloc_mark ..)
  have f7 : w2.cell? ⟨w.heap.size, 7, none⟩ = some (.int .i64 0) := (hc2.cell (p := ⟨w.heap.size, 7, none⟩) (by simp)).trans (World.cell?_alloc_mark ..)
  have f8 : w2.cell? ⟨w.heap.size, 8, none⟩ = some (.bool false) := (hc2.cell (p := ⟨w.heap.size, 8, none⟩) (by simp)).trans (World.cell?_alloc_mark ..)
  clear d0 d1 d2 d3 d4 d5 d6 d7 d8
  go_wp2_with fail
  refine (HP.out _ hB2).mono ?_
  rintro e w3 ⟨rfl, hb3⟩
  have hB3 := hB2.trans (hb3.mono hB2.size)
  go_wp2_with fail
  go_ret
  exact ⟨rfl, hB3⟩

set_option maxHeartbeats 400000 in
theorem opNames_any (w : World) (hw : Bar w) (hp : Pow w) (hd : Deb w) : Calls Tryd.prog 5 #[] w fun e w' => e = .returned (.bool true) ∧ Below w.heap.size w w' := by
  go_enter Tryd.func5, Tryd.ntmps5
  go_wp2_with fail
  refine (opFixed_any _ hw hp hd).mono ?_
  rintro e w1 ⟨rfl, hb1⟩
  go_wp2_with fail
  go_ret
  exact ⟨rfl, hb1⟩
end Go.Proofs.YthiigmbhahbkbaaDoor
