import Derived.Test.YthiigmbhahbkbaaDoorOpO
import Derived.Test.YthiigmbhahbkbaaDoorOpI
namespace Go.Proofs.YthiigmbhahbkbaaDoor
open Go.RowKit Go.Lib Sp
set_option maxRecDepth 100000

set_option maxHeartbeats 1000000 in
/-- Print of a right insert. -/
theorem print_ins {c n p : Int} {s : ByteArray} (hI : (c = 0 ∧ n = 0) ∨ isIdP c n = true) (hp0 : 0 ≤ p) (hp1 : p ≤ 1048576) (hs : s.size ≤ 1048576) (hq : (quoted s).length ≤ 1099511627776) (hok : ownP ⟨c, n, 1, p, s, [], 0, 0, false⟩ = 0) (w : World) (hw : Bar w) (hp : Pow w) (hd : Deb w) :
    Calls Tryd.prog 25 #[opVal ⟨c, n, 1, p, s, [], 0, 0, false⟩ (.slice none 0 0)] w fun e w' => e = .returned (.tuple #[.string (bs (idB c n ++ [32] ++ insB p s)), .int .i64 0]) ∧ Below w.heap.size w w' := by
  have HO : Hid (∀ (w' : World), Below w.heap.size w w' → Calls Tryd.prog 46 #[opVal ⟨c, n, 1, p, s, [], 0, 0, false⟩ (.slice none 0 0)] w' fun e w'' => e = .returned (.int .i64 0) ∧ Below w'.heap.size w' w'') := fun w' hb => by
    have h := ownError_any (o := ⟨c, n, 1, p, s, [], 0, 0, false⟩) (rng_nil w') (show s.size ≤ 9223372036854775807 by omega) (hw.below hb)
    rw [hok] at h
    exact h
  have hcn : 0 ≤ c ∧ c ≤ 1048576 ∧ 0 ≤ n ∧ n ≤ 1048576 := by
    rcases hI with ⟨h1, h2⟩ | h
    · omega
    · have := of_decide_eq_true h; omega
  have HP : Hid (∀ (w' : World), Below w.heap.size w w' → Calls Tryd.prog 50 #[.agg #[.int .i64 c, .int .i64 n]] w' fun e w'' => e = .returned (.string (bs (idB c n))) ∧ Below w'.heap.size w' w'') := fun w' hb => printID_any hcn.1 hcn.2.1 hcn.2.2.1 hcn.2.2.2 w' (hp.below hb)
  have HW : Hid (∀ (w' : World), Below w.heap.size w w' → Calls Tryd.prog 51 #[opVal ⟨c, n, 1, p, s, [], 0, 0, false⟩ (.slice none 0 0)] w' fun e w'' => e = .returned (.string (bs (insB p s))) ∧ Below w'.heap.size w' w'') := fun w' hb => printWord_1 (c := c) (n := n) (p := p) (s := s) (l := []) (tc := 0) (tn := 0) (on := false) (v := .slice none 0 0) hp0 hp1 (by omega) hq w' (hp.below hb) (hd.below hb)
  have q1 : (bs (idB c n)).size ≤ 100 := by
    rw [bs_size]
    unfold idB
    have h1 := Lib.itoa_length_le c (by omega) (by omega)
    have h2 := Lib.itoa_length_le n (by omega) (by omega)
    split
    · simp
    · simp only [List.length_append, List.length_cons, List.length_nil]; omega
  have q2 : (bs (insB p s)).size ≤ 1099511627876 := by
    rw [bs_size]
    unfold insB
    have h1 := Lib.itoa_length_le p (by omega) (by omega)
    simp only [List.length_append, List.length_cons, List.length_nil]; omega
  have HR : Hid (bs (idB c n) ++ ⟨#[32]⟩ ++ bs (insB p s) = bs (idB c n ++ [32] ++ insB p s)) := by
    show _ = _
    rw [← bs_append, ← bs_append]
    rfl
  clear hI hp0 hp1 hs hq hok hw hp hd hcn
  generalize bs (idB c n) = x at *
  generalize bs (insB p s) = y at *
  have g1 : ¬ 9223372036854775807 < x.size + 1 := by omega
  have g2 : ¬ 9223372036854775807 < x.size + 1 + y.size := by omega
  simp only [opVal] at *
  have hw2 := (Below.refl w.heap.size w).alloc (Nat.le_refl _) (Obj.cells #[.int .i64 c, .int .i64 n, .int .i64 1, .int .i64 p, .string s, .slice none 0 0, .int .i64 0, .int .i64 0, .bool false] 31)
  go_enter Tryd.func25, Tryd.ntmps25
  go_wp2_with fail
  refine (HO.out _ hw2).mono ?_
  rintro e w0 ⟨rfl, hb0⟩
  have hB0 := hw2.trans (hb0.mono hw2.size)
  have k0 : w0.cell? ⟨w.heap.size, 0, none⟩ = some (.int .i64 c) := (hb0.cell (p := ⟨w.heap.size, 0, none⟩) (by simp)).trans (World.cell?_alloc_mark ..)
  have k1 : w0.cell? ⟨w.heap.size, 1, none⟩ = some (.int .i64 n) := (hb0.cell (p := ⟨w.heap.size, 1, none⟩) (by simp)).trans (World.cell?_alloc_mark ..)
  have k2 : w0.cell? ⟨w.heap.size, 2, none⟩ = some (.int .i64 1) := (hb0.cell (p := ⟨w.heap.size, 2, none⟩) (by simp)).trans (World.cell?_alloc_mark ..)
  have k3 : w0.cell? ⟨w.heap.size, 3, none⟩ = some (.int .i64 p) := (hb0.cell (p := ⟨w.heap.size, 3, none⟩) (by simp)).trans (World.cell?_alloc_mark ..)
  have k4 : w0.cell? ⟨w.heap.size, 4, none⟩ = some (.string s) := (hb0.cell (p := ⟨w.heap.size, 4, none⟩) (by simp)).trans (World.cell?_alloc_mark ..)
  have k5 : w0.cell? ⟨w.heap.size, 5, none⟩ = some (.slice none 0 0) := (hb0.cell (p := ⟨w.heap.size, 5, none⟩) (by simp)).trans (World.cell?_alloc_mark ..)
  have k6 : w0.cell? ⟨w.heap.size, 6, none⟩ = some (.int .i64 0) := (hb0.cell (p := ⟨w.heap.size, 6, none⟩) (by simp)).trans (World.cell?_alloc_mark ..)
  have k7 : w0.cell? ⟨w.heap.size, 7, none⟩ = some (.int .i64 0) := (hb0.cell (p := ⟨w.heap.size, 7, none⟩) (by simp)).trans (World.cell?_alloc_mark ..)
  have k8 : w0.cell? ⟨w.heap.size, 8, none⟩ = some (.bool false) := (hb0.cell (p := ⟨w.heap.size, 8, none⟩) (by simp)).trans (World.cell?_alloc_mark ..)
  have hk : w.heap.size < w0.heap.size := by have := hb0.size; simp at this; omega
  have hcur : Below w0.heap.size w0 w0 := Below.refl _ _
  clear hw2 hb0 HO
  go_wp2_with fail
  go_region_held3 (fun W => W.cell? ⟨w.heap.size, 0, none⟩ = some (.int .i64 c) ∧ W.cell? ⟨w.heap.size, 1, none⟩ = some (.int .i64 n) ∧ W.cell? ⟨w.heap.size, 2, none⟩ = some (.int .i64 1) ∧ W.cell? ⟨w.heap.size, 3, none⟩ = some (.int .i64 p) ∧ W.cell? ⟨w.heap.size, 4, none⟩ = some (.string s) ∧ W.cell? ⟨w.heap.size, 5, none⟩ = some (.slice none 0 0) ∧ W.cell? ⟨w.heap.size, 6, none⟩ = some (.int .i64 0) ∧ W.cell? ⟨w.heap.size, 7, none⟩ = some (.int .i64 0) ∧ W.cell? ⟨w.heap.size, 8, none⟩ = some (.bool false)) (first | exact ⟨k0, k1, k2, k3, k4, k5, k6, k7, k8⟩ | exact ⟨e0, e1, e2, e3, e4, e5, e6, e7, e8⟩)
      (first
        | (go_at_call 50; refine (HP.out _ ?_).mono ?_; (first | exact hB0.trans (hcur.mono hB0.size) | exact hB0.trans (hcur.drew.mono hB0.size)); rintro e w1 ⟨rfl, hb1⟩; have hcur : Below w0.heap.size w0 w1 := (by first | exact hcur.trans (hb1.mono hcur.size) | exact hcur.drew.trans (hb1.mono hcur.size)); have e0 := (hcur.cell (p := ⟨w.heap.size, 0, none⟩) hk).trans k0; have e1 := (hcur.cell (p := ⟨w.heap.size, 1, none⟩) hk).trans k1; have e2 := (hcur.cell (p := ⟨w.heap.size, 2, none⟩) hk).trans k2; have e3 := (hcur.cell (p := ⟨w.heap.size, 3, none⟩) hk).trans k3; have e4 := (hcur.cell (p := ⟨w.heap.size, 4, none⟩) hk).trans k4; have e5 := (hcur.cell (p := ⟨w.heap.size, 5, none⟩) hk).trans k5; have e6 := (hcur.cell (p := ⟨w.heap.size, 6, none⟩) hk).trans k6; have e7 := (hcur.cell (p := ⟨w.heap.size, 7, none⟩) hk).trans k7; have e8 := (hcur.cell (p := ⟨w.heap.size, 8, none⟩) hk).trans k8)
        | (go_at_call 51; refine (HW.out _ ?_).mono ?_; (first | exact hB0.trans (hcur.mono hB0.size) | exact hB0.trans (hcur.drew.mono hB0.size)); rintro e w1 ⟨rfl, hb1⟩; have hcur : Below w0.heap.size w0 w1 := (by first | exact hcur.trans (hb1.mono hcur.size) | exact hcur.drew.trans (hb1.mono hcur.size)); have e0 := (hcur.cell (p := ⟨w.heap.size, 0, none⟩) hk).trans k0; have e1 := (hcur.cell (p := ⟨w.heap.size, 1, none⟩) hk).trans k1; have e2 := (hcur.cell (p := ⟨w.heap.size, 2, none⟩) hk).trans k2; have e3 := (hcur.cell (p := ⟨w.heap.size, 3, none⟩) hk).trans k3; have e4 := (hcur.cell (p := ⟨w.heap.size, 4, none⟩) hk).trans k4; have e5 := (hcur.cell (p := ⟨w.heap.size, 5, none⟩) hk).trans k5; have e6 := (hcur.cell (p := ⟨w.heap.size, 6, none⟩) hk).trans k6; have e7 := (hcur.cell (p := ⟨w.heap.size, 7, none⟩) hk).trans k7; have e8 := (hcur.cell (p := ⟨w.heap.size, 8, none⟩) hk).trans k8))
  all_goals
    go_wp2_with fail
    go_ret2
    exact ⟨congrArg (fun b => Ending.returned (.tuple #[.string b, .int .i64 0])) HR.out, hB0.trans (hcur.mono hB0.size)⟩
end Go.Proofs.YthiigmbhahbkbaaDoor
