import Derived.Test.YtmeciikfnbbllaaGreatDoorXgE
namespace Go.Proofs.YtmeciikfnbbllaaGreatDoor
open Go.RowKit Go.Lib
set_option maxRecDepth 100000
structure Scr (w : World) (a : Option Addr) (n cap : Nat) (L : List XOp) : Prop where
  row : Rw xopF 24 w a n cap L
  ok : ∀ x ∈ L, XOk w x
  bar : Bar w
theorem Scr.below {w W : World} {a : Option Addr} {n cap : Nat} {L : List XOp} (h : Scr w a n cap L) (hb : Below w.heap.size w W) : Scr W a n cap L :=
  ⟨h.row.below hb, fun x hx => (h.ok x hx).below hb, h.bar.below hb⟩
set_option maxHeartbeats 4000000 in
theorem xformCarets_any {a : Option Addr} {n cap : Nat} {w : World} {L : List XOp} (h : Scr w a n cap L) :
    Calls Tryz.prog 3 #[.slice a n cap] w fun e w' => e = .returned (.bool true) ∧ Below w.heap.size w w' := by
  have HIns : Hid (∀ W, Calls Tryz.prog 10 #[.int .i64 1, .int .i64 1, .int .i64 2, .string ⟨#[120]⟩] W fun e w' => e = .returned (opVal ⟨1, 1, 1, 2, ⟨#[120]⟩, [], 0, 0, false⟩ (.slice none 0 0)) ∧ Below W.heap.size W w') := fun W => ins_any 1 1 2 ⟨#[120]⟩ W
  have HC3 : Hid (∀ W, Below w.heap.size w W → Calls Tryz.prog 9 #[.int .i64 3, opVal ⟨1, 1, 1, 2, ⟨#[120]⟩, [], 0, 0, false⟩ (.slice none 0 0)] W fun e w' => e = .returned (.tuple #[.int .i64 4, .int .i64 0]) ∧ Below W.heap.size W w') := fun W hb => by
    have := Caret_any (o := ⟨1, 1, 1, 2, ⟨#[120]⟩, [], 0, 0, false⟩) (x := 3) (a := none) (m := 0) (cap := 0) (w := W) (rng_of_rw (rw_nil W)) (by show (⟨#[120]⟩ : ByteArray).size ≤ _; decide) (h.bar.below hb)
    rw [show caretP 3 ⟨1, 1, 1, 2, ⟨#[120]⟩, [], 0, 0, false⟩ = (4, 0) by decide +kernel] at this
    exact this
  have HN : Hid (∀ W, Calls Tryz.prog 11 #[.int .i64 0] W fun r w' => r = .returned (.int .i64 0) ∧ W = w') := fun W => (num_any 0 W).mono fun e w' h => ⟨h.1, h.2.symm⟩
  have HP : Hid (∀ W, Below w.heap.size w W → Calls Tryz.prog 12 #[.slice a n cap, .int .i64 7, .int .i64 7] W fun e w' => e = .returned (.bool true) ∧ Below W.heap.size W w') := fun W hb => by
    have h1 := h.below hb
    exact played_any h1.row 7 7 (fun W2 hb2 x hx q1 q2 => plays_7 ((h1.ok x hx).below hb2) (by omega) (h1.bar.below hb2))
  simp only [opVal] at HIns HC3
  clear h
  go_enter Tryz.func3, Tryz.ntmps3
  go_wp2_with fail
  refine (HIns.out _).mono ?_
  rintro e w1 ⟨rfl, hb1⟩
  go_wp2_with fail
  refine (HC3.out _ hb1).mono ?_
  rintro e w2 ⟨rfl, hb2⟩
  have hB2 := hb1.trans (hb2.mono hb1.size)
  clear hb1 hb2 HIns HC3
  go_wp2_with fail
  refine (HN.out _).mono ?_
  rintro e w3 ⟨rfl, rfl⟩
  go_wp2_with fail
  refine (HP.out _ hB2).mono ?_
  rintro e w4 ⟨rfl, hb4⟩
  have hB4 := hB2.trans (hb4.mono hB2.size)
  go_wp2_with fail
  go_ret
  exact ⟨rfl, hB4⟩
end Go.Proofs.YtmeciikfnbbllaaGreatDoor
