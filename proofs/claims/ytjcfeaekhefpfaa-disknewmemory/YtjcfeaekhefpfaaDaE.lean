import Derived.Test.YtjcfeaekhefpfaaDaD
/-! ready, due, New, Up, Down, Arm, find. -/
namespace Go.Proofs.Ytjcfeaekhefpfaa
open Go.RowKit Go.Lib
set_option maxRecDepth 100000

def readyP (S : Dk) (nm : List UInt8) : Int := if S.down = true then 110 else if nameOk nm = true then 0 else 113
set_option maxHeartbeats 1000000 in
theorem ready_any {w : World} {p b ck : Nat} {S : Dk} {xs : List X} (h : DiskAt w p b S xs ck) (nm : List UInt8) (hl : nm.length ≤ 9223372036854775807) :
    Calls Try.prog 22 #[.pointer (some ⟨p, 0, none⟩), .string ⟨nm.toArray⟩] w fun e w' => e = .returned (.int .i64 (readyP S nm)) ∧ w' = w := by
  obtain ⟨c0, c1, c2, c3, c4⟩ := box5 h.box
  have HI : Hid (∀ w, Calls Try.prog 42 #[.string ⟨nm.toArray⟩] w fun e w' => e = .returned (.bool (nameOk nm)) ∧ w' = w) := isName_any nm hl
  unfold readyP
  clear h c0 c1 c3 c4
  cases hd : S.down with
  | true =>
    rw [hd] at c2
    clear hd
    go_enter Try.func22, Try.ntmps22
    go_wp2_with fail
    go_ret
    exact ⟨rfl, rfl⟩
  | false =>
    rw [hd] at c2
    clear hd
    cases hn : nameOk nm with
    | true =>
      rw [hn] at HI
      go_enter Try.func22, Try.ntmps22
      go_wp2_with fail
      refine (HI.out _).mono ?_
      rintro e w1 ⟨rfl, rfl⟩
      go_wp2_with fail
      go_ret
      exact ⟨rfl, rfl⟩
    | false =>
      rw [hn] at HI
      go_enter Try.func22, Try.ntmps22
      go_wp2_with fail
      refine (HI.out _).mono ?_
      rintro e w1 ⟨rfl, rfl⟩
      go_wp2_with fail
      go_ret
      exact ⟨rfl, rfl⟩
/-- The disk's own box written. -/
theorem DiskAt.setBox {W W' : World} {p b ck : Nat} {S S' : Dk} {xs : List X} (h : DiskAt W p b S xs ck) (hC : Chg (fun g => g = p) W W') (hb : W'.heap[p]? = some (.cells #[.int .i64 (S'.limit : Int), .map (some b), .bool S'.down, .int .i64 (S'.steps : Int), .int .i64 (S'.keep : Int)] 63)) (hf : S'.fs = S.fs) : DiskAt W' p b S' xs ck :=
  ⟨hb, h.map.chg hC (fun e => h.p_ne_b e.symm), fun x hx => (h.file x hx).chg hC (fun e => h.p_ne_q hx e.symm) (fun _ hg e => h.p_ne_g hx hg e.symm), h.qs, h.gs, hf.trans h.fs⟩
set_option maxHeartbeats 1000000 in
theorem due_any {w : World} {p b ck : Nat} {S : Dk} {xs : List X} (h : DiskAt w p b S xs ck) (hs : S.steps ≤ 9223372036854775807) :
    Calls Try.prog 24 #[.pointer (some ⟨p, 0, none⟩)] w fun e w' => e = .returned (.bool (decide (S.steps = 1))) ∧ DiskAt w' p b { S with steps := S.steps - 1 } xs ck ∧ Chg (fun g => g = p) w w' ∧ w'.heap.size = w.heap.size := by
  obtain ⟨c0, c1, c2, c3, c4⟩ := box5 h.box
  have f3 := Lib.frozen_of_heap h.box 3
  have HH : Hid (DiskAt w p b S xs ck) := h
  have HS : Hid (S.steps ≤ 9223372036854775807) := hs
  clear h c0 c1 c2 c4
  by_cases h0 : S.steps = 0
  · have hd : (decide (S.steps = 1)) = false := decide_eq_false (by omega)
    rw [hd]
    rw [h0] at c3
    have HZ : Hid (S.steps = 0) := h0
    clear hd h0
    go_enter Try.func24, Try.ntmps24
    go_wp2_with fail
    go_ret
    refine ⟨rfl, ?_, Chg.refl _ _, rfl⟩
    have : ({ S with steps := S.steps - 1 } : Dk) = S := by
      obtain ⟨a, b, c, d, e⟩ := S
      have := HZ.out
      simp only at this
      subst this
      rfl
    rw [this]
    exact HH.out
  · have b0 : ((S.steps : Int) == 0) = false := beq_eq_false_iff_ne.2 (by omega)
    have g0 : IntKind.i64.wrap ((S.steps : Int) - 1) = ((S.steps - 1 : Nat) : Int) := by rw [IntWalk.i64_in _ (by omega)]; omega
    have e1 : (((S.steps - 1 : Nat) : Int) == 0) = decide (S.steps = 1) := by
      rw [Bool.eq_iff_iff, beq_iff_eq, decide_eq_true_eq]
      omega
    have e9 := heap_setCell_cells HH.out.box 3 (.int .i64 ((S.steps - 1 : Nat) : Int))
    have HE9 : Hid ((w.setCell ⟨p, 3, none⟩ (.int .i64 ((S.steps - 1 : Nat) : Int))).heap[p]? = some (.cells #[.int .i64 (S.limit : Int), .map (some b), .bool S.down, .int .i64 ((S.steps - 1 : Nat) : Int), .int .i64 (S.keep : Int)] 63)) := e9
    have c9 : (w.setCell ⟨p, 3, none⟩ (.int .i64 ((S.steps - 1 : Nat) : Int))).cell? ⟨p, 3, none⟩ = some (.int .i64 ((S.steps - 1 : Nat) : Int)) := (box5 HE9.out).2.2.2.1
    clear h0 hs e9
    go_enter Try.func24, Try.ntmps24
    go_wp2_with fail
    go_ret
    exact ⟨rfl, HH.out.setBox (Chg.set (D := fun g => g = p) (q := p) 3 _ _ rfl) HE9.out rfl, Chg.set (D := fun g => g = p) (q := p) 3 _ _ rfl, by simp⟩
end Go.Proofs.Ytjcfeaekhefpfaa
