import Derived.Test.YtmeciikfnbbllaaGreatDoorXbB
import Derived.Test.YtmeciikfnbbllaaGreatDoorXbQ
import Derived.Test.YtmeciikfnbbllaaGreatDoorOpC
namespace Go.Proofs.YtmeciikfnbbllaaGreatDoor
open Go.RowKit Go.Lib
set_option maxRecDepth 100000
theorem one_op1 {W : World} {g : Nat} {x : OpM} {T : TypeId} (h : W.heap[g]? = some (.cells (opF x).toArray T)) : Rw opF 9 W (some ⟨g, 0, none⟩) 1 1 [x] :=
  ⟨rfl, ⟨Nat.le_refl _, by decide⟩, fun _ => ⟨g, 0, rfl, (Array.getElem?_eq_some_iff.1 h).1, fun j z hj i v hv => by
    rw [Lib.cell_of_heap h, Nat.zero_add]
    match j, hj with
    | 0, hj =>
      simp at hj; subst hj
      simp only [Nat.zero_mul, Nat.zero_add, List.getElem?_toArray]
      exact hv
    | j + 1, hj => simp at hj⟩⟩
def caretP (x : Int) (o : OpV) : Int × Int :=
  if ownP o ≠ 0 then (0, ownP o) else if x < 0 ∨ 1048576 < x then (0, 12) else if o.k ≠ 1 ∨ x ≤ o.p then (x, 0)
  else if 1048576 < x + widthP o then (0, 24) else (x + widthP o, 0)
set_option maxHeartbeats 8000000 in
theorem Caret_any {o : OpV} {x : Int} {a : Option Addr} {m cap : Nat} {w : World} (hR : Sp.Rng w a m cap o.l) (hs : o.s.size ≤ 281474976710656) (hw : Bar w) :
    Calls Tryz.prog 9 #[.int .i64 x, opVal o (.slice a m cap)] w fun e w' => e = .returned (.tuple #[.int .i64 (caretP x o).1, .int .i64 (caretP x o).2]) ∧ Below w.heap.size w w' := by
  have HE : Hid (∀ (W : World) (g : Nat), Below w.heap.size w W → W.heap[g]? = some (.cells (opF (o, (a, m, cap))).toArray 33) → Calls Tryz.prog 15 #[.slice (some ⟨g, 0, none⟩) 1 1] W fun e w' => e = .returned (.int .i64 (ownP o)) ∧ Below W.heap.size W w') := fun W g hb hg => by
    have := ownErrors_any (L := [(o, (a, m, cap))]) (one_op1 hg) (fun x hx => by
      simp at hx
      subst hx
      exact ⟨hR.below hb, by simp only; omega⟩) (hw.below hb)
    rw [show errs [(o, (a, m, cap))] = ownP o from first1] at this
    exact this
  have HW : Hid (∀ (W : World), Below w.heap.size w W → Calls Tryz.prog 16 #[opVal o (.slice a m cap)] W fun e w' => e = .returned (.int .i64 (widthP o)) ∧ Below W.heap.size W w') := fun W hb => width_any (by omega) (hw.below hb)
  have hwd : ownP o = 0 → 0 ≤ widthP o ∧ widthP o ≤ 256 := fun h => (right_of h).wd
  obtain ⟨q, hq⟩ : ∃ q, caretP x o = q := ⟨_, rfl⟩
  rw [hq]
  unfold caretP at hq
  generalize ownP o = z at *
  generalize widthP o = wd at *
  simp only [opF] at HE
  clear hR hs hw
  obtain ⟨c, n, k, p, s, l, tc, tn, on⟩ := o
  simp only [opVal] at *
  obtain ⟨W0, hW0⟩ : ∃ W0, w.alloc (Obj.cells #[.int .i64 c, .int .i64 n, .int .i64 k, .int .i64 p, .string s, .slice a m cap, .int .i64 tc, .int .i64 tn, .bool on] 33) = W0 := ⟨_, rfl⟩
  have hX : W0.heap[w.heap.size]? = some (Obj.cells #[.int .i64 c, .int .i64 n, .int .i64 k, .int .i64 p, .string s, .slice a m cap, .int .i64 tc, .int .i64 tn, .bool on] 33) := by rw [← hW0]; exact alloc_last _ _ _ rfl
  have hB0 : Below w.heap.size w W0 := by rw [← hW0]; exact (Below.refl w.heap.size w).alloc (Nat.le_refl _) _
  have alt : w.heap.size < W0.heap.size := (Array.getElem?_eq_some_iff.1 hX).1
  obtain ⟨ak0, ak1, ak2, ak3, ak4, ak5, ak6, ak7, ak8⟩ := box9 hX
  obtain ⟨W1, hW1⟩ : ∃ W1, W0.alloc (Obj.cells #[.int .i64 c, .int .i64 n, .int .i64 k, .int .i64 p, .string s, .slice a m cap, .int .i64 tc, .int .i64 tn, .bool on] 33) = W1 := ⟨_, rfl⟩
  have hT : W1.heap[W0.heap.size]? = some (Obj.cells #[.int .i64 c, .int .i64 n, .int .i64 k, .int .i64 p, .string s, .slice a m cap, .int .i64 tc, .int .i64 tn, .bool on] 33) := by rw [← hW1]; exact alloc_last _ _ _ rfl
  have h01 : Below W0.heap.size W0 W1 := by rw [← hW1]; exact (Below.refl _ _).alloc (Nat.le_refl _) _
  go_enter Tryz.func9, Tryz.ntmps9
  go_wp2_with fail
  refine (HE.out W1 _ (hB0.trans (h01.mono hB0.size)) hT).mono ?_
  rintro e w1 ⟨rfl, hcur1⟩
  have hcur : Below W0.heap.size W0 w1 := h01.trans (hcur1.mono h01.size)
  have hB1 := hB0.trans (hcur.mono hB0.size)
  have hX1 := (hcur.block _ alt).trans hX
  clear HE hcur1 hT h01 hcur hX hB0 alt hW0 hW1 ak0 ak1 ak2 ak3 ak4 ak5 ak6 ak7 ak8
  obtain ⟨ak0, ak1, ak2, ak3, ak4, ak5, ak6, ak7, ak8⟩ := box9 hX1
  by_cases hz : z = 0
  · subst hz
    rw [if_neg (by simp)] at hq
    obtain ⟨hw0, hw1⟩ := hwd rfl
    clear hwd
    by_cases h1 : x < 0
    · rw [if_pos (.inl h1)] at hq
      subst hq
      go_wp2_with fail
      go_ret2
      exact ⟨rfl, hB1⟩
    · have t1 : decide (x < 0) = false := decide_eq_false h1
      by_cases h2 : 1048576 < x
      · rw [if_pos (.inr h2)] at hq
        subst hq
        go_wp2_with fail
        go_ret2
        exact ⟨rfl, hB1⟩
      · rw [if_neg (by omega)] at hq
        have t2 : decide (1048576 < x) = false := decide_eq_false h2
        by_cases hk : k = 1
        · subst hk
          by_cases hp : x ≤ p
          · rw [if_pos (.inr hp)] at hq
            subst hq
            go_wp2_with fail
            go_ret2
            exact ⟨rfl, hB1⟩
          · rw [if_neg (by omega)] at hq
            have t3 : decide (x ≤ p) = false := decide_eq_false hp
            have e1 : IntKind.i64.wrap (x + wd) = x + wd := IntWalk.i64_in _ (by omega)
            go_wp2_with fail
            refine (HW.out _ hB1).mono ?_
            rintro e w2 ⟨rfl, hb2⟩
            have hB2 := hB1.trans (hb2.mono hB1.size)
            clear HW hb2 hB1 hX1 ak0 ak1 ak2 ak3 ak4 ak5 ak6 ak7 ak8
            by_cases hg : 1048576 < x + wd
            · rw [if_pos hg] at hq
              subst hq
              go_wp2_with fail
              go_ret2
              exact ⟨rfl, hB2⟩
            · rw [if_neg hg] at hq
              subst hq
              have t4 : decide (1048576 < x + wd) = false := decide_eq_false hg
              go_wp2_with fail
              go_ret2
              exact ⟨rfl, hB2⟩
        · rw [if_pos (.inl hk)] at hq
          subst hq
          have t3 : (k == 1) = false := beq_eq_false_iff_ne.2 hk
          have t4 : decide (k = 1) = false := decide_eq_false hk
          go_wp2_with fail
          go_ret2
          exact ⟨rfl, hB1⟩
  · rw [if_pos hz] at hq
    subst hq
    have t1 : (z == 0) = false := beq_eq_false_iff_ne.2 hz
    clear HW hz hwd
    go_wp2_with fail
    go_ret2
    exact ⟨rfl, hB1⟩
end Go.Proofs.YtmeciikfnbbllaaGreatDoor

namespace Go.Proofs.YtmeciikfnbbllaaGreatDoor
open Go.RowKit Go.Lib Sp
set_option maxRecDepth 100000
set_option maxHeartbeats 400000 in
theorem gIsID_any (c n : Int) (w : World) : Calls Tryz.prog 99 #[.agg #[.int .i64 c, .int .i64 n]] w fun e w' => e = .returned (.bool (isIdP c n)) ∧ Below w.heap.size w w' := by
  obtain ⟨r, hr⟩ : ∃ r, isIdP c n = r := ⟨_, rfl⟩
  rw [hr]
  unfold isIdP at hr
  by_cases h1 : 1 ≤ c
  · by_cases h2 : c ≤ 8
    · by_cases h3 : 1 ≤ n
      · by_cases h4 : n ≤ 1024
        · rw [decide_eq_true ⟨h1, h2, h3, h4⟩] at hr; subst hr
          go_enter Tryz.func99, Tryz.ntmps99
          go_wp2_with fail
          go_ret
          exact ⟨rfl, (Below.refl _ _).alloc (Nat.le_refl _) _⟩
        · rw [decide_eq_false (by omega)] at hr; subst hr
          have d4 : decide (n ≤ 1024) = false := decide_eq_false h4
          clear h4
          go_enter Tryz.func99, Tryz.ntmps99
          go_wp2_with fail
          go_ret
          exact ⟨rfl, (Below.refl _ _).alloc (Nat.le_refl _) _⟩
      · rw [decide_eq_false (by omega)] at hr; subst hr
        have d4 : decide (1 ≤ n) = false := decide_eq_false h3
        clear h3
        go_enter Tryz.func99, Tryz.ntmps99
        go_wp2_with fail
        go_ret
        exact ⟨rfl, (Below.refl _ _).alloc (Nat.le_refl _) _⟩
    · rw [decide_eq_false (by omega)] at hr; subst hr
      have d4 : decide (c ≤ 8) = false := decide_eq_false h2
      clear h2
      go_enter Tryz.func99, Tryz.ntmps99
      go_wp2_with fail
      go_ret
      exact ⟨rfl, (Below.refl _ _).alloc (Nat.le_refl _) _⟩
  · rw [decide_eq_false (by omega)] at hr; subst hr
    have d4 : decide (1 ≤ c) = false := decide_eq_false h1
    clear h1
    go_enter Tryz.func99, Tryz.ntmps99
    go_wp2_with fail
    go_ret
    exact ⟨rfl, (Below.refl _ _).alloc (Nat.le_refl _) _⟩
set_option maxHeartbeats 400000 in
theorem gNone_any (c n : Int) (w : World) : Calls Tryz.prog 100 #[.agg #[.int .i64 c, .int .i64 n]] w fun e w' => e = .returned (.bool (decide (c = 0 ∧ n = 0))) ∧ Below w.heap.size w w' := by
  obtain ⟨r, hr⟩ : ∃ r, decide (c = 0 ∧ n = 0) = r := ⟨_, rfl⟩
  rw [hr]
  by_cases h1 : c = 0
  · subst h1
    by_cases h2 : n = 0
    · subst h2
      rw [decide_eq_true ⟨rfl, rfl⟩] at hr; subst hr
      go_enter Tryz.func100, Tryz.ntmps100
      go_wp2_with fail
      go_ret
      exact ⟨rfl, (Below.refl _ _).alloc (Nat.le_refl _) _⟩
    · rw [decide_eq_false (by omega)] at hr; subst hr
      have t1 : (n == 0) = false := beq_eq_false_iff_ne.2 h2
      clear h2
      go_enter Tryz.func100, Tryz.ntmps100
      go_wp2_with fail
      go_ret
      exact ⟨rfl, (Below.refl _ _).alloc (Nat.le_refl _) _⟩
  · rw [decide_eq_false (by omega)] at hr; subst hr
    have t1 : (c == 0) = false := beq_eq_false_iff_ne.2 h1
    clear h1
    go_enter Tryz.func100, Tryz.ntmps100
    go_wp2_with fail
    go_ret
    exact ⟨rfl, (Below.refl _ _).alloc (Nat.le_refl _) _⟩
end Go.Proofs.YtmeciikfnbbllaaGreatDoor
