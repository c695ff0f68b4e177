import Derived.Test.YtohfckcikincoaaSpNe
import Derived.Test.YtohfckcikincoaaSpRk
import Derived.Test.YtohfckcikincoaaSpCr
namespace Go.Proofs.Ytohfckcikincoaa
open Go.RowKit Go.Lib
set_option maxRecDepth 100000

theorem lies_is {w : World} {a : Option Addr} {n cap : Nat} {l : List (Int × Int)} (h : Rng w a n cap l) (q : Int) (b : Bool) (hb : b = true ↔ Lies l q) :
    Calls Try.prog 20 #[.slice a n cap, .int .i64 q] w fun e w' => e = .returned (.bool b) ∧ Below w.heap.size w w' :=
  (liesLaw_any h q).mono fun e w' ⟨hB, hh⟩ => by
    refine ⟨?_, hB⟩
    rcases hh with ⟨h1, rfl⟩ | ⟨h1, rfl⟩
    · rw [hb.2 h1]
    · cases b with
      | false => rfl
      | true => exact absurd (hb.1 rfl) h1
theorem bool_of (p : Prop) : ∃ b : Bool, b = true ↔ p := by
  classical
  exact ⟨decide p, by simp⟩
set_option maxHeartbeats 2000000 in
theorem inAll_any {w : World} {a : Option Addr} {na ca : Nat} {A : List (Int × Int)} (ra : Rng w a na ca A) {b : Option Addr} {nb cb : Nat} {B : List (Int × Int)} (rb : Rng w b nb cb B) {u : Option Addr} {nu cu : Nat} {U : List (Int × Int)} (ru : Rng w u nu cu U)
    {m : Option Addr} {nm cm : Nat} {M : List (Int × Int)} (rm : Rng w m nm cm M) {d : Option Addr} {nd cd : Nat} {D : List (Int × Int)} (rd : Rng w d nd cd D) (q : Int) (hU : Lies U q ↔ Lies A q ∨ Lies B q) (hM : Lies M q ↔ Lies A q ∧ Lies B q) (hD : Lies D q ↔ Lies A q ∧ ¬ Lies B q) :
    Calls Try.prog 32 #[.slice a na ca, .slice b nb cb, .slice u nu cu, .slice m nm cm, .slice d nd cd, .int .i64 q] w fun e w' => e = .returned (.bool true) ∧ Below w.heap.size w w' := by
  obtain ⟨x, hx⟩ := bool_of (Lies A q)
  obtain ⟨y, hy⟩ := bool_of (Lies B q)
  have HA : Hid (∀ W, Below w.heap.size w W → Calls Try.prog 20 #[.slice a na ca, .int .i64 q] W _) := fun W hb => lies_is (ra.below hb) q x hx
  have HB : Hid (∀ W, Below w.heap.size w W → Calls Try.prog 20 #[.slice b nb cb, .int .i64 q] W _) := fun W hb => lies_is (rb.below hb) q y hy
  have HU : Hid (∀ W, Below w.heap.size w W → Calls Try.prog 20 #[.slice u nu cu, .int .i64 q] W _) := fun W hb => lies_is (ru.below hb) q (x || y) (by rw [hU, ← hx, ← hy]; simp)
  have HM : Hid (∀ W, Below w.heap.size w W → Calls Try.prog 20 #[.slice m nm cm, .int .i64 q] W _) := fun W hb => lies_is (rm.below hb) q (x && y) (by rw [hM, ← hx, ← hy]; simp)
  have HD : Hid (∀ W, Below w.heap.size w W → Calls Try.prog 20 #[.slice d nd cd, .int .i64 q] W _) := fun W hb => lies_is (rd.below hb) q (x && !y) (by rw [hD, ← hx, ← hy]; simp)
  clear hU hM hD hx hy ra rb ru rm rd
  cases x <;> cases y
  all_goals
    go_enter Try.func32, Try.ntmps32
    go_wp2_with fail
    refine (HA.out _ (Below.refl _ _)).mono ?_
    rintro e w1 ⟨rfl, g1⟩
    go_wp2_with fail
    refine (HB.out _ g1).mono ?_
    rintro e w2 ⟨rfl, g2⟩
    have h2 := g1.trans (g2.mono g1.size)
    go_wp2_with fail
    refine (HU.out _ h2).mono ?_
    rintro e w3 ⟨rfl, g3⟩
    have h3 := h2.trans (g3.mono h2.size)
    go_wp2_with fail
    refine (HM.out _ h3).mono ?_
    rintro e w4 ⟨rfl, g4⟩
    have h4 := h3.trans (g4.mono h3.size)
    go_wp2_with fail
    refine (HD.out _ h4).mono ?_
    rintro e w5 ⟨rfl, g5⟩
    have h5 := h4.trans (g5.mono h4.size)
    go_wp2_with fail
    go_ret
    exact ⟨rfl, h5⟩
set_option maxHeartbeats 2000000 in
theorem carriedRight_any {w : World} {a : Option Addr} {na ca : Nat} {A : List (Int × Int)} (ra : Rng w a na ca A) {t : Option Addr} {nt ct : Nat} {T : List (Int × Int)} (rt : Rng w t nt ct T) {at_ n q : Int} (hp : (0 ≤ at_ ∧ at_ ≤ 1048576) ∧ 0 ≤ n ∧ n ≤ 1048576)
    (hT : ∀ q, Lies T q ↔ (Lies A q ∧ q < at_) ∨ (Lies A (q - n) ∧ at_ ≤ q - n)) :
    Calls Try.prog 50 #[.slice a na ca, .slice t nt ct, .int .i64 at_, .int .i64 n, .int .i64 q] w fun e w' => e = .returned (.bool true) ∧ Below w.heap.size w w' := by
  obtain ⟨⟨p1, p2⟩, p3, p4⟩ := hp
  by_cases h0 : q < 0 ∨ 1048576 - n ≤ q
  · have hcs : q < 0 ∨ (0 ≤ q ∧ 1048576 - n ≤ q) := by omega
    clear hT ra rt h0
    rcases hcs with k1 | ⟨k1, k2⟩
    all_goals
      go_enter Try.func50, Try.ntmps50
      go_wp2_with fail
      go_ret
      exact ⟨rfl, Below.refl _ _⟩
  · obtain ⟨q1, q2⟩ : 0 ≤ q ∧ q < 1048576 - n := by omega
    have dq1 : decide (q < 0) = false := decide_eq_false (by omega)
    have dq2 : decide (1048576 - n ≤ q) = false := decide_eq_false (by omega)
    obtain ⟨x, hx⟩ := bool_of (Lies A q)
    have HA : Hid (∀ W, Below w.heap.size w W → Calls Try.prog 20 #[.slice a na ca, .int .i64 q] W _) := fun W hb => lies_is (ra.below hb) q x hx
    by_cases h1 : q < at_
    · have HT : Hid (∀ W, Below w.heap.size w W → Calls Try.prog 20 #[.slice t nt ct, .int .i64 q] W _) := fun W hb => lies_is (rt.below hb) q x (by
        rw [hT, hx]
        constructor
        · exact fun h => .inl ⟨h, h1⟩
        · rintro (h | h)
          · exact h.1
          · omega)
      clear hT hx ra rt h0
      cases x
      all_goals
        go_enter Try.func50, Try.ntmps50
        go_wp2_with fail
        refine (HT.out _ (Below.refl _ _)).mono ?_
        rintro e w1 ⟨rfl, g1⟩
        go_wp2_with fail
        refine (HA.out _ g1).mono ?_
        rintro e w2 ⟨rfl, g2⟩
        have h2 := g1.trans (g2.mono g1.size)
        go_wp2_with fail
        go_ret
        exact ⟨rfl, h2⟩
    · have d3 : decide (q < at_) = false := decide_eq_false h1
      have HT : Hid (∀ W, Below w.heap.size w W → Calls Try.prog 20 #[.slice t nt ct, .int .i64 (q + n)] W _) := fun W hb => lies_is (rt.below hb) (q + n) x (by
        rw [hT, hx, show q + n - n = q by omega]
        constructor
        · exact fun h => .inr ⟨h, by omega⟩
        · rintro (h | h)
          · omega
          · exact h.1)
      by_cases h2 : at_ + n ≤ q
      · clear hT hx ra rt h0 h1
        cases x
        all_goals
          go_enter Try.func50, Try.ntmps50
          go_wp2_with fail
          refine (HT.out _ (Below.refl _ _)).mono ?_
          rintro e w1 ⟨rfl, g1⟩
          go_wp2_with fail
          refine (HA.out _ g1).mono ?_
          rintro e w2 ⟨rfl, g2⟩
          have h2 := g1.trans (g2.mono g1.size)
          go_wp2_with fail
          go_ret
          exact ⟨rfl, h2⟩
      · have d4 : decide (at_ + n ≤ q) = false := decide_eq_false h2
        have HT2 : Hid (∀ W, Below w.heap.size w W → Calls Try.prog 20 #[.slice t nt ct, .int .i64 q] W _) := fun W hb => lies_is (rt.below hb) q false (by
          rw [hT]
          constructor
          · intro h; cases h
          · rintro (h | h) <;> omega)
        clear hT hx ra rt h0 h1 h2
        cases x
        all_goals
          go_enter Try.func50, Try.ntmps50
          go_wp2_with fail
          refine (HT.out _ (Below.refl _ _)).mono ?_
          rintro e w1 ⟨rfl, g1⟩
          go_wp2_with fail
          refine (HA.out _ g1).mono ?_
          rintro e w2 ⟨rfl, g2⟩
          have h2 := g1.trans (g2.mono g1.size)
          go_wp2_with fail
          refine (HT2.out _ h2).mono ?_
          rintro e w3 ⟨rfl, g3⟩
          have h3 := h2.trans (g3.mono h2.size)
          go_wp2_with fail
          go_ret
          exact ⟨rfl, h3⟩
/-- Through's answer, whatever the insert. -/
def ThrQ (w : World) (l : List (Int × Int)) (at_ k : Int) (e : Ending) (w' : World) : Prop := Below w.heap.size w w' ∧
  ((whyOf l at_ k ≠ 0 ∧ e = .returned (.tuple #[.slice none 0 0, .int .i64 (whyOf l at_ k)])) ∨ (whyOf l at_ k = 0 ∧ (l.length : Int) = 32768 ∧ e = .returned (.tuple #[.slice none 0 0, .int .i64 21])) ∨
   (whyOf l at_ k = 0 ∧ ∃ x cx, e = .returned (.tuple #[.slice x (throughL l at_ k).length cx, .int .i64 0]) ∧ (throughL l at_ k).length ≤ 32768 ∧ Own w' w.heap.size (.slice x (throughL l at_ k).length cx) (throughL l at_ k)))
theorem through_q {w : World} {a : Option Addr} {n cap : Nat} {l : List (Int × Int)} (h : Rng w a n cap l) (hl : Lst l) (at_ k : Int) :
    Calls Try.prog 24 #[.slice a n cap, .int .i64 at_, .int .i64 k] w fun e w' => ThrQ w l at_ k e w' := by
  by_cases hp : (0 ≤ at_ ∧ at_ ≤ 1048576) ∧ 0 ≤ k ∧ k ≤ 1048576
  · by_cases hg : grows l at_ k
    · have e0 : whyOf l at_ k = 24 := by unfold whyOf; rw [if_pos hp, if_pos hg]
      exact (through_grow h hl hp hg).mono fun e w' ⟨he, hb⟩ => ⟨hb, .inl ⟨by omega, by rw [e0]; exact he⟩⟩
    · have e0 : whyOf l at_ k = 0 := by unfold whyOf; rw [if_pos hp, if_neg hg]
      refine (through_ok h hl hp hg).mono fun e w' ⟨hA, hb⟩ => ⟨hb, ?_⟩
      rcases hA with ⟨h1, h2⟩ | ⟨h1, x, cx, h2, ho⟩
      · exact .inr (.inl ⟨e0, by have := through_len hl hp.1 hp.2; have := hl.few; omega, h2⟩)
      · exact .inr (.inr ⟨e0, x, cx, h2, h1, ho⟩)
  · have e0 : whyOf l at_ k = 12 := by unfold whyOf; rw [if_neg hp]
    exact (through_place h hl hp).mono fun e w' ⟨he, hb⟩ => ⟨hb, .inl ⟨by omega, by rw [e0]; exact he⟩⟩
end Go.Proofs.Ytohfckcikincoaa
