import Derived.Test.YtjnglghhcbdpmaaSpNa
namespace Go.Proofs.Ytjnglghhcbdpmaa
open Go.RowKit Go.Lib Go.Shelf
set_option maxRecDepth 100000

theorem apart_nil (v : Value) : Apart (.slice none 0 0) v := fun g hg => by simp [Value.ownBlock] at hg
theorem back_resA {w : World} {a : Option Addr} {m cap : Nat} {l : List (Int × Int)} (h : Rng w a m cap l) (at_ n : Int) :
    Calls Try.prog 29 #[.slice a m cap, .int .i64 at_, .int .i64 n] w fun e w' => ∃ c U V o no co i ni ci, Hid (SpecB (backCode l at_ n) (backS l at_ n) (backT l at_ n) c U V) ∧ e = .returned (.tuple #[.slice o no co, .slice i ni ci, .int .i64 c]) ∧ Own w' w.heap.size (.slice o no co) U ∧ Own w' w.heap.size (.slice i ni ci) V ∧ Apart (.slice o no co) (.slice i ni ci) ∧ Below w.heap.size w w' := by
  by_cases h0 : (checkL l).2 = 0
  · have hl := checkL_ok h0
    by_cases hp : (0 ≤ at_ ∧ at_ ≤ 1048576) ∧ (0 ≤ n ∧ n ≤ 1048576) ∧ at_ + n ≤ 1048576
    · have e0 : backCode l at_ n = 0 := by unfold backCode; rw [if_pos h0, if_pos hp]
      obtain ⟨n1, l1⟩ := backOldL_all hl (at_ := at_) (n := n) hp.1
      obtain ⟨n2, l2⟩ := backInL_all hl (at_ := at_) (n := n)
      refine (back_ok h hl hp).mono ?_
      rintro e w' ⟨o, no, co, i, ni, ci, rfl, h1, h2, hap, hb⟩
      exact ⟨0, _, _, o, no, co, i, ni, ci, .inr ⟨e0, rfl, n1, l1, n2, l2⟩, rfl, h1, h2, hap, hb⟩
    · have e0 : backCode l at_ n = 12 := by unfold backCode; rw [if_pos h0, if_neg hp]
      refine (back_place h hl hp).mono ?_
      rintro e w' ⟨rfl, hb⟩
      exact ⟨12, [], [], none, 0, 0, none, 0, 0, .inl ⟨by rw [e0]; decide, e0.symm, rfl, rfl⟩, rfl, own_nil _ _, own_nil _ _, apart_nil _, hb⟩
  · have e0 : backCode l at_ n = (checkL l).2 := by unfold backCode; rw [if_neg h0]
    refine (back_bad h (i := (checkL l).1) (c := (checkL l).2) rfl h0 at_ n).mono ?_
    rintro e w' ⟨rfl, hb⟩
    exact ⟨_, [], [], none, 0, 0, none, 0, 0, .inl ⟨by rw [e0]; exact h0, e0.symm, rfl, rfl⟩, rfl, own_nil _ _, own_nil _ _, apart_nil _, hb⟩
def vec7 (x0 x1 x2 x3 x4 x5 x6 : Value) : Nat → Value := fun k => [x0, x1, x2, x3, x4, x5, x6].getD k undef
def lst7 (x0 x1 x2 x3 x4 x5 x6 : List (Int × Int)) : Nat → List (Int × Int) := fun k => [x0, x1, x2, x3, x4, x5, x6].getD k []
theorem seven_mk {w : World} {B : Nat} {v : Nat → Value} {U : Nat → List (Int × Int)} (ho : ∀ k, k < 7 → Own w B (v k) (U k)) (ha : ∀ j k, j < k → k < 7 → Apart (v j) (v k)) : Seven w B v U :=
  ⟨ho, fun j k hj hk hne => by
    rcases Nat.lt_or_gt_of_ne hne with h | h
    · exact ha j k h hk
    · exact (ha k j h hj).symm⟩
set_option maxHeartbeats 4000000 in
theorem answers_any {w : World} {a : Option Addr} {na ca : Nat} {A : List (Int × Int)} (ra : Rng w a na ca A) {b : Option Addr} {nb cb : Nat} {B : List (Int × Int)} (rb : Rng w b nb cb B) (at_ n : Int) :
    Calls Try.prog 11 #[.slice a na ca, .slice b nb cb, .int .i64 at_, .int .i64 n] w fun e w' => ∃ g v U, e = .returned (.slice (some ⟨g, 0, none⟩) 7 7) ∧ w.heap.size ≤ g ∧ w'.heap[g]? = some (.cells #[v 0, v 1, v 2, v 3, v 4, v 5, v 6] 22) ∧ Hid (AnsSpec A B at_ n U) ∧ Seven w' w.heap.size v U ∧ Below w.heap.size w w' := by
  have HM : Hid (Calls Try.prog 4 #[.slice a na ca] w _) := make_res ra
  have HU : Hid (∀ W, Below w.heap.size w W → Calls Try.prog 21 #[.slice a na ca, .slice b nb cb] W _) := fun W hb => union_res (ra.below hb) (rb.below hb)
  have HE : Hid (∀ W, Below w.heap.size w W → Calls Try.prog 27 #[.slice a na ca, .slice b nb cb] W _) := fun W hb => meet_res (ra.below hb) (rb.below hb)
  have HD : Hid (∀ W, Below w.heap.size w W → Calls Try.prog 28 #[.slice a na ca, .slice b nb cb] W _) := fun W hb => minus_res (ra.below hb) (rb.below hb)
  have HT : Hid (∀ W, Below w.heap.size w W → Calls Try.prog 22 #[.slice a na ca, .int .i64 at_, .int .i64 n] W _) := fun W hb => through_res (ra.below hb) at_ n
  have HB : Hid (∀ W, Below w.heap.size w W → Calls Try.prog 29 #[.slice a na ca, .int .i64 at_, .int .i64 n] W _) := fun W hb => back_resA (ra.below hb) at_ n
  clear ra rb
  go_enter Try.func11, Try.ntmps11
  go_wp2_with fail
  refine HM.out.mono ?_
  rintro e w0 ⟨c0, U0, S0, a0, n0, p0, rfl, ho0, hb0⟩
  have HS0 : Hid (SpecS (makeCode A) (fun q => Lies A q) c0 U0) := S0
  have hB0 := hb0
  clear S0
  go_wp2_with fail
  refine (HU.out _ hB0).mono ?_
  rintro e w1 ⟨c1, U1, S1, a1, n1, p1, rfl, ho1, hb1⟩
  have HS1 : Hid (SpecS (codeOf A B) (fun q => Lies A q ∨ Lies B q) c1 U1) := S1
  have hB1 := hB0.trans (hb1.mono hB0.size)
  clear S1
  go_wp2_with fail
  refine (HE.out _ hB1).mono ?_
  rintro e w2 ⟨c2, U2, S2, a2, n2, p2, rfl, ho2, hb2⟩
  have HS2 : Hid (SpecS (codeOf A B) (fun q => Lies A q ∧ Lies B q) c2 U2) := S2
  have hB2 := hB1.trans (hb2.mono hB1.size)
  clear S2
  go_wp2_with fail
  refine (HD.out _ hB2).mono ?_
  rintro e w3 ⟨c3, U3, S3, a3, n3, p3, rfl, ho3, hb3⟩
  have HS3 : Hid (SpecS (codeOf A B) (fun q => Lies A q ∧ ¬ Lies B q) c3 U3) := S3
  have hB3 := hB2.trans (hb3.mono hB2.size)
  clear S3
  go_wp2_with fail
  refine (HT.out _ hB3).mono ?_
  rintro e w4 ⟨c4, U4, S4, a4, n4, p4, rfl, ho4, hb4⟩
  have HS4 : Hid (SpecS (throughCode A at_ n) (throughS A at_ n) c4 U4) := S4
  have hB4 := hB3.trans (hb4.mono hB3.size)
  clear S4
  go_wp2_with fail
  refine (HB.out _ hB4).mono ?_
  rintro e w5 ⟨c5, U5, U6, a5, n5, p5, a6, n6, p6, HS5, rfl, ho5, ho6, ap56, hb5⟩
  have hB5 := hB4.trans (hb5.mono hB4.size)
  go_wp2_with fail
  go_ret
  have t1 := hb1
  have k12 := hb1.trans (hb2.mono hb1.size)
  have k13 := k12.trans (hb3.mono k12.size)
  have k14 := k13.trans (hb4.mono k13.size)
  have k15 := k14.trans (hb5.mono k14.size)
  have k23 := hb2.trans (hb3.mono hb2.size)
  have k24 := k23.trans (hb4.mono k23.size)
  have k25 := k24.trans (hb5.mono k24.size)
  have k34 := hb3.trans (hb4.mono hb3.size)
  have k35 := k34.trans (hb5.mono k34.size)
  have k45 := hb4.trans (hb5.mono hb4.size)
  have s0 := hb0.size
  have s1 := hb1.size
  have s2 := hb2.size
  have s3 := hb3.size
  have s4 := hb4.size
  have s5 := hb5.size
  have hal := (Below.refl w5.heap.size w5).alloc (Nat.le_refl _) (.cells #[.slice a0 n0 p0, .slice a1 n1 p1, .slice a2 n2 p2, .slice a3 n3 p3, .slice a4 n4 p4, .slice a5 n5 p5, .slice a6 n6 p6] 22)
  refine ⟨w5.heap.size, vec7 (.slice a0 n0 p0) (.slice a1 n1 p1) (.slice a2 n2 p2) (.slice a3 n3 p3) (.slice a4 n4 p4) (.slice a5 n5 p5) (.slice a6 n6 p6), lst7 U0 U1 U2 U3 U4 U5 U6, rfl, hB5.size, World.alloc_heap_new _ _, ⟨⟨c0, HS0.out⟩, ⟨c1, HS1.out⟩, ⟨c2, HS2.out⟩, ⟨c3, HS3.out⟩, ⟨c4, HS4.out⟩, ⟨c5, HS5.out⟩⟩, seven_mk (fun k hk => ?_) (fun j k hjk hk => ?_), hB5.trans (hal.mono hB5.size)⟩
  · match k, hk with
    | 0, _ => exact (ho0.below k15).below hal
    | 1, _ => exact (((ho1.below k25).below hal).mono (by omega))
    | 2, _ => exact (((ho2.below k35).below hal).mono (by omega))
    | 3, _ => exact (((ho3.below k45).below hal).mono (by omega))
    | 4, _ => exact (((ho4.below hb5).below hal).mono (by omega))
    | 5, _ => exact ((ho5.below hal).mono (by omega))
    | 6, _ => exact ((ho6.below hal).mono (by omega))
  · match k, hk with
    | 0, _ => exact absurd hjk (by omega)
    | 1, _ =>
      match j, hjk with
      | 0, _ => exact apart_later ho0 ho1 (by omega)
    | 2, _ =>
      match j, hjk with
      | 0, _ => exact apart_later ho0 ho2 (by omega)
      | 1, _ => exact apart_later ho1 ho2 (by omega)
    | 3, _ =>
      match j, hjk with
      | 0, _ => exact apart_later ho0 ho3 (by omega)
      | 1, _ => exact apart_later ho1 ho3 (by omega)
      | 2, _ => exact apart_later ho2 ho3 (by omega)
    | 4, _ =>
      match j, hjk with
      | 0, _ => exact apart_later ho0 ho4 (by omega)
      | 1, _ => exact apart_later ho1 ho4 (by omega)
      | 2, _ => exact apart_later ho2 ho4 (by omega)
      | 3, _ => exact apart_later ho3 ho4 (by omega)
    | 5, _ =>
      match j, hjk with
      | 0, _ => exact apart_later ho0 ho5 (by omega)
      | 1, _ => exact apart_later ho1 ho5 (by omega)
      | 2, _ => exact apart_later ho2 ho5 (by omega)
      | 3, _ => exact apart_later ho3 ho5 (by omega)
      | 4, _ => exact apart_later ho4 ho5 (by omega)
    | 6, _ =>
      match j, hjk with
      | 0, _ => exact apart_later ho0 ho6 (by omega)
      | 1, _ => exact apart_later ho1 ho6 (by omega)
      | 2, _ => exact apart_later ho2 ho6 (by omega)
      | 3, _ => exact apart_later ho3 ho6 (by omega)
      | 4, _ => exact apart_later ho4 ho6 (by omega)
      | 5, _ => exact ap56
end Go.Proofs.Ytjnglghhcbdpmaa
