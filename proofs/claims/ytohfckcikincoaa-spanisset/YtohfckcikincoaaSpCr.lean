import Derived.Test.YtohfckcikincoaaSpBk
namespace Go.Proofs.Ytohfckcikincoaa
open Go.RowKit Go.Lib
set_option maxRecDepth 100000

open Classical in
/-- Why an insert refuses a list. -/
noncomputable def whyOf (l : List (Int × Int)) (at_ k : Int) : Int := if (0 ≤ at_ ∧ at_ ≤ 1048576) ∧ 0 ≤ k ∧ k ≤ 1048576 then (if grows l at_ k then 24 else 0) else 12
set_option maxHeartbeats 1000000 in
theorem refusal_any {w : World} {a : Option Addr} {n cap : Nat} {l : List (Int × Int)} (h : Rng w a n cap l) (hl : Lst l) (at_ k : Int) :
    Calls Try.prog 25 #[.slice a n cap, .int .i64 at_, .int .i64 k] w fun e w' => e = .returned (.int .i64 (whyOf l at_ k)) ∧ Below w.heap.size w w' := by
  by_cases hp : (0 ≤ at_ ∧ at_ ≤ 1048576) ∧ 0 ≤ k ∧ k ≤ 1048576
  · have hlen := h.len
    have d1 : decide (at_ < 0) = false := decide_eq_false (by omega)
    have d2 : decide (k < 0) = false := decide_eq_false (by omega)
    have d3 : decide (1048576 < at_) = false := decide_eq_false (by omega)
    have d4 : decide (1048576 < k) = false := decide_eq_false (by omega)
    rcases List.eq_nil_or_concat l with rfl | ⟨l0, ⟨x, y⟩, hl'⟩
    · have e0 : whyOf [] at_ k = 0 := by
        unfold whyOf
        rw [if_pos hp, if_neg]
        rintro ⟨r, hr, _⟩
        simp at hr
      rw [e0]
      simp only [List.length_nil] at hlen
      subst hlen
      clear e0 h hl hp
      go_enter Try.func25, Try.ntmps25
      go_wp2_with fail
      go_ret
      exact ⟨rfl, Below.refl _ _⟩
    · rw [List.concat_eq_append] at hl'
      subst hl'
      simp only [List.length_append, List.length_cons, List.length_nil] at hlen
      obtain ⟨g, off, rfl, hg', _, hd⟩ := h.cells l0.length (by omega)
      rw [getD_snoc] at hd
      obtain ⟨b0, b1, b2⟩ := hl.nonneg (x, y) (by simp)
      simp only at b0 b1 b2 hd
      have hfew := hl.few
      simp only [List.length_append, List.length_cons, List.length_nil] at hfew
      subst hlen
      have hgr : grows (l0 ++ [(x, y)]) at_ k ↔ at_ < y ∧ 1048576 < y + k := by
        constructor
        · rintro ⟨r, hr, h1, h2⟩
          simp at hr
          subst hr
          exact ⟨h1, h2⟩
        · exact fun h' => ⟨(x, y), by simp, h'.1, h'.2⟩
      have hcs : (y ≤ at_ ∧ whyOf (l0 ++ [(x, y)]) at_ k = 0) ∨ (at_ < y ∧ y + k ≤ 1048576 ∧ whyOf (l0 ++ [(x, y)]) at_ k = 0) ∨ (at_ < y ∧ 1048576 < y + k ∧ whyOf (l0 ++ [(x, y)]) at_ k = 24) := by
        unfold whyOf
        rw [if_pos hp]
        by_cases h1 : at_ < y
        · by_cases h2 : 1048576 < y + k
          · exact .inr (.inr ⟨h1, h2, by rw [if_pos (hgr.2 ⟨h1, h2⟩)]⟩)
          · exact .inr (.inl ⟨h1, by omega, by rw [if_neg (fun h' => h2 (hgr.1 h').2)]⟩)
        · exact .inl ⟨by omega, by rw [if_neg (fun h' => h1 (hgr.1 h').1)]⟩
      have hfj : (l0.length : Int) + 1 ≤ 32768 := by omega
      obtain ⟨⟨p1, p2⟩, p3, p4⟩ := hp
      clear hgr h hl hfew
      generalize l0.length = j at *
      rcases hcs with ⟨h1, h3⟩ | ⟨h1, h2, h3⟩ | ⟨h1, h2, h3⟩
      · rw [h3]
        have d5 : decide (at_ < y) = false := decide_eq_false (by omega)
        clear h3 h1
        go_enter Try.func25, Try.ntmps25
        go_wp2_with fail
        go_ret
        exact ⟨rfl, Below.refl _ _⟩
      · rw [h3]
        have d5 : decide (at_ < y) = true := decide_eq_true h1
        have d6 : decide (1048576 < y + k) = false := decide_eq_false (by omega)
        clear h3 h2
        go_enter Try.func25, Try.ntmps25
        go_wp2_with fail
        go_ret
        exact ⟨rfl, Below.refl _ _⟩
      · rw [h3]
        clear h3
        go_enter Try.func25, Try.ntmps25
        go_wp2_with fail
        go_ret
        exact ⟨rfl, Below.refl _ _⟩
  · have e0 : whyOf l at_ k = 12 := by unfold whyOf; rw [if_neg hp]
    rw [e0]
    have hcs : at_ < 0 ∨ (0 ≤ at_ ∧ k < 0) ∨ (0 ≤ at_ ∧ 0 ≤ k ∧ 1048576 < at_) ∨ (0 ≤ at_ ∧ 0 ≤ k ∧ at_ ≤ 1048576 ∧ 1048576 < k) := by omega
    clear e0 hp hl h
    rcases hcs with k1 | ⟨k1, k2⟩ | ⟨k1, k2, k3⟩ | ⟨k1, k2, k3, k4⟩
    all_goals
      go_enter Try.func25, Try.ntmps25
      go_wp2_with fail
      go_ret
      exact ⟨rfl, Below.refl _ _⟩
/-- Through's answer, whatever the insert: its error, and its list where there is none. -/
def ThrP (w : World) (l : List (Int × Int)) (at_ k : Int) (e : Ending) (w' : World) : Prop := Below w.heap.size w w' ∧ ∃ x nx cx c, e = .returned (.tuple #[.slice x nx cx, .int .i64 c]) ∧
  ((c = whyOf l at_ k ∧ c ≠ 0) ∨ (whyOf l at_ k = 0 ∧ c = 21 ∧ (l.length : Int) = 32768) ∨ (whyOf l at_ k = 0 ∧ c = 0 ∧ nx = (throughL l at_ k).length ∧ nx ≤ 32768 ∧ Own w' w.heap.size (.slice x nx cx) (throughL l at_ k)))
theorem through_all {w : World} {a : Option Addr} {n cap : Nat} {l : List (Int × Int)} (h : Rng w a n cap l) (hl : Lst l) (at_ k : Int) :
    Calls Try.prog 24 #[.slice a n cap, .int .i64 at_, .int .i64 k] w fun e w' => ThrP w l at_ k e w' := by
  by_cases hp : (0 ≤ at_ ∧ at_ ≤ 1048576) ∧ 0 ≤ k ∧ k ≤ 1048576
  · by_cases hg : grows l at_ k
    · have e0 : whyOf l at_ k = 24 := by unfold whyOf; rw [if_pos hp, if_pos hg]
      exact (through_grow h hl hp hg).mono fun e w' ⟨he, hb⟩ => ⟨hb, _, _, _, _, he, .inl ⟨e0.symm, by omega⟩⟩
    · have e0 : whyOf l at_ k = 0 := by unfold whyOf; rw [if_pos hp, if_neg hg]
      refine (through_ok h hl hp hg).mono fun e w' ⟨hA, hb⟩ => ⟨hb, ?_⟩
      rcases hA with ⟨h1, h2⟩ | ⟨h1, x, cx, h2, ho⟩
      · exact ⟨_, _, _, _, h2, .inr (.inl ⟨e0, rfl, by have := through_len hl hp.1 hp.2; have := hl.few; omega⟩)⟩
      · exact ⟨_, _, _, _, h2, .inr (.inr ⟨e0, rfl, rfl, h1, ho⟩)⟩
  · have e0 : whyOf l at_ k = 12 := by unfold whyOf; rw [if_neg hp]
    exact (through_place h hl hp).mono fun e w' ⟨he, hb⟩ => ⟨hb, _, _, _, _, he, .inl ⟨e0.symm, by omega⟩⟩
set_option maxHeartbeats 1000000 in
theorem refused_yes {w : World} {a : Option Addr} {n cap : Nat} {l : List (Int × Int)} (h : Rng w a n cap l) (hl : Lst l) (at_ k c : Int) (hc : (c = whyOf l at_ k ∧ c ≠ 0) ∨ (whyOf l at_ k = 0 ∧ c = 21 ∧ (l.length : Int) = 32768) ∨ (whyOf l at_ k = 0 ∧ c = 0)) :
    Calls Try.prog 26 #[.slice a n cap, .int .i64 at_, .int .i64 k, .int .i64 c] w fun e w' => e = .returned (.bool true) ∧ Below w.heap.size w w' := by
  have HR := refusal_any h hl at_ k
  have hlen := h.len
  generalize whyOf l at_ k = y at *
  rcases hc with ⟨rfl, _⟩ | ⟨rfl, rfl, hf⟩ | ⟨rfl, rfl⟩
  · have t1 : (c == c) = true := by simp
    clear h hl hlen
    go_enter Try.func26, Try.ntmps26
    go_wp2_with fail
    refine HR.mono ?_
    rintro e w1 ⟨rfl, hb1⟩
    go_wp2_with fail
    go_ret
    exact ⟨rfl, hb1⟩
  · have t1 : ((n : Int) == 32768) = true := by simp; omega
    clear h hl hlen hf
    go_enter Try.func26, Try.ntmps26
    go_wp2_with fail
    refine HR.mono ?_
    rintro e w1 ⟨rfl, hb1⟩
    go_wp2_with fail
    go_ret
    exact ⟨rfl, hb1⟩
  · clear h hl hlen
    go_enter Try.func26, Try.ntmps26
    go_wp2_with fail
    refine HR.mono ?_
    rintro e w1 ⟨rfl, hb1⟩
    go_wp2_with fail
    go_ret
    exact ⟨rfl, hb1⟩
end Go.Proofs.Ytohfckcikincoaa
