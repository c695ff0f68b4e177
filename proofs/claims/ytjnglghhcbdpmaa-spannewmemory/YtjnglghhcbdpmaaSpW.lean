import Derived.Test.YtjnglghhcbdpmaaSpI
namespace Go.Proofs.Ytjnglghhcbdpmaa
open Go.RowKit Go.Lib
set_option maxRecDepth 100000

/-- What 'others' makes, but for its last piece: the list, and where it goes on. -/
def othGo : List (Int × Int) → Int → List (Int × Int) → List (Int × Int) × Int
  | out, from_, [] => (out, from_)
  | out, from_, r :: t => othGo (addedL out from_ r.1) r.2 t
theorem othGo_all {l : List (Int × Int)} {out : List (Int × Int)} {f : Int} (h : Norm (f - 1) l) (ho : Norm (-1) out) (hlo : ∀ r ∈ out, r.1 ≤ f) (hf : 0 ≤ f) (ht : ∀ r ∈ l, r.2 ≤ 1048576) (hf2 : f ≤ 1048576) :
    Norm (-1) (othGo out f l).1 ∧ (∀ r ∈ (othGo out f l).1, r.1 ≤ (othGo out f l).2) ∧ f ≤ (othGo out f l).2 ∧ (othGo out f l).2 ≤ 1048576 ∧ (∀ r ∈ l, r.2 ≤ (othGo out f l).2) ∧ (∀ q, Lies (othGo out f l).1 q ↔ Lies out q ∨ (f ≤ q ∧ q < (othGo out f l).2 ∧ ¬ Lies l q)) ∧ (othGo out f l).1.length ≤ out.length + l.length := by
  induction l generalizing out f with
  | nil => exact ⟨ho, hlo, Int.le_refl _, hf2, (fun r hr => by cases hr), (fun q => by simp only [othGo]; constructor; exact .inl; rintro (h | h); exact h; omega), by simp [othGo]⟩
  | cons r t ih =>
    have h1 := h.1
    have h2 := h.2.1
    have h3 := ht r List.mem_cons_self
    have hn := addedL_norm (hi := r.1) ho hlo (by omega : (-1 : Int) < f)
    have hl2 : ∀ x ∈ addedL out f r.1, x.1 ≤ r.2 := fun x hx => by have := addedL_los hlo x hx; omega
    have := ih (norm_mono h.2.2 (by omega)) hn hl2 (by omega) (fun x hx => ht x (List.mem_cons_of_mem _ hx)) h3
    obtain ⟨i1, i2, i3, i4, i5, i6, i7⟩ := this
    refine ⟨i1, i2, by simp only [othGo]; omega, i4, fun x hx => ?_, fun q => ?_, ?_⟩
    · rcases List.mem_cons.1 hx with rfl | hx
      · exact i3
      · exact i5 x hx
    · rw [show othGo out f (r :: t) = othGo (addedL out f r.1) r.2 t from rfl, i6 q, addedL_lies hlo (fun x hx => (norm_lt ho x hx).2), lies_cons]
      constructor
      · rintro ((h' | h') | h')
        · exact .inl h'
        · refine .inr ⟨h'.1, by omega, ?_⟩
          rintro (h'' | h'')
          · omega
          · have := norm_lies h.2.2 h''; omega
        · refine .inr ⟨by omega, h'.2.1, ?_⟩
          rintro (h'' | h'')
          · omega
          · exact h'.2.2 h''
      · rintro (h' | ⟨h', h'', h'''⟩)
        · exact .inl (.inl h')
        · by_cases hq : q < r.1
          · exact .inl (.inr ⟨h', hq⟩)
          · by_cases hq2 : q < r.2
            · exact absurd (.inl ⟨by omega, hq2⟩) h'''
            · exact .inr ⟨by omega, h'', fun hh => h''' (.inr hh)⟩
    · have := (addedL_length out f r.1).1
      simp only [othGo, List.length_cons] at i7 ⊢
      omega
theorem lies_top' {l : List (Int × Int)} (h : Lst l) {q : Int} (hq : Lies l q) : 0 ≤ q ∧ q < 1048576 := by
  obtain ⟨r, hr, h1, h2⟩ := hq
  have := h.nonneg r hr
  omega
/-- All places that l does not have. -/
def othersL (l : List (Int × Int)) : List (Int × Int) := addedL (othGo [] 0 l).1 (othGo [] 0 l).2 1048576
theorem othersL_all {l : List (Int × Int)} (h : Lst l) : Norm (-1) (othersL l) ∧ (∀ q, Lies (othersL l) q ↔ 0 ≤ q ∧ q < 1048576 ∧ ¬ Lies l q) ∧ (othersL l).length ≤ l.length + 1 := by
  obtain ⟨i1, i2, i3, i4, i5, i6, i7⟩ := othGo_all (l := l) (out := []) (f := 0) h.norm trivial (fun r hr => by cases hr) (by omega) h.top (by omega)
  unfold othersL
  refine ⟨addedL_norm i1 i2 (by omega), fun q => ?_, ?_⟩
  · rw [addedL_lies i2 (fun x hx => (norm_lt i1 x hx).2), i6 q]
    constructor
    · rintro ((h' | h') | h')
      · exact absurd h' (lies_nil _)
      · exact ⟨h'.1, by omega, h'.2.2⟩
      · refine ⟨by omega, h'.2, fun ⟨r, hr, _, hh⟩ => ?_⟩
        have := i5 r hr
        omega
    · rintro ⟨h1, h2, h3⟩
      by_cases hq : q < (othGo [] 0 l).2
      · exact .inl (.inr ⟨h1, hq, h3⟩)
      · exact .inr ⟨by omega, h2⟩
  · have := (addedL_length (othGo [] 0 l).1 (othGo [] 0 l).2 1048576).1
    simp only [List.length_nil] at i7
    omega

set_option maxHeartbeats 1000000 in
theorem others_any {w : World} {a : Option Addr} {n cap : Nat} {l : List (Int × Int)} (h : Rng w a n cap l) (hl : Lst l) :
    Calls Try.prog 40 #[.slice a n cap] w fun e w' => ∃ a' n' cap', e = .returned (.slice a' n' cap') ∧ Own w' w.heap.size (.slice a' n' cap') (othersL l) ∧ Below w.heap.size w w' := by
  have hlen := h.len
  have hfew := hl.few
  clear hl
  go_enter Try.func40, Try.ntmps40
  go_wp2_with fail
  go_loopw [3, 4, 9] (fun vo vf i w' => ∃ (j : Nat) (o : Option Addr) (no co : Nat) (out : List (Int × Int)) (f : Int), j ≤ n ∧ i = .int .i64 j ∧ vo = .slice o no co ∧ vf = .int .i64 f ∧ Own w' w.heap.size (.slice o no co) out ∧ out.length ≤ j ∧ Hid (othGo out f (l.drop j) = othGo [] 0 l) ∧ Below w.heap.size w w') (fun _ _ i _ => n - (RowKit.intOf i).toNat)
  case atStart => exact ⟨0, none, 0, 0, [], 0, Nat.zero_le _, rfl, rfl, rfl, own_nil _ _, Nat.le_refl _, rfl, Below.refl _ _⟩
  case round =>
    obtain ⟨j, o, no, co, out, f, hjn, rfl, rfl, rfl, ho, hol, HG, hb⟩ := hrel
    have hsz := hb.size
    have hno := ho.rng.len
    by_cases hj : j < n
    · obtain ⟨g, off, rfl, hg, hc, hd⟩ := h.cells j hj
      have c0 := (hb.cell (p := ⟨g, off + j * 2, none⟩) hg).trans hc
      have c1 := (hb.cell (p := ⟨g, off + j * 2 + 1, none⟩) hg).trans hd
      have hg2 := HG.out
      rw [drop_getD l j (by omega), othGo] at hg2
      have HG2 : Hid (othGo (addedL out f (l.getD j (0, 0)).1) (l.getD j (0, 0)).2 (l.drop (j + 1)) = othGo [] 0 l) := hg2
      have hal := (addedL_length out f (l.getD j (0, 0)).1).1
      have HA : Hid (∀ W : World, Below w.heap.size w W → Own W w.heap.size (.slice o no co) out → Calls Try.prog 33 #[.slice o no co, .int .i64 f, .int .i64 (l.getD j (0, 0)).1] W _) := fun W hBW hoW => added_keep hoW hBW.size f _ (by omega)
      clear hc hd hg2 HG
      generalize (l.getD j (0, 0)).1 = x at *
      generalize (l.getD j (0, 0)).2 = y at *
      have hBa : Below w.heap.size w (wr.alloc (.cells #[.int .i64 x, .int .i64 y] 39)) := hb.alloc (by omega) _
      go_wp2_with fail
      refine (HA.out _ hBa (ho.below ((Below.refl _ _).alloc (Nat.le_refl _) _))).mono ?_
      rintro e w2 ⟨o2, no2, co2, rfl, ho2, hb2, hkp⟩
      have hB2 := hBa.trans hb2
      have c2 : w2.cell? ⟨wr.heap.size, 1, none⟩ = some (.int .i64 y) := by
        have hne : (Value.slice o no co).ownBlock ≠ some wr.heap.size := fun e => by
          have := (World.ownsRow.lt ho wr.heap.size e).2
          omega
        have := hkp wr.heap.size (by simp) hne
        exact (World.cell?_of_block (a := ⟨wr.heap.size, 1, none⟩) this).trans (World.cell?_alloc_mark _ _ _ _ _)
      clear hb2 hkp HA
      go_wp2_with fail
      go_roundw
      case rel => exact ⟨j + 1, o2, no2, co2, _, y, by omega, by go_num, rfl, rfl, ho2, by omega, HG2, hB2⟩
      case measure => simp [RowKit.intOf]; omega
    · have e1 : l.drop j = [] := List.drop_eq_nil_of_le (by omega)
      have hg2 := HG.out
      rw [e1, othGo] at hg2
      have HO : Hid (∀ W : World, Below w.heap.size w W → Own W w.heap.size (.slice o no co) out → Calls Try.prog 33 #[.slice o no co, .int .i64 f, .int .i64 1048576] W fun e w' => ∃ a' n' cap', e = .returned (.slice a' n' cap') ∧ Own w' w.heap.size (.slice a' n' cap') (othersL l) ∧ Below w.heap.size W w') := fun W hBW hoW => by
        have := added_any hoW hBW.size f 1048576 (by omega)
        rw [show othersL l = addedL out f 1048576 by unfold othersL; rw [← hg2]]
        exact this
      clear hg2 HG
      go_wp2_with fail
      refine (HO.out _ hb ho).mono ?_
      rintro e w2 ⟨o2, no2, co2, rfl, ho2, hb2⟩
      have hB2 := hb.trans hb2
      go_wp2_with fail
      go_ret
      exact ⟨_, _, _, rfl, ho2, hB2⟩

/-- What an answer that came of 'bounded' is. -/
theorem answer_of {B : Nat} {w' : World} {a : Option Addr} {n cap : Nat} {U : List (Int × Int)} (ho : Own w' B (.slice a n cap) U) : Answer B (.returned (.tuple (if 32768 < n then #[.slice none 0 0, .int .i64 21] else #[.slice a n cap, .int .i64 0]))) w' U := by
  have hl := ho.rng.len
  subst hl
  by_cases h : 32768 < U.length
  · rw [if_pos h]
    exact .inl ⟨h, rfl⟩
  · rw [if_neg h]
    exact .inr ⟨by omega, a, cap, rfl, ho⟩
set_option maxHeartbeats 1000000 in
theorem meet_ok {w : World} {a : Option Addr} {n cap : Nat} {l : List (Int × Int)} (h : Rng w a n cap l) {b : Option Addr} {m capb : Nat} {k : List (Int × Int)} (hk : Rng w b m capb k) (hl : Lst l) (hkl : Lst k) :
    Calls Try.prog 27 #[.slice a n cap, .slice b m capb] w fun e w' => ∃ U, Norm (-1) U ∧ (∀ q, Lies U q ↔ Lies l q ∧ Lies k q) ∧ Answer w.heap.size e w' U ∧ Below w.heap.size w w' := by
  have HA := checkBoth_any h hk
  rw [hl.check, hkl.check] at HA
  simp only [if_true] at HA
  have HS : Hid (∀ W, Below w.heap.size w W → Calls Try.prog 39 #[.slice a n cap, .slice b m capb] W _) := fun W hb => shared_any (h.below hb) (hk.below hb) hl.norm hkl.norm (by have := hl.few; have := hkl.few; omega)
  clear h hk hl hkl
  go_enter Try.func27, Try.ntmps27
  go_wp2_with fail
  refine HA.mono ?_
  rintro e w1 ⟨rfl, hb1⟩
  clear HA
  go_wp2_with fail
  refine (HS.out _ hb1).mono ?_
  rintro e w2 ⟨U, o, no, co, hN, hM, rfl, ho, hb2⟩
  have hB2 := hb1.trans (hb2.mono hb1.size)
  have ho' := ho.mono hb1.size
  have HN : Hid (Norm (-1) U) := hN
  have HM : Hid (∀ q, Lies U q ↔ Lies l q ∧ Lies k q) := hM
  clear hN hM ho
  go_wp2_with fail
  refine bounded_any.mono ?_
  rintro e w3 ⟨rfl, rfl⟩
  have HW := answer_of ho'
  by_cases hfew : 32768 < no
  · rw [if_pos hfew] at HW ⊢
    go_wp2_with fail
    go_ret2
    exact ⟨U, HN.out, HM.out, HW, hB2⟩
  · rw [if_neg hfew] at HW ⊢
    go_wp2_with fail
    go_ret2
    exact ⟨U, HN.out, HM.out, HW, hB2⟩
set_option maxHeartbeats 1000000 in
theorem minus_ok {w : World} {a : Option Addr} {n cap : Nat} {l : List (Int × Int)} (h : Rng w a n cap l) {b : Option Addr} {m capb : Nat} {k : List (Int × Int)} (hk : Rng w b m capb k) (hl : Lst l) (hkl : Lst k) :
    Calls Try.prog 28 #[.slice a n cap, .slice b m capb] w fun e w' => ∃ U, Norm (-1) U ∧ (∀ q, Lies U q ↔ Lies l q ∧ ¬ Lies k q) ∧ Answer w.heap.size e w' U ∧ Below w.heap.size w w' := by
  have HA := checkBoth_any h hk
  rw [hl.check, hkl.check] at HA
  simp only [if_true] at HA
  obtain ⟨on, om, ol⟩ := othersL_all hkl
  have HO : Hid (∀ W, Below w.heap.size w W → Calls Try.prog 40 #[.slice b m capb] W _) := fun W hb => others_any (hk.below hb) hkl
  have HS : Hid (∀ (W : World) (o : Option Addr) (no co : Nat), Below w.heap.size w W → Rng W o no co (othersL k) → Calls Try.prog 39 #[.slice a n cap, .slice o no co] W _) := fun W o no co hb hr => shared_any (h.below hb) hr hl.norm on (by have := hl.few; have := hkl.few; omega)
  have HQ : Hid (∀ q, (Lies l q ∧ Lies (othersL k) q) ↔ (Lies l q ∧ ¬ Lies k q)) := fun q => by
    rw [om q]
    constructor
    · exact fun h' => ⟨h'.1, h'.2.2.2⟩
    · exact fun h' => ⟨h'.1, (lies_top' hl h'.1).1, (lies_top' hl h'.1).2, h'.2⟩
  clear h hk hl hkl on om ol
  go_enter Try.func28, Try.ntmps28
  go_wp2_with fail
  refine HA.mono ?_
  rintro e w1 ⟨rfl, hb1⟩
  clear HA
  go_wp2_with fail
  refine (HO.out _ hb1).mono ?_
  rintro e w2 ⟨o, no, co, rfl, ho, hb2⟩
  have hB2 := hb1.trans (hb2.mono hb1.size)
  have hro := ho.rng
  clear ho
  go_wp2_with fail
  refine (HS.out _ o no co hB2 hro).mono ?_
  rintro e w3 ⟨U, o3, no3, co3, hN, hM, rfl, ho3, hb3⟩
  have hB3 := hB2.trans (hb3.mono hB2.size)
  have ho' := ho3.mono hB2.size
  have HN : Hid (Norm (-1) U) := hN
  have HM : Hid (∀ q, Lies U q ↔ Lies l q ∧ ¬ Lies k q) := fun q => (hM q).trans (HQ.out q)
  clear hN hM ho3 HQ
  go_wp2_with fail
  refine bounded_any.mono ?_
  rintro e w4 ⟨rfl, rfl⟩
  have HW := answer_of ho'
  by_cases hfew : 32768 < no3
  · rw [if_pos hfew] at HW ⊢
    go_wp2_with fail
    go_ret2
    exact ⟨U, HN.out, HM.out, HW, hB3⟩
  · rw [if_neg hfew] at HW ⊢
    go_wp2_with fail
    go_ret2
    exact ⟨U, HN.out, HM.out, HW, hB3⟩
end Go.Proofs.Ytjnglghhcbdpmaa
