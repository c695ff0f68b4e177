import Derived.Test.YtnademmeffoedaaGreatDoorQdAH
import Derived.Test.YtnademmeffoedaaGreatDoorQeAD
import Derived.Test.YtnademmeffoedaaGreatDoorRuAF
namespace Go.Proofs.YtnademmeffoedaaGreatDoor
open Go.RowKit Go.Lib
set_option maxRecDepth 100000
theorem norm_low : ∀ {l : List (Int × Int)} {b : Int}, Sp.Norm b l → ∀ x ∈ l, b < x.1
  | [], _, _, x, hx => (by cases hx)
  | y :: l, b, h, x, hx => by
    rcases List.mem_cons.1 hx with rfl | hx
    · exact h.1
    · have := norm_low h.2.2 x hx
      have h2 := h.2.1
      have h1 := h.1
      omega
theorem srt_norm : ∀ {l : List (Int × Int)} {b : Int}, Sp.Norm b l → Srt l
  | [], _, _ => ⟨fun x hx => (by cases hx), fun i j x y _ hx => (by simp at hx)⟩
  | y :: l, b, h => by
    have ih := srt_norm h.2.2
    refine ⟨fun x hx => ?_, fun i j x z hij hx hz => ?_⟩
    · rcases List.mem_cons.1 hx with rfl | hx
      · exact h.2.1
      · exact ih.some_ x hx
    · cases i with
      | zero =>
        simp at hx
        subst hx
        cases j with
        | zero => omega
        | succ j =>
          simp at hz
          exact norm_low h.2.2 z (List.mem_of_getElem? hz)
      | succ i =>
        cases j with
        | zero => omega
        | succ j => exact ih.apart i j x z (by omega) (by simpa using hx) (by simpa using hz)
theorem srt_last {l : List (Int × Int)} (hs : Srt l) {x : Int × Int} (hx : x ∈ l) : x.2 ≤ lastHi l := by
  have hpos : 0 < l.length := List.length_pos_of_mem hx
  obtain ⟨j, hj⟩ := List.getElem?_of_mem hx
  have hjl := (List.getElem?_eq_some_iff.1 hj).1
  have hl : l[l.length - 1]? = some l[l.length - 1] := List.getElem?_eq_getElem (by omega)
  have e : lastHi l = l[l.length - 1].2 := by
    unfold lastHi
    rw [List.getD_eq_getElem?_getD, hl]
    rfl
  rw [e]
  by_cases h : j = l.length - 1
  · subst h
    rw [hl] at hj
    injection hj with hj
    rw [hj]
    exact Int.le_refl _
  · have h1 := hs.apart j (l.length - 1) x _ (by omega) hj hl
    have h2 := hs.some_ _ (List.getElem_mem (show l.length - 1 < l.length by omega))
    omega
theorem ck_ins_of {o : OpV} {N : Nat} (h : opCheck o (N : Int) = 0) (hk : o.k = 1) : ∃ (m : Nat) (rs : List Int), o.p = (m : Int) ∧ m ≤ N ∧ IsText o.s rs ∧ rs ≠ [] ∧ rs.length ≤ 256 ∧ N + rs.length ≤ 1048576 := by
  obtain ⟨_, _, _, _, _, h1, _⟩ := opCheck_zero h
  obtain ⟨p0, p1, e0, e1, e2, e3⟩ := insP_code _ _ (h1 hk)
  rcases check_split o.s with ⟨rs, hb, hr, hc⟩ | hbad
  · rw [hc] at e1 e2 e3
    simp only at e1 e2 e3
    exact ⟨o.p.toNat, rs, by omega, by omega, ⟨hb, hr⟩, fun e => by rw [e] at e1; simp at e1, by omega, by omega⟩
  · exfalso
    obtain ⟨rs, rest, hb, hr, hx, hc⟩ := hbad
    rw [hc] at e1
    exact e1 rfl
theorem ck_rng_of {o : OpV} {N : Nat} (h : opCheck o (N : Int) = 0) (hk : o.k = 2 ∨ o.k = 3) : o.l ≠ [] ∧ Srt o.l ∧ (∀ x ∈ o.l, 0 ≤ x.1 ∧ x.2 ≤ (N : Int)) ∧ o.l.length ≤ 32768 := by
  obtain ⟨_, _, _, _, _, _, h1, _⟩ := opCheck_zero h
  have h2 := h1 hk
  unfold rngP at h2
  split at h2
  · cases h2
  rename_i hn
  split at h2
  · rename_i hc; exact absurd h2 hc
  rename_i hc
  split at h2
  · cases h2
  rename_i hl
  have hL := Sp.checkL_ok (by simpa using hc)
  have hs := srt_norm hL.norm
  refine ⟨hn, hs, fun x hx => ?_, hL.few⟩
  have h3 := hL.nonneg x hx
  have h4 := srt_last hs hx
  omega
theorem stop_out2 {l R : List (Int × Int)} (h : ∃ x ∈ l, ∃ (j : Nat) (y : Int × Int), x.1 ≤ (j : Int) ∧ (j : Int) < x.2 ∧ R[j]? = some y ∧ badC 2 y.2) : ∃ c ∈ bmp l (1) 0 R, 1048576 < c.2 := by
  obtain ⟨x, hx, j, y, h1, h2, h3, h4⟩ := h
  have hin : inL l (j : Int) = true := by
    unfold inL
    rw [List.any_eq_true]
    exact ⟨x, hx, decide_eq_true ⟨h1, h2⟩⟩
  refine ⟨(y.1, y.2 + (1)), List.mem_of_getElem? (i := j) ?_, ?_⟩
  · rw [bmp_get, h3]
    simp [hin]
  · unfold badC at h4
    simp only
    omega
theorem stop_ok2 {l R : List (Int × Int)} (h : ∀ x ∈ l, ∀ (j : Nat) (y : Int × Int), x.1 ≤ (j : Int) → (j : Int) < x.2 → R[j]? = some y → ¬ badC 2 y.2) (hc : ∀ c ∈ R, 0 ≤ c.2 ∧ c.2 ≤ 1048576) : ∀ c ∈ bmp l (1) 0 R, 0 ≤ c.2 ∧ c.2 ≤ 1048576 := fun c hm => by
  obtain ⟨j, hj⟩ := List.getElem?_of_mem hm
  rw [bmp_get] at hj
  obtain ⟨y, hy, rfl⟩ := Option.map_eq_some_iff.1 hj
  have hb := hc y (List.mem_of_getElem? hy)
  split
  · rename_i hin
    obtain ⟨x, hx, h1, h2⟩ := inL_mem hin
    have := h x hx j y (by omega) (by omega) hy
    unfold badC at this
    simp only
    omega
  · exact hb
theorem stop_out3 {l R : List (Int × Int)} (h : ∃ x ∈ l, ∃ (j : Nat) (y : Int × Int), x.1 ≤ (j : Int) ∧ (j : Int) < x.2 ∧ R[j]? = some y ∧ badC 3 y.2) : ∃ c ∈ bmp l (-1) 0 R, c.2 < 0 := by
  obtain ⟨x, hx, j, y, h1, h2, h3, h4⟩ := h
  have hin : inL l (j : Int) = true := by
    unfold inL
    rw [List.any_eq_true]
    exact ⟨x, hx, decide_eq_true ⟨h1, h2⟩⟩
  refine ⟨(y.1, y.2 + (-1)), List.mem_of_getElem? (i := j) ?_, ?_⟩
  · rw [bmp_get, h3]
    simp [hin]
  · unfold badC at h4
    simp only
    omega
theorem stop_ok3 {l R : List (Int × Int)} (h : ∀ x ∈ l, ∀ (j : Nat) (y : Int × Int), x.1 ≤ (j : Int) → (j : Int) < x.2 → R[j]? = some y → ¬ badC 3 y.2) (hc : ∀ c ∈ R, 0 ≤ c.2 ∧ c.2 ≤ 1048576) : ∀ c ∈ bmp l (-1) 0 R, 0 ≤ c.2 ∧ c.2 ≤ 1048576 := fun c hm => by
  obtain ⟨j, hj⟩ := List.getElem?_of_mem hm
  rw [bmp_get] at hj
  obtain ⟨y, hy, rfl⟩ := Option.map_eq_some_iff.1 hj
  have hb := hc y (List.mem_of_getElem? hy)
  split
  · rename_i hin
    obtain ⟨x, hx, h1, h2⟩ := inL_mem hin
    have := h x hx j y (by omega) (by omega) hy
    unfold badC at this
    simp only
    omega
  · exact hb
theorem apply_above {w2 : World} {q : Nat} {R : List (Int × Int)} {W : World} (h : Holds w2 q R W) (hBar : Bar w2) {c n p : Int} {s : ByteArray} {l : List (Int × Int)} {tc tn : Int} {on : Bool} {a : Option Addr} {m cap : Nat} (hl : Sp.Rng W a m cap l) (hs : s.size ≤ 9223372036854775807) (hok : opCheck ⟨c, n, 2, p, s, l, tc, tn, on⟩ (R.length : Int) = 0) (hout : ∃ c ∈ bmp l (1) 0 R, 1048576 < c.2) :
    Calls Tryz.prog 11 #[.pointer (some ⟨q, 0, none⟩), opVal ⟨c, n, 2, p, s, l, tc, tn, on⟩ (.slice a m cap)] W fun e W' => e = .returned (.int .i64 31) ∧ Below W.heap.size W W' := by
  obtain ⟨_, hsr, hbd, hfew⟩ := ck_rng_of hok (by simp)
  have hml := hl.len
  refine (apply_hide_to h hl hs hBar hok (Q := fun x W' => x = 31 ∧ Below W.heap.size W W') fun W1 hb => ?_).mono ?_
  · obtain ⟨t, k1, k2, rfl, k3⟩ := h
    exact (bump_above (k1.below hb) k2 ((rw_piece hl).below hb) (by simp only at hfew; omega) hsr hbd hout).mono fun e W' ⟨he, hb2⟩ => ⟨31, he, rfl, hb.trans (hb2.mono hb.size)⟩
  · rintro e W' ⟨x, rfl, rfl, h1⟩
    exact ⟨rfl, h1⟩
theorem apply_aboveOk {w2 : World} {q : Nat} {R : List (Int × Int)} {W : World} (h : Holds w2 q R W) (hq : w2.heap.size ≤ q) (hBar : Bar w2) {c n p : Int} {s : ByteArray} {l : List (Int × Int)} {tc tn : Int} {on : Bool} {a : Option Addr} {m cap : Nat} (hl : Sp.Rng W a m cap l) (hs : s.size ≤ 9223372036854775807) (hok : opCheck ⟨c, n, 2, p, s, l, tc, tn, on⟩ (R.length : Int) = 0) (hin : ∀ c ∈ bmp l (1) 0 R, 0 ≤ c.2 ∧ c.2 ≤ 1048576) :
    Calls Tryz.prog 11 #[.pointer (some ⟨q, 0, none⟩), opVal ⟨c, n, 2, p, s, l, tc, tn, on⟩ (.slice a m cap)] W fun e W' => e = .returned (.int .i64 0) ∧ Holds w2 q (bmp l (1) 0 R) W' ∧ Upd q W W' := by
  obtain ⟨_, hsr, hbd, hfew⟩ := ck_rng_of hok (by simp)
  have hml := hl.len
  refine (apply_hide_to h hl hs hBar hok (Q := fun x W' => x = 0 ∧ Holds w2 q (bmp l (1) 0 R) W' ∧ Upd q W W') fun W1 hb1 => ?_).mono ?_
  · exact ((h.still hb1).bumpU hq ((rw_piece hl).below hb1) (by simp only at hfew; omega) hsr hbd (1) (by simp) hin).mono fun e W' ⟨he, h1, h2⟩ => ⟨0, he, rfl, h1, (Upd.ofBelow hb1).trans h2⟩
  · rintro e W' ⟨x, rfl, rfl, h1, h2⟩
    exact ⟨rfl, h1, h2⟩
theorem apply_below {w2 : World} {q : Nat} {R : List (Int × Int)} {W : World} (h : Holds w2 q R W) (hBar : Bar w2) {c n p : Int} {s : ByteArray} {l : List (Int × Int)} {tc tn : Int} {on : Bool} {a : Option Addr} {m cap : Nat} (hl : Sp.Rng W a m cap l) (hs : s.size ≤ 9223372036854775807) (hok : opCheck ⟨c, n, 3, p, s, l, tc, tn, on⟩ (R.length : Int) = 0) (hout : ∃ c ∈ bmp l (-1) 0 R, c.2 < 0) :
    Calls Tryz.prog 11 #[.pointer (some ⟨q, 0, none⟩), opVal ⟨c, n, 3, p, s, l, tc, tn, on⟩ (.slice a m cap)] W fun e W' => e = .returned (.int .i64 30) ∧ Below W.heap.size W W' := by
  obtain ⟨_, hsr, hbd, hfew⟩ := ck_rng_of hok (by simp)
  have hml := hl.len
  refine (apply_show_to h hl hs hBar hok (Q := fun x W' => x = 30 ∧ Below W.heap.size W W') fun W1 hb => ?_).mono ?_
  · obtain ⟨t, k1, k2, rfl, k3⟩ := h
    exact (bump_below (k1.below hb) k2 ((rw_piece hl).below hb) (by simp only at hfew; omega) hsr hbd hout).mono fun e W' ⟨he, hb2⟩ => ⟨30, he, rfl, hb.trans (hb2.mono hb.size)⟩
  · rintro e W' ⟨x, rfl, rfl, h1⟩
    exact ⟨rfl, h1⟩
theorem apply_belowOk {w2 : World} {q : Nat} {R : List (Int × Int)} {W : World} (h : Holds w2 q R W) (hq : w2.heap.size ≤ q) (hBar : Bar w2) {c n p : Int} {s : ByteArray} {l : List (Int × Int)} {tc tn : Int} {on : Bool} {a : Option Addr} {m cap : Nat} (hl : Sp.Rng W a m cap l) (hs : s.size ≤ 9223372036854775807) (hok : opCheck ⟨c, n, 3, p, s, l, tc, tn, on⟩ (R.length : Int) = 0) (hin : ∀ c ∈ bmp l (-1) 0 R, 0 ≤ c.2 ∧ c.2 ≤ 1048576) :
    Calls Tryz.prog 11 #[.pointer (some ⟨q, 0, none⟩), opVal ⟨c, n, 3, p, s, l, tc, tn, on⟩ (.slice a m cap)] W fun e W' => e = .returned (.int .i64 0) ∧ Holds w2 q (bmp l (-1) 0 R) W' ∧ Upd q W W' := by
  obtain ⟨_, hsr, hbd, hfew⟩ := ck_rng_of hok (by simp)
  have hml := hl.len
  refine (apply_show_to h hl hs hBar hok (Q := fun x W' => x = 0 ∧ Holds w2 q (bmp l (-1) 0 R) W' ∧ Upd q W W') fun W1 hb1 => ?_).mono ?_
  · exact ((h.still hb1).bumpU hq ((rw_piece hl).below hb1) (by simp only at hfew; omega) hsr hbd (-1) (by simp) hin).mono fun e W' ⟨he, h1, h2⟩ => ⟨0, he, rfl, h1, (Upd.ofBelow hb1).trans h2⟩
  · rintro e W' ⟨x, rfl, rfl, h1, h2⟩
    exact ⟨rfl, h1, h2⟩
theorem apply_insAny {w2 : World} {q : Nat} {R : List (Int × Int)} {W : World} (h : Holds w2 q R W) (hq : w2.heap.size ≤ q) (hBar : Bar w2) {c n : Int} {k : Nat} {s : ByteArray} {rs : List Int} {l : List (Int × Int)} {tc tn : Int} {on : Bool} {a : Option Addr} {m cap : Nat} (hl : Sp.Rng W a m cap l) (hok : opCheck ⟨c, n, 1, (k : Int), s, l, tc, tn, on⟩ (R.length : Int) = 0) (hk : k ≤ R.length) (ht : IsText s rs) (hne : rs ≠ []) (hle : rs.length ≤ 256) (hN : R.length + rs.length ≤ 1048576) :
    Calls Tryz.prog 11 #[.pointer (some ⟨q, 0, none⟩), opVal ⟨c, n, 1, (k : Int), s, l, tc, tn, on⟩ (.slice a m cap)] W fun e W' => e = .returned (.int .i64 0) ∧ Holds w2 q (putL R k rs 0) W' ∧ Upd q W W' := by
  have hsz := ht.small
  refine (apply_ins_to h hl (by omega) hBar hok (Q := fun x W' => x = 0 ∧ Holds w2 q (putL R k rs 0) W' ∧ Upd q W W') fun W1 hb => ?_).mono ?_
  · exact ((h.still hb).insertU hq k hk ht hne 0 (Int.le_refl _) (by decide) hN hBar).mono fun e W' ⟨he, h1, h2⟩ => ⟨0, he, rfl, h1, (Upd.ofBelow hb).trans h2⟩
  · rintro e W' ⟨x, rfl, rfl, h1, h2⟩
    exact ⟨rfl, h1, h2⟩
end Go.Proofs.YtnademmeffoedaaGreatDoor
