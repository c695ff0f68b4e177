import Derived.Test.YtokclnjaglklhaaDoorRqB
namespace Go.Proofs.YtokclnjaglklhaaDoor
open Go.RowKit Go.Lib
set_option maxRecDepth 100000

/-- Empty, or as it stands beneath a node. -/
def Tr.Can (t : Tr) : Prop := t = .nil ∨ t.Fine
theorem Tr.Can.ok {t : Tr} (h : t.Can) : t.Ok := h.imp id Tr.Fine.wf
theorem Tr.Can.bd {t : Tr} (h : t.Can) : t.Bd := by
  rcases h with rfl | h
  · trivial
  · exact h.bd
theorem Tr.Can.smBd {t : Tr} (h : t.Can) (hn : t.row.length ≤ 2097152) : SmBd t.sm := Tr.smBd h.ok h.bd hn
theorem Tr.Fine.cells_ne {t : Tr} (h : t.Fine) : (t.sm.cells == 0) = false := by
  rw [beq_eq_false_iff_ne]
  have := h.wf.pos
  have := t.sm_cells
  omega
/-- Joined, where one may be empty. -/
structure JC (a b t : Tr) : Prop where
  lv : t.lv = a.lv ++ b.lv
  can : t.Can
  two : a.Fine → b.Fine → J2 a b t
theorem join_up {a l r b t' t : Tr} (hs : SidesOf a l r) (hh : b.sm.high + 1 < a.sm.high) (h1 : J2 r b t') (h2 : J2 l t' t) : J2 a b t := by
  have a0 := hs.high
  have a1 := hs.h1
  have a2 := hs.h2
  have b1 := h1.lo
  have b2 := h1.hi
  have c1 := h2.lo
  have c2 := h2.hi
  have c3 := h2.ex
  refine ⟨by rw [h2.lv, h1.lv, hs.lv]; simp, h2.fine, ?_, ?_, fun e => by omega⟩
  · by_cases e : t'.sm.high ≤ l.sm.high + 1
    · have := c3 (by omega) e; omega
    · omega
  · by_cases e : t'.sm.high ≤ l.sm.high + 1
    · have := c3 (by omega) e; omega
    · omega
theorem join_up' {a l r b t' t : Tr} (hs : SidesOf b l r) (hh : a.sm.high + 1 < b.sm.high) (h1 : J2 a l t') (h2 : J2 t' r t) : J2 a b t := by
  have a0 := hs.high
  have a1 := hs.h1
  have a2 := hs.h2
  have b1 := h1.lo
  have b2 := h1.hi
  have c1 := h2.lo
  have c2 := h2.hi
  have c3 := h2.ex
  refine ⟨by rw [h2.lv, h1.lv, hs.lv]; simp, h2.fine, ?_, ?_, fun _ e => by omega⟩
  · by_cases e : t'.sm.high ≤ r.sm.high + 1
    · have := c3 e (by omega); omega
    · omega
  · by_cases e : t'.sm.high ≤ r.sm.high + 1
    · have := c3 e (by omega); omega
    · omega
theorem j2_len {a b t : Tr} (h : J2 a b t) : t.row.length = a.row.length + b.row.length := by rw [Tr.row_len, Tr.row_len, Tr.row_len, h.lv, rowOf_append, List.length_append]
set_option maxHeartbeats 4000000 in
theorem join_fine : ∀ (N : Nat) {w : World} {a b : Tr} {ga gb : Nat}, a.sm.high + b.sm.high ≤ (N : Int) → At w a ga → At w b gb → a.Fine → b.Fine → a.row.length + b.row.length ≤ 2097152 →
    Calls Tryd.prog 53 #[.pointer (some ⟨ga, 0, none⟩), .pointer (some ⟨gb, 0, none⟩)] w fun e w' => ∃ g t, e = .returned (.pointer (some ⟨g, 0, none⟩)) ∧ At w' t g ∧ J2 a b t ∧ Below w.heap.size w w' := by
  intro N
  induction N with
  | zero =>
    intro w a b ga gb hN ha hb fa fb hn
    have := fa.pos
    have := fb.pos
    omega
  | succ N ih =>
    intro w a b ga gb hN ha hb fa fb hn
    have IH : Hid (∀ {w : World} {a b : Tr} {ga gb : Nat}, a.sm.high + b.sm.high ≤ (N : Int) → At w a ga → At w b gb → a.Fine → b.Fine → a.row.length + b.row.length ≤ 2097152 → Calls Tryd.prog 53 #[.pointer (some ⟨ga, 0, none⟩), .pointer (some ⟨gb, 0, none⟩)] w fun e w' => ∃ g t, e = .returned (.pointer (some ⟨g, 0, none⟩)) ∧ At w' t g ∧ J2 a b t ∧ Below w.heap.size w w') := ih
    clear ih
    have ca0 := ha.cells
    have cb0 := hb.cells
    have ca := ha.high
    have cb := hb.high
    have za := fa.cells_ne
    have zb := fb.cells_ne
    have ba := (fa.smBd (by omega)).high
    have bb := (fb.smBd (by omega)).high
    have lta := ha.lt
    have ltb := hb.lt
    have pa := fa.pos
    have pb := fb.pos
    have hb0 : Below w.heap.size w w := Below.refl _ _
    by_cases hA : b.sm.high + 1 < a.sm.high
    · go_enter Tryd.func53, Tryd.ntmps53
      go_wp2_with fail
      go_quiet (fail)
      have hb1 := below_drewN hb0 nq
      generalize w.drewN nq = w1 at *
      go_wp2_with fail
      refine (sides_p (ha.below hb1) fa (by omega) (by omega)).mono ?_
      rintro e w2 ⟨gl, gr, l, r, rfl, hl, hr, hs, hb2⟩
      have hB2 := hb1.trans (hb2.mono hb1.size)
      have hlen := hs.len
      have q0 := hs.high
      have q1 := hs.h1
      have q2 := hs.h2
      clear ca cb ca0 cb0
      go_wp2_with fail
      refine (IH.out (by omega) hr (hb.below hB2) hs.fr fb (by omega)).mono ?_
      rintro e w3 ⟨g3, t3, rfl, hA3, hj3, hb3⟩
      have hB3 := hB2.trans (hb3.mono hB2.size)
      have hlen3 := j2_len hj3
      have q3 := hj3.lo
      have q4 := hj3.hi
      go_wp2_with fail
      refine (balanced_any (hl.below hb3) hA3 hs.fl hj3.fine (by omega) (by omega) (by omega)).mono ?_
      rintro e w4 ⟨g4, t4, rfl, hA4, hj4, hb4⟩
      go_wp2_with fail
      go_ret
      exact ⟨g4, t4, rfl, hA4, join_up hs hA hj3 hj4, hB3.trans (hb4.mono hB3.size)⟩
    · by_cases hC : a.sm.high + 1 < b.sm.high
      · go_enter Tryd.func53, Tryd.ntmps53
        go_wp2_with fail
        go_quiet (fail)
        have hb1 := below_drewN hb0 nq
        generalize w.drewN nq = w1 at *
        have ca1 := (hb1.cell (p := ⟨ga, 2, none⟩) lta).trans ca
        have cb1 := (hb1.cell (p := ⟨gb, 2, none⟩) ltb).trans cb
        go_wp2_with fail
        go_quiet (fail)
        have hb1' := hb1.trans ((below_drewN (Below.refl w1.heap.size w1) nq).mono hb1.size)
        generalize w1.drewN nq = w1' at *
        go_wp2_with fail
        refine (sides_p (hb.below hb1') fb (by omega) (by omega)).mono ?_
        rintro e w2 ⟨gl, gr, l, r, rfl, hl, hr, hs, hb2⟩
        have hB2 := hb1'.trans (hb2.mono hb1'.size)
        have hlen := hs.len
        have q0 := hs.high
        have q1 := hs.h1
        have q2 := hs.h2
        clear ca cb ca0 cb0 ca1 cb1 hb1 hb1'
        go_wp2_with fail
        refine (IH.out (by omega) (ha.below hB2) hl fa hs.fl (by omega)).mono ?_
        rintro e w3 ⟨g3, t3, rfl, hA3, hj3, hb3⟩
        have hB3 := hB2.trans (hb3.mono hB2.size)
        have hlen3 := j2_len hj3
        have q3 := hj3.lo
        have q4 := hj3.hi
        go_wp2_with fail
        refine (balanced_any hA3 (hr.below hb3) hj3.fine hs.fr (by omega) (by omega) (by omega)).mono ?_
        rintro e w4 ⟨g4, t4, rfl, hA4, hj4, hb4⟩
        go_wp2_with fail
        go_ret
        exact ⟨g4, t4, rfl, hA4, join_up' hs hC hj3 hj4, hB3.trans (hb4.mono hB3.size)⟩
      · go_enter Tryd.func53, Tryd.ntmps53
        go_wp2_with fail
        go_quiet (fail)
        have hb1 := below_drewN hb0 nq
        generalize w.drewN nq = w1 at *
        have ca1 := (hb1.cell (p := ⟨ga, 2, none⟩) lta).trans ca
        have cb1 := (hb1.cell (p := ⟨gb, 2, none⟩) ltb).trans cb
        go_wp2_with fail
        go_quiet (fail)
        have hb1' := hb1.trans ((below_drewN (Below.refl w1.heap.size w1) nq).mono hb1.size)
        generalize w1.drewN nq = w1' at *
        go_wp2_with fail
        refine (paired_p (ha.below hb1') (hb.below hb1') fa fb hn).mono ?_
        rintro e w2 ⟨g2, rfl, hA2, hb2⟩
        go_wp2_with fail
        go_ret
        exact ⟨g2, _, rfl, hA2, j2_pair fa fb (by omega) (by omega), hb1'.trans (hb2.mono hb1'.size)⟩
theorem sm_nil_cells : (Tr.nil.sm.cells == 0) = true := rfl
set_option maxHeartbeats 1000000 in
theorem join_any {w : World} {a b : Tr} {ga gb : Nat} (ha : At w a ga) (hb : At w b gb) (fa : a.Can) (fb : b.Can) (hn : a.row.length + b.row.length ≤ 2097152) :
    Calls Tryd.prog 53 #[.pointer (some ⟨ga, 0, none⟩), .pointer (some ⟨gb, 0, none⟩)] w fun e w' => ∃ g t, e = .returned (.pointer (some ⟨g, 0, none⟩)) ∧ At w' t g ∧ JC a b t ∧ Below w.heap.size w w' := by
  rcases fa with rfl | fa
  · have ca0 := ha.cells
    have e0 : Tr.nil.sm.cells = 0 := rfl
    rw [e0] at ca0
    go_enter Tryd.func53, Tryd.ntmps53
    go_wp2_with fail
    go_ret
    exact ⟨gb, b, rfl, hb, ⟨rfl, fb, fun h => h.wf.elim⟩, Below.refl _ _⟩
  · rcases fb with rfl | fb
    · have ca0 := ha.cells
      have cb0 := hb.cells
      have e0 : Tr.nil.sm.cells = 0 := rfl
      rw [e0] at cb0
      have za := fa.cells_ne
      go_enter Tryd.func53, Tryd.ntmps53
      go_wp2_with fail
      go_ret
      exact ⟨ga, a, rfl, ha, ⟨by simp [Tr.lv], .inr fa, fun _ h => h.wf.elim⟩, Below.refl _ _⟩
    · have b1 := (fa.smBd (by omega)).high
      have b2 := (fb.smBd (by omega)).high
      refine (join_fine (a.sm.high + b.sm.high).toNat (by omega) ha hb fa fb hn).mono ?_
      rintro e w' ⟨g, t, rfl, hA, hj, hB⟩
      exact ⟨g, t, rfl, hA, ⟨hj.lv, .inr hj.fine, fun _ _ => hj⟩, hB⟩
end Go.Proofs.YtokclnjaglklhaaDoor
