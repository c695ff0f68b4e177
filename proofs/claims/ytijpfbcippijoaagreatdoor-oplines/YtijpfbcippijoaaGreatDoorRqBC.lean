import Derived.Test.YtijpfbcippijoaaGreatDoorRpPR
import Derived.Test.YtijpfbcippijoaaGreatDoorRpST
namespace Go.Proofs.YtijpfbcippijoaaGreatDoor
open Go.RowKit Go.Lib
set_option maxRecDepth 100000
structure Tr.Fine (t : Tr) : Prop where
  wf : t.Wf
  bd : t.Bd
  avl : t.Avl
theorem Tr.row_len (t : Tr) : t.row.length = (rowOf t.lv).length := by rw [Tr.row_lv]
structure J2 (a b t : Tr) : Prop where
  lv : t.lv = a.lv ++ b.lv
  fine : t.Fine
  lo : max a.sm.high b.sm.high ≤ t.sm.high
  hi : t.sm.high ≤ max a.sm.high b.sm.high + 1
  ex : a.sm.high ≤ b.sm.high + 1 → b.sm.high ≤ a.sm.high + 1 → t.sm.high = max a.sm.high b.sm.high + 1
theorem Tr.lv_pair (a b : Tr) : (Tr.node a b 0).lv = a.lv ++ b.lv := by simp only [Tr.lv]; rw [upP_zero]
theorem Tr.high_pair (a b : Tr) : (Tr.node a b 0).sm.high = max a.sm.high b.sm.high + 1 := rfl
theorem Tr.row_pair (a b : Tr) : (Tr.node a b 0).row = a.row ++ b.row := by simp only [Tr.row]; rw [upL_zero]
theorem Tr.bd_pair {a b : Tr} (ha : a.Bd) (hb : b.Bd) : (Tr.node a b 0).Bd := ⟨ha, hb, by rw [Tr.row_pair]; exact ha.row.append hb.row⟩
theorem Tr.Fine.pair {a b : Tr} (ha : a.Fine) (hb : b.Fine) (h1 : a.sm.high ≤ b.sm.high + 1) (h2 : b.sm.high ≤ a.sm.high + 1) : (Tr.node a b 0).Fine := ⟨⟨ha.wf, hb.wf⟩, Tr.bd_pair ha.bd hb.bd, ⟨ha.avl, hb.avl, h1, h2⟩⟩
theorem j2_pair {a b : Tr} (ha : a.Fine) (hb : b.Fine) (h1 : a.sm.high ≤ b.sm.high + 1) (h2 : b.sm.high ≤ a.sm.high + 1) : J2 a b (.node a b 0) :=
  ⟨Tr.lv_pair a b, ha.pair hb h1 h2, by rw [Tr.high_pair]; omega, by rw [Tr.high_pair]; omega, fun _ _ => Tr.high_pair a b⟩
structure SidesOf (n l r : Tr) : Prop where
  lv : n.lv = l.lv ++ r.lv
  fl : l.Fine
  fr : r.Fine
  high : n.sm.high = max l.sm.high r.sm.high + 1
  h1 : l.sm.high ≤ r.sm.high + 1
  h2 : r.sm.high ≤ l.sm.high + 1
theorem Tr.Fine.sides {l r : Tr} {st : Int} (h : (Tr.node l r st).Fine) : SidesOf (.node l r st) (l.raise st) (r.raise st) := by
  have hb := h.bd.sides h.wf
  refine ⟨Tr.lv_node l r st, ⟨Tr.wf_raise l h.wf.1 st, hb.1, Tr.avl_raise l st h.avl.1⟩, ⟨Tr.wf_raise r h.wf.2 st, hb.2, Tr.avl_raise r st h.avl.2.1⟩, ?_, ?_, ?_⟩ <;> rw [Tr.high_raise, Tr.high_raise]
  · rfl
  · exact h.avl.2.2.1
  · exact h.avl.2.2.2
theorem SidesOf.len {n l r : Tr} (h : SidesOf n l r) : n.row.length = l.row.length + r.row.length := by rw [Tr.row_len, Tr.row_len, Tr.row_len, h.lv, rowOf_append, List.length_append]
theorem Tr.Fine.node_of {t : Tr} (h : t.Fine) (h2 : 2 ≤ t.sm.high) : ∃ l r st, t = .node l r st := by
  cases t with
  | nil => exact h.wf.elim
  | leaf rs hid st => exact absurd h2 (by simp [Tr.sm, pieceSm])
  | node l r st => exact ⟨l, r, st, rfl⟩
theorem Tr.Fine.pos {t : Tr} (h : t.Fine) : 1 ≤ t.sm.high := h.wf.high_pos
theorem Tr.Fine.smBd {t : Tr} (h : t.Fine) (hn : t.row.length ≤ 2097152) : SmBd t.sm := Tr.smBd (.inr h.wf) h.bd hn
theorem rot1 {l o i r : Tr} (hs : SidesOf l o i) (hr : r.Fine) (hd : l.sm.high = r.sm.high + 2) (ho : i.sm.high ≤ o.sm.high) : J2 l r (.node o (.node i r 0) 0) := by
  have h0 := hs.high
  have h1 := hs.h1
  have h2 := hs.h2
  have p1 := hs.fr.pair hr (by omega) (by omega)
  refine ⟨?_, hs.fl.pair p1 ?_ ?_, ?_, ?_, fun e => by omega⟩
  · rw [Tr.lv_pair, Tr.lv_pair, hs.lv]; simp
  all_goals simp only [Tr.high_pair]
  all_goals omega
theorem rot2 {l o i a b r : Tr} (hs : SidesOf l o i) (hi : SidesOf i a b) (hr : r.Fine) (hd : l.sm.high = r.sm.high + 2) (ho : o.sm.high < i.sm.high) : J2 l r (.node (.node o a 0) (.node b r 0) 0) := by
  have h0 := hs.high
  have h1 := hs.h1
  have h2 := hs.h2
  have g0 := hi.high
  have g1 := hi.h1
  have g2 := hi.h2
  have p1 := hs.fl.pair hi.fl (by omega) (by omega)
  have p2 := hi.fr.pair hr (by omega) (by omega)
  refine ⟨?_, p1.pair p2 ?_ ?_, ?_, ?_, fun e => by omega⟩
  · rw [Tr.lv_pair, Tr.lv_pair, Tr.lv_pair, hs.lv, hi.lv]; simp
  all_goals simp only [Tr.high_pair]
  all_goals omega
theorem rot3 {l r i o : Tr} (hs : SidesOf r i o) (hl : l.Fine) (hd : r.sm.high = l.sm.high + 2) (ho : i.sm.high ≤ o.sm.high) : J2 l r (.node (.node l i 0) o 0) := by
  have h0 := hs.high
  have h1 := hs.h1
  have h2 := hs.h2
  have p1 := hl.pair hs.fl (by omega) (by omega)
  refine ⟨?_, p1.pair hs.fr ?_ ?_, ?_, ?_, fun _ e => by omega⟩
  · rw [Tr.lv_pair, Tr.lv_pair, hs.lv]; simp
  all_goals simp only [Tr.high_pair]
  all_goals omega
theorem rot4 {l r i o a b : Tr} (hs : SidesOf r i o) (hi : SidesOf i a b) (hl : l.Fine) (hd : r.sm.high = l.sm.high + 2) (ho : o.sm.high < i.sm.high) : J2 l r (.node (.node l a 0) (.node b o 0) 0) := by
  have h0 := hs.high
  have h1 := hs.h1
  have h2 := hs.h2
  have g0 := hi.high
  have g1 := hi.h1
  have g2 := hi.h2
  have p1 := hl.pair hi.fl (by omega) (by omega)
  have p2 := hi.fr.pair hs.fr (by omega) (by omega)
  refine ⟨?_, p1.pair p2 ?_ ?_, ?_, ?_, fun _ e => by omega⟩
  · rw [Tr.lv_pair, Tr.lv_pair, Tr.lv_pair, hs.lv, hi.lv]; simp
  all_goals simp only [Tr.high_pair]
  all_goals omega
theorem sides_p {w : World} {n : Tr} {g : Nat} (h : At w n g) (hf : n.Fine) (h2 : 2 ≤ n.sm.high) (hn : n.row.length ≤ 2097152) :
    Calls Tryz.prog 92 #[.pointer (some ⟨g, 0, none⟩)] w fun e w' => ∃ gl gr l r, e = .returned (.tuple #[.pointer (some ⟨gl, 0, none⟩), .pointer (some ⟨gr, 0, none⟩)]) ∧ At w' l gl ∧ At w' r gr ∧ SidesOf n l r ∧ Below w.heap.size w w' := by
  obtain ⟨l, r, st, rfl⟩ := hf.node_of h2
  refine (sides_any h hf.wf hf.bd hn).mono ?_
  rintro e w' ⟨gl, gr, rfl, hl, hr, hb⟩
  exact ⟨gl, gr, _, _, rfl, hl, hr, hf.sides, hb⟩
theorem paired_p {w : World} {a b : Tr} {ga gb : Nat} (ha : At w a ga) (hb : At w b gb) (fa : a.Fine) (fb : b.Fine) (hn : a.row.length + b.row.length ≤ 2097152) :
    Calls Tryz.prog 56 #[.pointer (some ⟨ga, 0, none⟩), .pointer (some ⟨gb, 0, none⟩)] w fun e w' => ∃ g, e = .returned (.pointer (some ⟨g, 0, none⟩)) ∧ At w' (.node a b 0) g ∧ Below w.heap.size w w' :=
  paired_any ha hb (.inr fa.wf) (.inr fb.wf) fa.bd fb.bd hn
theorem At.high {w : World} {t : Tr} {g : Nat} (h : At w t g) : w.cell? ⟨g, 2, none⟩ = some (.int .i64 t.sm.high) := by
  obtain ⟨_, _, h2, _⟩ := h.ten
  exact h2
theorem At.cells {w : World} {t : Tr} {g : Nat} (h : At w t g) : w.cell? ⟨g, 0, none⟩ = some (.int .i64 t.sm.cells) := h.ten.1
set_option maxHeartbeats 2000000 in
theorem balanced_any {w : World} {l r : Tr} {gl gr : Nat} (hl : At w l gl) (hr : At w r gr) (fl : l.Fine) (fr : r.Fine) (h1 : l.sm.high ≤ r.sm.high + 2) (h2 : r.sm.high ≤ l.sm.high + 2) (hn : l.row.length + r.row.length ≤ 2097152) :
    Calls Tryz.prog 120 #[.pointer (some ⟨gl, 0, none⟩), .pointer (some ⟨gr, 0, none⟩)] w fun e w' => ∃ g t, e = .returned (.pointer (some ⟨g, 0, none⟩)) ∧ At w' t g ∧ J2 l r t ∧ Below w.heap.size w w' := by
  have cl := hl.high
  have cr := hr.high
  have bl := (fl.smBd (by omega)).high
  have br := (fr.smBd (by omega)).high
  have pl := fl.pos
  have pr := fr.pos
  have ltl := hl.lt
  have ltr := hr.lt
  have hb0 : Below w.heap.size w w := Below.refl _ _
  by_cases hA : r.sm.high + 1 < l.sm.high
  · have hd : l.sm.high = r.sm.high + 2 := by omega
    have HD : Hid (l.sm.high = r.sm.high + 2) := hd
    have h2l : 2 ≤ l.sm.high := by omega
    clear hd h1 h2
    go_enter Tryz.func120, Tryz.ntmps120
    go_wp2_with fail
    go_quiet (fail)
    have hb1 := below_drewN hb0 nq
    generalize w.drewN nq = w1 at *
    go_wp2_with fail
    refine (sides_p (hl.below hb1) fl h2l (by omega)).mono ?_
    rintro e w2 ⟨go, gi, o, i, rfl, ho, hi, hs, hb2⟩
    have hB2 := hb1.trans (hb2.mono hb1.size)
    have hr2 := hr.below hB2
    have hlen := hs.len
    have HLEN : Hid (l.row.length = o.row.length + i.row.length) := hlen
    have hlen2 : o.row.length + i.row.length + r.row.length ≤ 2097152 := by omega
    clear hlen hb1 hb2 cl cr
    have co := ho.high
    have ci := hi.high
    have lto := ho.lt
    have lti := hi.lt
    have po := hs.fl.pos
    have pi := hs.fr.pos
    by_cases hO : i.sm.high ≤ o.sm.high
    · have hj := rot1 hs fr HD.out hO
      go_wp2_with fail
      go_quiet (fail)
      have hb3 := below_drewN (Below.refl w2.heap.size w2) nq
      generalize w2.drewN nq = w3 at *
      have hB3 := hB2.trans (hb3.mono hB2.size)
      go_wp2_with fail
      refine (paired_p (hi.below hb3) (hr2.below hb3) hs.fr fr (by omega)).mono ?_
      rintro e w4 ⟨g4, rfl, hA4, hb4⟩
      have hB4 := hB3.trans (hb4.mono hB3.size)
      have h34 := hb3.trans (hb4.mono hb3.size)
      go_wp2_with fail
      refine (paired_p (ho.below h34) hA4 hs.fl (hs.fr.pair fr (by have := hs.high; have := HD.out; have := hs.h1; have := hs.h2; omega) (by have := hs.high; have := HD.out; have := hs.h1; have := hs.h2; omega)) (by rw [Tr.row_pair, List.length_append]; omega)).mono ?_
      rintro e w5 ⟨g5, rfl, hA5, hb5⟩
      go_wp2_with fail
      go_ret
      exact ⟨g5, _, rfl, hA5, hj, hB4.trans (hb5.mono hB4.size)⟩
    · have hO2 : o.sm.high < i.sm.high := by omega
      go_wp2_with fail
      go_quiet (fail)
      have hb3 := below_drewN (Below.refl w2.heap.size w2) nq
      generalize w2.drewN nq = w3 at *
      have hB3 := hB2.trans (hb3.mono hB2.size)
      go_wp2_with fail
      refine (sides_p (hi.below hb3) hs.fr (by omega) (by omega)).mono ?_
      rintro e w4 ⟨ga, gb, a, b, rfl, ha4, hb4', hsi, hb4⟩
      have hlen4 := hsi.len
      have hj := rot2 hs hsi fr HD.out hO2
      have q0 := hs.high
      have q1 := HD.out
      have q2 := hs.h1
      have q3 := hs.h2
      have q4 := hsi.high
      have q5 := hsi.h1
      have q6 := hsi.h2
      have HP1 := hs.fl.pair hsi.fl (by omega) (by omega)
      have HP2 := hsi.fr.pair fr (by omega) (by omega)
      have hl4 : o.row.length + a.row.length + (b.row.length + r.row.length) ≤ 2097152 := by omega
      have hB4 := hB3.trans (hb4.mono hB3.size)
      have h34 := hb3.trans (hb4.mono hb3.size)
      have ho4 := ho.below h34
      have hr4 := hr2.below h34
      clear q0 q1 q2 q3 q4 q5 q6 hlen4 h34 hb3 hb4 ho hi hr2 co ci
      go_wp2_with fail
      refine (paired_p ho4 ha4 hs.fl hsi.fl (by omega)).mono ?_
      rintro e w5 ⟨g5, rfl, hA5, hb5⟩
      have hB5 := hB4.trans (hb5.mono hB4.size)
      go_wp2_with fail
      refine (paired_p (hb4'.below hb5) (hr4.below hb5) hsi.fr fr (by omega)).mono ?_
      rintro e w6 ⟨g6, rfl, hA6, hb6⟩
      have hB6 := hB5.trans (hb6.mono hB5.size)
      go_wp2_with fail
      refine (paired_p (hA5.below hb6) hA6 HP1 HP2 (by rw [Tr.row_pair, Tr.row_pair, List.length_append, List.length_append]; omega)).mono ?_
      rintro e w7 ⟨g7, rfl, hA7, hb7⟩
      go_wp2_with fail
      go_ret
      exact ⟨g7, _, rfl, hA7, hj, hB6.trans (hb7.mono hB6.size)⟩
  · by_cases hC : l.sm.high + 1 < r.sm.high
    · have hd : r.sm.high = l.sm.high + 2 := by omega
      have HD : Hid (r.sm.high = l.sm.high + 2) := hd
      have h2r : 2 ≤ r.sm.high := by omega
      clear hd h1 h2
      go_enter Tryz.func120, Tryz.ntmps120
      go_wp2_with fail
      go_quiet (fail)
      have hb1 := below_drewN hb0 nq
      generalize w.drewN nq = w1 at *
      have cl1 := (hb1.cell (p := ⟨gl, 2, none⟩) ltl).trans cl
      have cr1 := (hb1.cell (p := ⟨gr, 2, none⟩) ltr).trans cr
      go_wp2_with fail
      go_quiet (fail)
      have hb1' := hb1.trans ((below_drewN (Below.refl w1.heap.size w1) nq).mono hb1.size)
      generalize w1.drewN nq = w1' at *
      go_wp2_with fail
      refine (sides_p (hr.below hb1') fr h2r (by omega)).mono ?_
      rintro e w2 ⟨gi, go, i, o, rfl, hi, ho, hs, hb2⟩
      have hB2 := hb1'.trans (hb2.mono hb1'.size)
      have hl2 := hl.below hB2
      have hlen := hs.len
      have hlen2 : o.row.length + i.row.length + l.row.length ≤ 2097152 := by omega
      clear hlen hb1 hb1' hb2 cl cr cl1 cr1
      have co := ho.high
      have ci := hi.high
      have lto := ho.lt
      have lti := hi.lt
      have po := hs.fr.pos
      have pi := hs.fl.pos
      by_cases hO : i.sm.high ≤ o.sm.high
      · have hj := rot3 hs fl HD.out hO
        go_wp2_with fail
        go_quiet (fail)
        have hb3 := below_drewN (Below.refl w2.heap.size w2) nq
        generalize w2.drewN nq = w3 at *
        have hB3 := hB2.trans (hb3.mono hB2.size)
        go_wp2_with fail
        refine (paired_p (hl2.below hb3) (hi.below hb3) fl hs.fl (by omega)).mono ?_
        rintro e w4 ⟨g4, rfl, hA4, hb4⟩
        have hB4 := hB3.trans (hb4.mono hB3.size)
        have h34 := hb3.trans (hb4.mono hb3.size)
        go_wp2_with fail
        refine (paired_p hA4 (ho.below h34) (fl.pair hs.fl (by have := hs.high; have := HD.out; have := hs.h1; have := hs.h2; omega) (by have := hs.high; have := HD.out; have := hs.h1; have := hs.h2; omega)) hs.fr (by rw [Tr.row_pair, List.length_append]; omega)).mono ?_
        rintro e w5 ⟨g5, rfl, hA5, hb5⟩
        go_wp2_with fail
        go_ret
        exact ⟨g5, _, rfl, hA5, hj, hB4.trans (hb5.mono hB4.size)⟩
      · have hO2 : o.sm.high < i.sm.high := by omega
        go_wp2_with fail
        go_quiet (fail)
        have hb3 := below_drewN (Below.refl w2.heap.size w2) nq
        generalize w2.drewN nq = w3 at *
        have hB3 := hB2.trans (hb3.mono hB2.size)
        go_wp2_with fail
        refine (sides_p (hi.below hb3) hs.fl (by omega) (by omega)).mono ?_
        rintro e w4 ⟨ga, gb, a, b, rfl, ha4, hb4', hsi, hb4⟩
        have hlen4 := hsi.len
        have hj := rot4 hs hsi fl HD.out hO2
        have q0 := hs.high
        have q1 := HD.out
        have q2 := hs.h1
        have q3 := hs.h2
        have q4 := hsi.high
        have q5 := hsi.h1
        have q6 := hsi.h2
        have HP1 := fl.pair hsi.fl (by omega) (by omega)
        have HP2 := hsi.fr.pair hs.fr (by omega) (by omega)
        have hl4 : l.row.length + a.row.length + (b.row.length + o.row.length) ≤ 2097152 := by omega
        have hB4 := hB3.trans (hb4.mono hB3.size)
        have h34 := hb3.trans (hb4.mono hb3.size)
        have ho4 := ho.below h34
        have hr4 := hl2.below h34
        clear q0 q1 q2 q3 q4 q5 q6 hlen4 h34 hb3 hb4 ho hi hl2 co ci
        go_wp2_with fail
        refine (paired_p hr4 ha4 fl hsi.fl (by omega)).mono ?_
        rintro e w5 ⟨g5, rfl, hA5, hb5⟩
        have hB5 := hB4.trans (hb5.mono hB4.size)
        go_wp2_with fail
        refine (paired_p (hb4'.below hb5) (ho4.below hb5) hsi.fr hs.fr (by omega)).mono ?_
        rintro e w6 ⟨g6, rfl, hA6, hb6⟩
        have hB6 := hB5.trans (hb6.mono hB5.size)
        go_wp2_with fail
        refine (paired_p (hA5.below hb6) hA6 HP1 HP2 (by rw [Tr.row_pair, Tr.row_pair, List.length_append, List.length_append]; omega)).mono ?_
        rintro e w7 ⟨g7, rfl, hA7, hb7⟩
        go_wp2_with fail
        go_ret
        exact ⟨g7, _, rfl, hA7, hj, hB6.trans (hb7.mono hB6.size)⟩
    · have hj := j2_pair fl fr (by omega) (by omega)
      clear h1 h2
      go_enter Tryz.func120, Tryz.ntmps120
      go_wp2_with fail
      go_quiet (fail)
      have hb1 := below_drewN hb0 nq
      generalize w.drewN nq = w1 at *
      have cl1 := (hb1.cell (p := ⟨gl, 2, none⟩) ltl).trans cl
      have cr1 := (hb1.cell (p := ⟨gr, 2, none⟩) ltr).trans cr
      go_wp2_with fail
      go_quiet (fail)
      have hb1' := hb1.trans ((below_drewN (Below.refl w1.heap.size w1) nq).mono hb1.size)
      generalize w1.drewN nq = w1' at *
      go_wp2_with fail
      refine (paired_p (hl.below hb1') (hr.below hb1') fl fr hn).mono ?_
      rintro e w2 ⟨g2, rfl, hA2, hb2⟩
      go_wp2_with fail
      go_ret
      exact ⟨g2, _, rfl, hA2, hj, hb1'.trans (hb2.mono hb1'.size)⟩
end Go.Proofs.YtijpfbcippijoaaGreatDoor

namespace Go.Proofs.YtijpfbcippijoaaGreatDoor
open Go.RowKit Go.Lib
set_option maxRecDepth 100000
def Tr.Can (t : Tr) : Prop := t = .nil ∨ t.Fine
theorem Tr.Can.ok {t : Tr} (h : t.Can) : t.Ok := h.imp id Tr.Fine.wf
theorem Tr.Can.bd {t : Tr} (h : t.Can) : t.Bd := by
  rcases h with rfl | h
  · trivial
  · exact h.bd
theorem Tr.Can.smBd {t : Tr} (h : t.Can) (hn : t.row.length ≤ 2097152) : SmBd t.sm := Tr.smBd h.ok h.bd hn
theorem Tr.Fine.cells_ne {t : Tr} (h : t.Fine) : (t.sm.cells == 0) = false := by
  rw [beq_eq_false_iff_ne]
  have := h.wf.pos
  have := t.sm_cells
  omega
structure JC (a b t : Tr) : Prop where
  lv : t.lv = a.lv ++ b.lv
  can : t.Can
  two : a.Fine → b.Fine → J2 a b t
theorem join_up {a l r b t' t : Tr} (hs : SidesOf a l r) (hh : b.sm.high + 1 < a.sm.high) (h1 : J2 r b t') (h2 : J2 l t' t) : J2 a b t := by
  have a0 := hs.high
  have a1 := hs.h1
  have a2 := hs.h2
  have b1 := h1.lo
  have b2 := h1.hi
  have c1 := h2.lo
  have c2 := h2.hi
  have c3 := h2.ex
  refine ⟨by rw [h2.lv, h1.lv, hs.lv]; simp, h2.fine, ?_, ?_, fun e => by omega⟩
  · by_cases e : t'.sm.high ≤ l.sm.high + 1
    · have := c3 (by omega) e; omega
    · omega
  · by_cases e : t'.sm.high ≤ l.sm.high + 1
    · have := c3 (by omega) e; omega
    · omega
theorem join_up' {a l r b t' t : Tr} (hs : SidesOf b l r) (hh : a.sm.high + 1 < b.sm.high) (h1 : J2 a l t') (h2 : J2 t' r t) : J2 a b t := by
  have a0 := hs.high
  have a1 := hs.h1
  have a2 := hs.h2
  have b1 := h1.lo
  have b2 := h1.hi
  have c1 := h2.lo
  have c2 := h2.hi
  have c3 := h2.ex
  refine ⟨by rw [h2.lv, h1.lv, hs.lv]; simp, h2.fine, ?_, ?_, fun _ e => by omega⟩
  · by_cases e : t'.sm.high ≤ r.sm.high + 1
    · have := c3 e (by omega); omega
    · omega
  · by_cases e : t'.sm.high ≤ r.sm.high + 1
    · have := c3 e (by omega); omega
    · omega
theorem j2_len {a b t : Tr} (h : J2 a b t) : t.row.length = a.row.length + b.row.length := by rw [Tr.row_len, Tr.row_len, Tr.row_len, h.lv, rowOf_append, List.length_append]
set_option maxHeartbeats 4000000 in
theorem join_fine : ∀ (N : Nat) {w : World} {a b : Tr} {ga gb : Nat}, a.sm.high + b.sm.high ≤ (N : Int) → At w a ga → At w b gb → a.Fine → b.Fine → a.row.length + b.row.length ≤ 2097152 →
    Calls Tryz.prog 94 #[.pointer (some ⟨ga, 0, none⟩), .pointer (some ⟨gb, 0, none⟩)] w fun e w' => ∃ g t, e = .returned (.pointer (some ⟨g, 0, none⟩)) ∧ At w' t g ∧ J2 a b t ∧ Below w.heap.size w w' := by
  intro N
  induction N with
  | zero =>
    intro w a b ga gb hN ha hb fa fb hn
    have := fa.pos
    have := fb.pos
    omega
  | succ N ih =>
    intro w a b ga gb hN ha hb fa fb hn
    have IH : Hid (∀ {w : World} {a b : Tr} {ga gb : Nat}, a.sm.high + b.sm.high ≤ (N : Int) → At w a ga → At w b gb → a.Fine → b.Fine → a.row.length + b.row.length ≤ 2097152 → Calls Tryz.prog 94 #[.pointer (some ⟨ga, 0, none⟩), .pointer (some ⟨gb, 0, none⟩)] w fun e w' => ∃ g t, e = .returned (.pointer (some ⟨g, 0, none⟩)) ∧ At w' t g ∧ J2 a b t ∧ Below w.heap.size w w') := ih
    clear ih
    have ca0 := ha.cells
    have cb0 := hb.cells
    have ca := ha.high
    have cb := hb.high
    have za := fa.cells_ne
    have zb := fb.cells_ne
    have ba := (fa.smBd (by omega)).high
    have bb := (fb.smBd (by omega)).high
    have lta := ha.lt
    have ltb := hb.lt
    have pa := fa.pos
    have pb := fb.pos
    have hb0 : Below w.heap.size w w := Below.refl _ _
    by_cases hA : b.sm.high + 1 < a.sm.high
    · go_enter Tryz.func94, Tryz.ntmps94
      go_wp2_with fail
      go_quiet (fail)
      have hb1 := below_drewN hb0 nq
      generalize w.drewN nq = w1 at *
      go_wp2_with fail
      refine (sides_p (ha.below hb1) fa (by omega) (by omega)).mono ?_
      rintro e w2 ⟨gl, gr, l, r, rfl, hl, hr, hs, hb2⟩
      have hB2 := hb1.trans (hb2.mono hb1.size)
      have hlen := hs.len
      have q0 := hs.high
      have q1 := hs.h1
      have q2 := hs.h2
      clear ca cb ca0 cb0
      go_wp2_with fail
      refine (IH.out (by omega) hr (hb.below hB2) hs.fr fb (by omega)).mono ?_
      rintro e w3 ⟨g3, t3, rfl, hA3, hj3, hb3⟩
      have hB3 := hB2.trans (hb3.mono hB2.size)
      have hlen3 := j2_len hj3
      have q3 := hj3.lo
      have q4 := hj3.hi
      go_wp2_with fail
      refine (balanced_any (hl.below hb3) hA3 hs.fl hj3.fine (by omega) (by omega) (by omega)).mono ?_
      rintro e w4 ⟨g4, t4, rfl, hA4, hj4, hb4⟩
      go_wp2_with fail
      go_ret
      exact ⟨g4, t4, rfl, hA4, join_up hs hA hj3 hj4, hB3.trans (hb4.mono hB3.size)⟩
    · by_cases hC : a.sm.high + 1 < b.sm.high
      · go_enter Tryz.func94, Tryz.ntmps94
        go_wp2_with fail
        go_quiet (fail)
        have hb1 := below_drewN hb0 nq
        generalize w.drewN nq = w1 at *
        have ca1 := (hb1.cell (p := ⟨ga, 2, none⟩) lta).trans ca
        have cb1 := (hb1.cell (p := ⟨gb, 2, none⟩) ltb).trans cb
        go_wp2_with fail
        go_quiet (fail)
        have hb1' := hb1.trans ((below_drewN (Below.refl w1.heap.size w1) nq).mono hb1.size)
        generalize w1.drewN nq = w1' at *
        go_wp2_with fail
        refine (sides_p (hb.below hb1') fb (by omega) (by omega)).mono ?_
        rintro e w2 ⟨gl, gr, l, r, rfl, hl, hr, hs, hb2⟩
        have hB2 := hb1'.trans (hb2.mono hb1'.size)
        have hlen := hs.len
        have q0 := hs.high
        have q1 := hs.h1
        have q2 := hs.h2
        clear ca cb ca0 cb0 ca1 cb1 hb1 hb1'
        go_wp2_with fail
        refine (IH.out (by omega) (ha.below hB2) hl fa hs.fl (by omega)).mono ?_
        rintro e w3 ⟨g3, t3, rfl, hA3, hj3, hb3⟩
        have hB3 := hB2.trans (hb3.mono hB2.size)
        have hlen3 := j2_len hj3
        have q3 := hj3.lo
        have q4 := hj3.hi
        go_wp2_with fail
        refine (balanced_any hA3 (hr.below hb3) hj3.fine hs.fr (by omega) (by omega) (by omega)).mono ?_
        rintro e w4 ⟨g4, t4, rfl, hA4, hj4, hb4⟩
        go_wp2_with fail
        go_ret
        exact ⟨g4, t4, rfl, hA4, join_up' hs hC hj3 hj4, hB3.trans (hb4.mono hB3.size)⟩
      · go_enter Tryz.func94, Tryz.ntmps94
        go_wp2_with fail
        go_quiet (fail)
        have hb1 := below_drewN hb0 nq
        generalize w.drewN nq = w1 at *
        have ca1 := (hb1.cell (p := ⟨ga, 2, none⟩) lta).trans ca
        have cb1 := (hb1.cell (p := ⟨gb, 2, none⟩) ltb).trans cb
        go_wp2_with fail
        go_quiet (fail)
        have hb1' := hb1.trans ((below_drewN (Below.refl w1.heap.size w1) nq).mono hb1.size)
        generalize w1.drewN nq = w1' at *
        go_wp2_with fail
        refine (paired_p (ha.below hb1') (hb.below hb1') fa fb hn).mono ?_
        rintro e w2 ⟨g2, rfl, hA2, hb2⟩
        go_wp2_with fail
        go_ret
        exact ⟨g2, _, rfl, hA2, j2_pair fa fb (by omega) (by omega), hb1'.trans (hb2.mono hb1'.size)⟩
theorem sm_nil_cells : (Tr.nil.sm.cells == 0) = true := rfl
set_option maxHeartbeats 1000000 in
theorem join_any {w : World} {a b : Tr} {ga gb : Nat} (ha : At w a ga) (hb : At w b gb) (fa : a.Can) (fb : b.Can) (hn : a.row.length + b.row.length ≤ 2097152) :
    Calls Tryz.prog 94 #[.pointer (some ⟨ga, 0, none⟩), .pointer (some ⟨gb, 0, none⟩)] w fun e w' => ∃ g t, e = .returned (.pointer (some ⟨g, 0, none⟩)) ∧ At w' t g ∧ JC a b t ∧ Below w.heap.size w w' := by
  rcases fa with rfl | fa
  · have ca0 := ha.cells
    have e0 : Tr.nil.sm.cells = 0 := rfl
    rw [e0] at ca0
    go_enter Tryz.func94, Tryz.ntmps94
    go_wp2_with fail
    go_ret
    exact ⟨gb, b, rfl, hb, ⟨rfl, fb, fun h => h.wf.elim⟩, Below.refl _ _⟩
  · rcases fb with rfl | fb
    · have ca0 := ha.cells
      have cb0 := hb.cells
      have e0 : Tr.nil.sm.cells = 0 := rfl
      rw [e0] at cb0
      have za := fa.cells_ne
      go_enter Tryz.func94, Tryz.ntmps94
      go_wp2_with fail
      go_ret
      exact ⟨ga, a, rfl, ha, ⟨by simp [Tr.lv], .inr fa, fun _ h => h.wf.elim⟩, Below.refl _ _⟩
    · have b1 := (fa.smBd (by omega)).high
      have b2 := (fb.smBd (by omega)).high
      refine (join_fine (a.sm.high + b.sm.high).toNat (by omega) ha hb fa fb hn).mono ?_
      rintro e w' ⟨g, t, rfl, hA, hj, hB⟩
      exact ⟨g, t, rfl, hA, ⟨hj.lv, .inr hj.fine, fun _ _ => hj⟩, hB⟩
end Go.Proofs.YtijpfbcippijoaaGreatDoor
