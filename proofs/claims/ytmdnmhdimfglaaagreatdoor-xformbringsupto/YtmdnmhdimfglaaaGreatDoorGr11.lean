import Derived.Test.YtmdnmhdimfglaaaGreatDoorGaA
import Derived.Test.YtmdnmhdimfglaaaGreatDoorGr12
import Derived.Test.YtmdnmhdimfglaaaGreatDoorGaG
namespace Go.Proofs.YtmdnmhdimfglaaaGreatDoor
open Go.RowKit Go.Lib
set_option maxRecDepth 100000
theorem transP_few {o o2 : OpV} (h1 : Right o) (h2 : Right o2) : (transP o o2).1.1.l.length ≤ 65536 ∧ (transP o o2).1.2.l.length ≤ 65536 := by
  unfold transP
  split
  · exact ⟨by simp [op0], by simp [op0]⟩
  · split
    · exact ⟨by simp [op0], by simp [op0]⟩
    · split
      · exact ⟨by simp [op0], by simp [op0]⟩
      · exact ⟨exclP_few h2, by have := inclP_few true (o2 := o2) h1; simp only; omega⟩
theorem transP_s (o o2 : OpV) : (transP o o2).1.1.s.size ≤ max o.s.size o2.s.size ∧ (transP o o2).1.2.s.size ≤ max o.s.size o2.s.size := by
  have e0 : op0.s.size = 0 := rfl
  unfold transP
  split
  · simp only [e0]; omega
  · split
    · simp only [e0]; omega
    · split
      · simp only [e0]; omega
      · have := exclP_s o2 o
        have := inclP_s o o2 true
        simp only
        omega
def Ans2 (w : World) (q : (OpV × OpV) × Int) (e : Ending) (w' : World) : Prop :=
  ∃ va vm vc ya ym yc, e = .returned (.tuple #[opVal q.1.1 (.slice va vm vc), opVal q.1.2 (.slice ya ym yc), .int .i64 q.2]) ∧ OwnF rangeV 2 91 w' w.heap.size (.slice va vm vc) q.1.1.l ∧ OwnF rangeV 2 91 w' w.heap.size (.slice ya ym yc) q.1.2.l ∧ Below w.heap.size w w'
end Go.Proofs.YtmdnmhdimfglaaaGreatDoor

namespace Go.Proofs.YtmdnmhdimfglaaaGreatDoor
open Go.RowKit Go.Lib
set_option maxRecDepth 100000
theorem overEnd_top {L : List (Int × Int)} (h : Sp.Norm (-1) L) (h2 : overEnd L = false) : ∀ r ∈ L, r.2 ≤ 1048576 := by
  intro r hr
  unfold overEnd at h2
  cases hz : L.getLast? with
  | none => rw [List.getLast?_eq_none_iff] at hz; subst hz; cases hr
  | some z =>
    rw [hz] at h2
    have h3 := of_decide_eq_false h2
    have := Sp.lst_last h hz r hr
    omega
theorem lies_ne {L : List (Int × Int)} {q : Int} (h : Sp.Lies L q) : L ≠ [] := fun e => by subst e; exact Sp.lies_nil _ h
theorem insP_at {o : OpV} {t : Int} (h : insP o t = 0) {o' : OpV} (hs : o'.s = o.s) (h0 : 0 ≤ o'.p) (h1 : o'.p + (check o.s).1 ≤ 1048576) : insP o' o'.p = 0 := by
  have hc := insP_code o t h
  unfold insP
  rw [hs, if_neg (by omega), if_neg (by omega), if_neg (by omega), if_neg (by omega), if_neg (by omega)]
theorem Right.at_ {o : OpV} (h : Right o) (hk : o.k = 1) {p' : Int} (h0 : 0 ≤ p') (h1 : p' + widthP o ≤ 1048576) : Right { o with p := p' } := by
  have hw : widthP o = (check o.s).1 := by unfold widthP; rw [if_pos hk]
  have hn := check_nonneg o.s
  refine ⟨h.kind, h.id, ?_, fun _ => ⟨h0, by simp only; omega, insP_at (h.ins hk).2.2 rfl h0 (by simp only; omega)⟩, fun e => ?_, fun e => ?_⟩
  · have := h.extra
    unfold Go.Proofs.YtmdnmhdimfglaaaGreatDoor.extra ext0 extT at this ⊢
    simp only [hk, if_true] at this ⊢
    exact this
  · simp only at e; omega
  · simp only at e; omega
theorem Right.with_ {o : OpV} (h : Right o) (h1 : o.k ≠ 1) (h4 : o.k ≠ 4) {L : List (Int × Int)} (hne : L ≠ []) (hL : Sp.Lst L) : Right { o with l := L } := by
  refine ⟨h.kind, h.id, ?_, fun e => absurd e h1, fun _ => ⟨hne, hL⟩, fun e => absurd e h4⟩
  have := h.extra
  unfold Go.Proofs.YtmdnmhdimfglaaaGreatDoor.extra extP extT at this ⊢
  simp only [if_neg h1, if_neg h4] at this ⊢
  exact this
theorem inclP_right {o f : OpV} {e : Bool} (r1 : Right o) (r2 : Right f) (h0 : (inclP o f e).2 = 0) : Right (inclP o f e).1 := by
  unfold inclP at h0 ⊢
  by_cases hc : clashP o f = true
  · rw [if_pos hc] at h0; cases h0
  rw [if_neg hc] at h0 ⊢
  by_cases hs : f.k ≠ 1 ∨ o.k = 4
  · rw [if_pos hs]; exact r1
  rw [if_neg hs] at h0 ⊢
  have hf1 : f.k = 1 := by omega
  have h4 : o.k ≠ 4 := by omega
  have hp := r2.pos hf1
  have hw := r2.wd
  by_cases h1 : o.k ≠ 1
  · rw [if_pos h1] at h0 ⊢
    unfold thrP at h0 ⊢
    by_cases ht : thrE o.l f.p (widthP f) ≠ 0
    · rw [if_pos ht] at h0; exact absurd h0 ht
    rw [if_neg ht]
    have hl := r1.lst h1 h4
    obtain ⟨hne, _⟩ := r1.rng (by have := r1.kind; omega)
    obtain ⟨q1, q2⟩ := Sp.throughL_all hl (at_ := f.p) (n := widthP f) ⟨hp.1, hp.2.1⟩ ⟨hw.1, by omega⟩
    have hg : growB o.l f.p (widthP f) = false := by
      cases hg : growB o.l f.p (widthP f) with
      | false => rfl
      | true => exact absurd (by unfold thrE; rw [if_pos hg]; decide) ht
    have hfew : (Sp.throughL o.l f.p (widthP f)).length ≤ 32768 := by
      refine Nat.le_of_not_lt fun hh => ht ?_
      unfold thrE
      rw [hg, if_neg (by decide), if_pos hh]
      decide
    refine r1.with_ h1 h4 ?_ ⟨q1, overEnd_top q1 ((over_grow hp.1 hp.2.1 hw.1 hw.2 hl).trans hg), hfew⟩
    obtain ⟨x, hx⟩ := List.exists_mem_of_ne_nil _ hne
    have hx2 := hl.nonneg x hx
    by_cases hlt : x.1 < f.p
    · exact lies_ne ((q2 x.1).2 (.inl ⟨⟨x, hx, Int.le_refl _, by omega⟩, hlt⟩))
    · exact lies_ne ((q2 (x.1 + widthP f)).2 (.inr ⟨⟨x, hx, by omega, by omega⟩, by omega⟩))
  · rw [if_neg h1] at h0 ⊢
    have h1 : o.k = 1 := by omega
    by_cases hb : f.p < o.p ∨ (f.p = o.p ∧ e = true)
    · rw [if_pos hb] at h0 ⊢
      unfold shiftP at h0 ⊢
      by_cases hz : 1048576 < o.p + widthP f + widthP o
      · rw [if_pos hz] at h0; cases h0
      rw [if_neg hz]
      have := r1.pos h1
      exact r1.at_ h1 (by omega) (by omega)
    · rw [if_neg hb]; exact r1
theorem exclP_right {o f : OpV} (r1 : Right o) (r2 : Right f) (h0 : (exclP o f).2 = 0) : Right (exclP o f).1 := by
  unfold exclP at h0 ⊢
  by_cases hc : clashP o f = true
  · rw [if_pos hc] at h0; cases h0
  rw [if_neg hc] at h0 ⊢
  by_cases ht : o.k = 4 ∧ (o.tc = f.c ∧ o.tn = f.n)
  · rw [if_pos ht] at h0; cases h0
  rw [if_neg ht] at h0 ⊢
  by_cases hs : f.k ≠ 1 ∨ o.k = 4
  · rw [if_pos hs]; exact r1
  rw [if_neg hs] at h0 ⊢
  have hf1 : f.k = 1 := by omega
  have h4 : o.k ≠ 4 := by omega
  have hp := r2.pos hf1
  by_cases h1 : o.k ≠ 1
  · rw [if_pos h1] at h0 ⊢
    unfold backP at h0 ⊢
    by_cases hb : Sp.backInL o.l f.p (widthP f) ≠ []
    · rw [if_pos hb] at h0; cases h0
    rw [if_neg hb]
    have hin : Sp.backInL o.l f.p (widthP f) = [] := Classical.not_not.1 hb
    have hl := r1.lst h1 h4
    obtain ⟨hne, _⟩ := r1.rng (by have := r1.kind; omega)
    obtain ⟨q1, q2⟩ := Sp.backOldL_all hl (at_ := f.p) (n := widthP f) ⟨hp.1, hp.2.1⟩
    obtain ⟨_, b2⟩ := Sp.backInL_all hl (at_ := f.p) (n := widthP f)
    refine r1.with_ h1 h4 ?_ ⟨q1, overEnd_top q1 (back_end hp.1 hp.2.1 (by omega) hl), back_few hp.1 (by omega) hl hin⟩
    obtain ⟨x, hx⟩ := List.exists_mem_of_ne_nil _ hne
    have hx2 := hl.nonneg x hx
    by_cases hlt : x.1 < f.p
    · exact lies_ne ((q2 x.1).2 (.inl ⟨⟨x, hx, Int.le_refl _, by omega⟩, hlt⟩))
    · by_cases hge : f.p + widthP f ≤ x.1
      · exact lies_ne ((q2 (x.1 - widthP f)).2 (.inr ⟨⟨x, hx, by omega, by omega⟩, by omega⟩))
      · have : Sp.Lies (Sp.backInL o.l f.p (widthP f)) (x.1 - f.p) := (b2 _).2 ⟨⟨x, hx, by omega, by omega⟩, by omega, by omega⟩
        exact absurd this (by rw [hin]; exact Sp.lies_nil _)
  · rw [if_neg h1] at h0 ⊢
    have h1 : o.k = 1 := by omega
    have := r1.pos h1
    unfold outP at h0 ⊢
    by_cases hb : f.p + widthP f ≤ o.p
    · rw [if_pos hb]
      exact r1.at_ h1 (by omega) (by omega)
    rw [if_neg hb] at h0 ⊢
    by_cases hz : f.p < o.p
    · rw [if_pos hz] at h0; cases h0
    · rw [if_neg hz]; exact r1
theorem transP_right {a b : OpV} (r1 : Right a) (r2 : Right b) (h0 : (transP a b).2 = 0) : Right (transP a b).1.1 ∧ Right (transP a b).1.2 := by
  unfold transP at h0 ⊢
  by_cases h1 : (exclP b a).2 ≠ 0
  · rw [if_pos h1] at h0; exact absurd h0 h1
  rw [if_neg h1] at h0 ⊢
  by_cases h2 : orderedP a b = true
  · rw [if_pos h2] at h0; cases h0
  rw [if_neg h2] at h0 ⊢
  by_cases h3 : (inclP a b true).2 ≠ 0
  · rw [if_pos h3] at h0; exact absurd h0 h3
  rw [if_neg h3]
  exact ⟨exclP_right r2 r1 (Classical.not_not.1 h1), inclP_right r1 r2 (Classical.not_not.1 h3)⟩
theorem firstErr_all : ∀ {L : List OpV}, firstErr L = 0 → ∀ x ∈ L, Right x
  | [], _, x, hx => by cases hx
  | o :: t, h, x, hx => by
    unfold firstErr at h
    by_cases h1 : ownP o ≠ 0
    · rw [if_pos h1] at h; exact absurd h h1
    · rw [if_neg h1] at h
      rcases List.mem_cons.1 hx with rfl | hx
      · exact right_of (Classical.not_not.1 h1)
      · exact firstErr_all h x hx
end Go.Proofs.YtmdnmhdimfglaaaGreatDoor
