import Derived.Test.YtcflpiaclnebeaaDoorRrD
namespace Go.Proofs.YtcflpiaclnebeaaDoor
open Go.RowKit Go.Lib
set_option maxRecDepth 100000

theorem visR_cons (c : Int × Int) (l : List (Int × Int)) : visR (c :: l) = if c.2 ≤ 0 then c.1 :: visR l else visR l := by
  unfold visR
  by_cases h : c.2 ≤ 0
  · rw [if_pos h, List.filter_cons_of_pos (by simp [h])]; rfl
  · rw [if_neg h, List.filter_cons_of_neg (by simp; omega)]
theorem visR_vis : ∀ {l : List (Int × Int)}, Nonneg l → (visR l).length = vis l
  | [], _ => rfl
  | c :: l, h => by
    have h0 := h c (by simp)
    rw [visR_cons, vis_cons, ← visR_vis (l := l) (fun x hx => h x (by simp [hx]))]
    by_cases e : c.2 = 0
    · rw [if_pos (by omega), if_pos e]; rfl
    · rw [if_neg (by omega), if_neg e]; omega
theorem visR_place : ∀ (l : List (Int × Int)) (p : Nat), Nonneg l → visR (l.take (place l p)) = (visR l).take p
  | [], p, _ => by simp [visR, place]
  | c :: l, p, h => by
    have h0 := h c (by simp)
    have hl : Nonneg l := fun x hx => h x (by simp [hx])
    by_cases e : c.2 = 0
    · cases p with
      | zero => simp [place, e, visR]
      | succ p =>
        have e1 : place (c :: l) (p + 1) = place l p + 1 := by simp [place, e]; omega
        rw [e1, List.take_succ_cons, visR_cons, visR_cons, if_pos (by omega), if_pos (by omega), List.take_succ_cons, visR_place l p hl]
    · have e1 : place (c :: l) p = place l p + 1 := by cases p <;> simp [place, e] <;> omega
      rw [e1, List.take_succ_cons, visR_cons, visR_cons, if_neg (by omega), if_neg (by omega), visR_place l p hl]
theorem visR_place1 : ∀ (l : List (Int × Int)) (p : Nat), Nonneg l → p < vis l → visR (l.take (place l p + 1)) = (visR l).take (p + 1)
  | [], p, _, hp => by simp [vis, cnt] at hp
  | c :: l, p, h, hp => by
    have h0 := h c (by simp)
    have hl : Nonneg l := fun x hx => h x (by simp [hx])
    rw [vis_cons] at hp
    by_cases e : c.2 = 0
    · rw [if_pos e] at hp
      cases p with
      | zero =>
        have e1 : place (c :: l) 0 = 0 := by simp [place, e]
        rw [e1, List.take_succ_cons, List.take_zero, visR_cons, visR_cons, if_pos (by omega), if_pos (by omega), List.take_succ_cons, List.take_zero]
        rfl
      | succ p =>
        have e1 : place (c :: l) (p + 1) = place l p + 1 := by simp [place, e]; omega
        rw [e1, List.take_succ_cons, visR_cons, visR_cons, if_pos (by omega), if_pos (by omega), List.take_succ_cons, visR_place1 l p hl (by omega)]
    · rw [if_neg e] at hp
      have e1 : place (c :: l) p = place l p + 1 := by cases p <;> simp [place, e] <;> omega
      rw [e1, List.take_succ_cons, visR_cons, visR_cons, if_neg (by omega), if_neg (by omega), visR_place1 l p hl (by omega)]
/-- The visible runes lo to hi - 1. -/
theorem visR_stretch {l : List (Int × Int)} (h : Nonneg l) {lo hi : Nat} (h1 : lo < hi) (h2 : hi ≤ vis l) : visR (cutL l (place l lo : Int) ((place l (hi - 1) : Int) + 1)) = ((visR l).take hi).drop lo := by
  have e1 : ((place l (hi - 1) : Int) + 1).toNat = place l (hi - 1) + 1 := by omega
  have e2 : ((place l lo : Int)).toNat = place l lo := by omega
  unfold cutL
  rw [e1, e2]
  have k1 := visR_place1 l (hi - 1) h (by omega)
  rw [show hi - 1 + 1 = hi by omega] at k1
  have k2 := visR_place l lo h
  have hle : place l lo ≤ place l (hi - 1) + 1 := by
    have a1 := place_vis l lo (by omega)
    have a2 := place_vis l (hi - 1) (by omega)
    by_cases c : place l lo ≤ place l (hi - 1) + 1
    · exact c
    · exfalso
      have m : vis (l.take (place l (hi - 1) + 1)) ≤ vis (l.take (place l lo)) := by
        have e : l.take (place l lo) = l.take (place l (hi - 1) + 1) ++ (l.take (place l lo)).drop (place l (hi - 1) + 1) := by
          conv => lhs; rw [← List.take_append_drop (place l (hi - 1) + 1) (l.take (place l lo))]
          rw [List.take_take, Nat.min_eq_left (by omega)]
        rw [e, vis_append]
        omega
      have n1 : (visR (l.take (place l (hi - 1) + 1))).length = hi := by
        rw [k1, List.length_take, visR_vis h]
        omega
      rw [visR_vis (fun x hx => h x (List.mem_of_mem_take hx))] at n1
      omega
  have k3 : visR (l.take (place l (hi - 1) + 1)) = visR (l.take (place l lo)) ++ visR ((l.take (place l (hi - 1) + 1)).drop (place l lo)) := by
    rw [← visR_append]
    conv => lhs; rw [← List.take_append_drop (place l lo) (l.take (place l (hi - 1) + 1))]
    rw [List.take_take, Nat.min_eq_left hle]
  rw [k1, k2] at k3
  rw [k3, List.drop_left' (by rw [List.length_take, visR_vis h]; omega)]
theorem cutL_all (l : List (Int × Int)) : cutL l 0 (l.length : Int) = l := by
  unfold cutL
  simp
/-- A string of runes. -/
def Tx (s : ByteArray) (rs : List Int) : Prop := s.data.toList = encs rs
set_option maxHeartbeats 1000000 in
theorem ropeText_any {w : World} {q : Nat} {t : Tr} (h : RopeAt w q t) (hR : t.Rp) (hO : Okl t.lv) :
    Calls Tryd.prog 18 #[.pointer (some ⟨q, 0, none⟩)] w fun e w' => ∃ s, e = .returned (.string s) ∧ Tx s (visR t.row) ∧ Below w.heap.size w w' := by
  have HT := ropeTotal_any h
  have HX := textOf_any h hR hO 0 (t.row.length : Int)
  rw [cutL_all] at HX
  unfold ptr at HT
  clear h hR hO
  go_enter Tryd.func18, Tryd.ntmps18
  go_wp2_with fail
  refine HT.mono ?_
  rintro e w1 ⟨rfl, rfl⟩
  go_wp2_with fail
  refine HX.mono ?_
  rintro e w2 ⟨s, rfl, hs, hb⟩
  go_wp2
  go_ret
  exact ⟨s, rfl, hs, hb⟩
end Go.Proofs.YtcflpiaclnebeaaDoor

namespace Go.Proofs.YtcflpiaclnebeaaDoor
open Go.RowKit Go.Lib
set_option maxRecDepth 100000

set_option maxHeartbeats 2000000 in
theorem stretch_same {w : World} {q : Nat} {t : Tr} (h : RopeAt w q t) (hg : t.Good) (a : Nat) (ha : a ≤ vis t.row) :
    Calls Tryd.prog 52 #[.pointer (some ⟨q, 0, none⟩), .int .i64 (a : Int), .int .i64 (a : Int)] w fun e w' => e = .returned (.tuple #[.int .i64 0, .int .i64 0, .int .i64 0]) ∧ Below w.heap.size w w' := by
  have HS : Hid (∀ W, Below w.heap.size w W → Calls Tryd.prog 14 #[.pointer (some ⟨q, 0, none⟩)] W fun e w' => e = .returned (.int .i64 (vis t.row : Int)) ∧ Below W.heap.size W w') := fun W hW => ropeShownR_any (h.below hW) hg
  have hA : (a : Int) ≤ (vis t.row : Int) := by omega
  have hA0 : 0 ≤ (a : Int) := by omega
  clear h hg
  generalize (vis t.row : Int) = V at *
  generalize (a : Int) = A at *
  clear ha
  go_enter Tryd.func52, Tryd.ntmps52
  go_wp2_with fail
  refine (HS.out _ (Below.refl _ _)).mono ?_
  rintro e w1 ⟨rfl, hb1⟩
  go_wp2_with fail
  refine bodyPost_ret (results_tmp3 rfl _ _ _) rfl ?_
  exact ⟨rfl, hb1⟩
set_option maxHeartbeats 2000000 in
theorem stretch_any {w : World} {q : Nat} {t : Tr} (h : RopeAt w q t) (hg : t.Good) (a b : Nat) (ha : a ≤ b) (hb : b < vis t.row) :
    Calls Tryd.prog 52 #[.pointer (some ⟨q, 0, none⟩), .int .i64 (a : Int), .int .i64 ((b : Int) + 1)] w fun e w' => e = .returned (.tuple #[.int .i64 (place t.row a : Int), .int .i64 ((place t.row b : Int) + 1), .int .i64 0]) ∧ Below w.heap.size w w' := by
  have HS : Hid (∀ W, Below w.heap.size w W → Calls Tryd.prog 14 #[.pointer (some ⟨q, 0, none⟩)] W fun e w' => e = .returned (.int .i64 (vis t.row : Int)) ∧ Below W.heap.size W w') := fun W hW => ropeShownR_any (h.below hW) hg
  obtain ⟨g, hc, hA⟩ := h.cell
  have hql := h.lt
  have hlen := hg.len
  have hle := vis_le t.row
  have HO : ∀ p : Nat, p < vis t.row → Hid (∀ W, Below w.heap.size w W → Calls Tryd.prog 39 #[.pointer (some ⟨g, 0, none⟩), .int .i64 (p : Int)] W fun e w' => e = .returned (.int .i64 (place t.row p : Int)) ∧ Below W.heap.size W w') := fun p hlt => show ∀ W, _ from fun W hW => by
    rcases hg.ok with e | hw
    · rw [e] at hlt; simp [Tr.row, vis, cnt] at hlt
    · exact totalOf_dep t.dep t (Nat.le_refl _) (hA.below hW) hw hg.bd hg.nonneg (by omega) p hlt
  have H1 := HO a (by omega)
  have H2 := HO b hb
  have p2 := place_lt t.row b hb
  have q1 : (a : Int) < (b : Int) + 1 := by omega
  have q2 : (b : Int) + 1 ≤ (vis t.row : Int) := by omega
  have q3 : 0 ≤ (a : Int) := by omega
  have q4 : (vis t.row : Int) ≤ 1048576 := by omega
  have q5 : (place t.row b : Int) < 1048576 := by omega
  have q6 : 0 ≤ (place t.row b : Int) := by omega
  obtain ⟨H, hH⟩ : ∃ H : Int, H = (b : Int) + 1 := ⟨_, rfl⟩
  have u0 : IntKind.i64.wrap (H - 1) = (b : Int) := by rw [hH]; rw [IntWalk.i64_in _ (by omega)]; omega
  have u1 : IntKind.i64.wrap ((place t.row b : Int) + 1) = (place t.row b : Int) + 1 := IntWalk.i64_in _ (by omega)
  rw [← hH] at q1 q2 ⊢
  clear h hg hA HO p2 hb ha hle hlen
  generalize (vis t.row : Int) = V at *
  generalize (place t.row b : Int) = P2 at *
  generalize (place t.row a : Int) = P1 at *
  generalize (a : Int) = A at *
  generalize (b : Int) = B at *
  clear hH
  have hcur : Below w.heap.size w w := Below.refl _ _
  go_enter Tryd.func52, Tryd.ntmps52
  go_wp2_with fail
  refine (HS.out _ (Below.refl _ _)).mono ?_
  rintro e w1 ⟨rfl, hb1⟩
  have hcur := hb1
  have k0 := (hb1.cell (p := ⟨q, 0, none⟩) hql).trans hc
  go_wp2_with fail
  go_region_held3 (fun W => W.cell? ⟨q, 0, none⟩ = some (.pointer (some ⟨g, 0, none⟩))) (first | exact k0 | exact e0)
    (first
      | (go_at_call_of 39 (Value.int IntKind.i64 A); refine (H1.out _ ?_).mono ?_; (first | exact hcur | exact hcur.drew); rintro e w2 ⟨rfl, hb2⟩; have hcur : Below w.heap.size w w2 := (by first | exact hcur.trans (hb2.mono hcur.size) | exact hcur.drew.trans (hb2.mono hcur.size)); have e0 := (hcur.cell (p := ⟨q, 0, none⟩) hql).trans hc)
      | (go_at_call_of 39 (Value.int IntKind.i64 B); refine (H2.out _ ?_).mono ?_; (first | exact hcur | exact hcur.drew); rintro e w3 ⟨rfl, hb3⟩; have hcur : Below w.heap.size w w3 := (by first | exact hcur.trans (hb3.mono hcur.size) | exact hcur.drew.trans (hb3.mono hcur.size)); have e0 := (hcur.cell (p := ⟨q, 0, none⟩) hql).trans hc))
  all_goals
    go_wp2_with fail
    refine bodyPost_ret (results_tmp3 rfl _ _ _) rfl ?_
    exact ⟨rfl, hcur⟩
set_option maxHeartbeats 1000000 in
/-- Slice. -/
theorem ropeSlice_any {w : World} {q : Nat} {t : Tr} (h : RopeAt w q t) (hR : t.Rp) (hO : Okl t.lv) (lo hi : Nat) (h1 : lo ≤ hi) (h2 : hi ≤ vis t.row) :
    Calls Tryd.prog 23 #[.pointer (some ⟨q, 0, none⟩), .int .i64 (lo : Int), .int .i64 (hi : Int)] w fun e w' => ∃ s, e = .returned (.tuple #[.string s, .int .i64 0]) ∧ Tx s (((visR t.row).take hi).drop lo) ∧ Below w.heap.size w w' := by
  have HX : Hid (∀ (f u : Int) W, Below w.heap.size w W → Calls Tryd.prog 43 #[.pointer (some ⟨q, 0, none⟩), .int .i64 f, .int .i64 u] W fun e w' => ∃ s, e = .returned (.string s) ∧ s.data.toList = encs (visR (cutL t.row f u)) ∧ Below W.heap.size W w') := fun f u W hW => textOf_any (h.below hW) hR hO f u
  obtain ⟨F, U, HST, HE⟩ : ∃ F U : Int, Hid (Calls Tryd.prog 52 #[.pointer (some ⟨q, 0, none⟩), .int .i64 (lo : Int), .int .i64 (hi : Int)] w fun e w' => e = .returned (.tuple #[.int .i64 F, .int .i64 U, .int .i64 0]) ∧ Below w.heap.size w w') ∧ Hid (visR (cutL t.row F U) = ((visR t.row).take hi).drop lo) := by
    by_cases e : lo = hi
    · subst e
      refine ⟨0, 0, stretch_same h hR.good lo h2, ?_⟩
      show _ = _
      rw [List.drop_eq_nil_of_le (by rw [List.length_take]; omega)]
      simp [cutL, visR]
    · obtain ⟨b, rfl⟩ : ∃ b, hi = b + 1 := ⟨hi - 1, by omega⟩
      refine ⟨_, _, stretch_any h hR.good lo b (by omega) (by omega), ?_⟩
      show _ = _
      have := visR_stretch (l := t.row) hR.lo (lo := lo) (hi := b + 1) (by omega) h2
      rwa [Nat.add_sub_cancel] at this
  clear h hR hO h1 h2
  generalize (lo : Int) = LO at *
  generalize (hi : Int) = HI at *
  go_enter Tryd.func23, Tryd.ntmps23
  go_wp2_with fail
  refine HST.out.mono ?_
  rintro e w1 ⟨rfl, hb1⟩
  go_wp2_with fail
  refine (HX.out F U _ hb1).mono ?_
  rintro e w2 ⟨s, rfl, hs, hb2⟩
  go_wp2_with fail
  go_ret2
  exact ⟨s, rfl, by rw [HE.out] at hs; exact hs, hb1.trans (hb2.mono hb1.size)⟩
end Go.Proofs.YtcflpiaclnebeaaDoor
