import Derived.Test.YtggdocnnbgcniaaDoorRwC
import Derived.Test.YtggdocnnbgcniaaDoorRtH
import Derived.Test.YtggdocnnbgcniaaDoorRrPI
import Derived.Test.YtggdocnnbgcniaaDoorRrKN
/-! span's Count of such a list; what it does to a row that the list is bumped. -/
namespace Go.Proofs.YtggdocnnbgcniaaDoor
open Go.RowKit Go.Lib
set_option maxRecDepth 100000

theorem sumL_take (l : List (Int × Int)) (j : Nat) (x : Int × Int) (hx : l[j]? = some x) : sumL (l.take (j + 1)) = sumL (l.take j) + (x.2 - x.1) := by
  have hj := (List.getElem?_eq_some_iff.1 hx).1
  rw [List.take_add_one, hx, Option.toList_some, sumL_append]
  simp [sumL]
theorem sumL_bound : ∀ (l : List (Int × Int)), (∀ x ∈ l, 0 ≤ x.1 ∧ x.1 < x.2 ∧ x.2 ≤ 1048576) → 0 ≤ sumL l ∧ sumL l ≤ l.length * 1048576
  | [], _ => by simp [sumL]
  | x :: l, h => by
    have h1 := sumL_bound l fun y hy => h y (List.mem_cons_of_mem _ hy)
    have h2 := h x (by simp)
    have e : sumL (x :: l) = (x.2 - x.1) + sumL l := by simp [sumL]
    rw [e, List.length_cons]
    omega
section
variable {w : World} {a : Option Addr} {n cap : Nat} {l : List (Int × Int)}
theorem spanCheck_ok (h : Rw pieceV 2 w a n cap l) (hs : Srt l) (hb : ∀ x ∈ l, 0 ≤ x.1 ∧ x.2 ≤ 1048576) (hn : n ≤ 32768) :
    Calls Tryd.prog 55 #[.slice a n cap] w fun e w' => e = .returned (.tuple #[.int .i64 0, .int .i64 0]) ∧ Below w.heap.size w w' := by
  have HCK := Sp.check_any h.rng
  rw [check_srt hs hb (by rw [h.len]; exact hn)] at HCK
  exact HCK
end
/-! The row. -/
theorem visR_none {l : List (Int × Int)} (h : ∀ c ∈ l, 0 < c.2) : visR l = [] := by
  unfold visR
  rw [List.filter_eq_nil_iff.2 fun c hc => by have := h c hc; simp; omega]
  rfl
section
variable {R l : List (Int × Int)} {F T : Nat}
theorem VInv.hides (hN : Nonneg R) (hFT : F ≤ T) (hT : T ≤ R.length) (h : VInv (F : Int) ((R.take T).drop F) l) : visR (bmp l 1 0 R) = visR (R.take F) ++ visR (R.drop T) := by
  have hC : ((R.take T).drop F).length = T - F := by rw [List.length_drop, List.length_take]; omega
  have e : R = R.take F ++ ((R.take T).drop F ++ R.drop T) := by
    have e1 : R.take F = (R.take T).take F := by rw [List.take_take, Nat.min_eq_left hFT]
    rw [e1, ← List.append_assoc, List.take_append_drop, List.take_append_drop]
  have hl1 : (R.take F).length = F := by rw [List.length_take]; omega
  have h1 : bmp l 1 0 (R.take F) = R.take F := bmp_none _ _ fun q hq1 hq2 => inL_false fun x hx => by have := h.bd x hx; omega
  have h3 : bmp l 1 ((0 : Int) + (R.take F).length + ((R.take T).drop F).length) (R.drop T) = R.drop T := bmp_none _ _ fun q hq1 hq2 => inL_false fun x hx => by have := h.bd x hx; omega
  have h2 : visR (bmp l 1 ((0 : Int) + (R.take F).length) ((R.take T).drop F)) = [] := by
    refine visR_none fun c hc => ?_
    obtain ⟨j, hj⟩ := List.getElem?_of_mem hc
    rw [bmp_get] at hj
    obtain ⟨x, hx, rfl⟩ := Option.map_eq_some_iff.1 hj
    have hm := h.mem j x hx
    have hx0 : 0 ≤ x.2 := hN x (List.mem_of_mem_take (List.mem_of_mem_drop (List.mem_of_getElem? hx)))
    rw [show (0 : Int) + ((R.take F).length : Int) + (j : Int) = (F : Int) + (j : Int) by omega, hm]
    by_cases hz : x.2 ≤ 0
    · simp [hz]; omega
    · simp [hz]; omega
  conv => lhs; rw [e]
  rw [bmp_append, bmp_append, visR_append, visR_append, h1, h2, h3]
  rfl
theorem bmp_back (R l : List (Int × Int)) : bmp l (-1) 0 (bmp l 1 0 R) = R := by
  apply List.ext_getElem?
  intro j
  rw [bmp_get, bmp_get, Option.map_map]
  rcases R[j]? with _ | c
  · rfl
  simp only [Function.comp, Option.map_some, Option.some.injEq]
  by_cases e : inL l (0 + (j : Int)) = true
  · rw [if_pos e, if_pos e]
    exact Prod.ext rfl (by simp only; omega)
  · rw [if_neg e, if_neg e]
theorem VInv.within (hFT : F ≤ T) (hT : T ≤ R.length) (h : VInv (F : Int) ((R.take T).drop F) l) : ∀ x ∈ l, 0 ≤ x.1 ∧ x.2 ≤ (R.length : Int) := fun x hx => by
  have h1 := h.bd x hx
  have hC : ((R.take T).drop F).length = T - F := by rw [List.length_drop, List.length_take]; omega
  omega
end
end Go.Proofs.YtggdocnnbgcniaaDoor

/-! Visible, of a rope that holds a row. -/
namespace Go.Proofs.YtggdocnnbgcniaaDoor
open Go.RowKit Go.Lib
set_option maxRecDepth 100000

/-- The list of the visible cells lo to hi - 1 of a row. -/
structure VisL (R : List (Int × Int)) (lo hi : Nat) (l : List (Int × Int)) : Prop where
  srt : Srt l
  within : ∀ x ∈ l, 0 ≤ x.1 ∧ x.2 ≤ (R.length : Int)
  few : l.length ≤ R.length
  cnt : sumL l = (hi : Int) - (lo : Int)
  hides : visR (bmp l 1 0 R) = (visR R).take lo ++ (visR R).drop hi
  zero : ∀ (j : Nat) c, R[j]? = some c → inL l (j : Int) = true → c.2 ≤ 0
theorem VInv.zero {R : List (Int × Int)} {F T : Nat} (hFT : F ≤ T) (hT : T ≤ R.length) {l : List (Int × Int)} (h : VInv (F : Int) ((R.take T).drop F) l) : ∀ (j : Nat) c, R[j]? = some c → inL l (j : Int) = true → c.2 ≤ 0 := fun j c hc hj => by
  obtain ⟨x, hx, h1, h2⟩ := inL_mem hj
  have hb := h.bd x hx
  rw [List.length_drop, List.length_take] at hb
  have e : ((R.take T).drop F)[j - F]? = some c := by
    rw [List.getElem?_drop, show F + (j - F) = j by omega, List.getElem?_take]
    rw [if_pos (by omega)]
    exact hc
  have hm := h.mem _ _ e
  rw [show (F : Int) + ((j - F : Nat) : Int) = (j : Int) by omega, hj] at hm
  exact of_decide_eq_true hm.symm
theorem visL_of {R : List (Int × Int)} (hN : Nonneg R) {F T lo hi : Nat} (hFT : F ≤ T) (hT : T ≤ R.length) {l : List (Int × Int)} (h : VInv (F : Int) ((R.take T).drop F) l)
    (e1 : visR (R.take F) = (visR R).take lo) (e2 : visR (R.drop T) = (visR R).drop hi) (e3 : ((visR ((R.take T).drop F)).length : Int) = (hi : Int) - (lo : Int)) : VisL R lo hi l :=
  ⟨h.srt, h.within hFT hT, by have := h.few; rw [List.length_drop, List.length_take] at this; omega, by rw [h.cnt, e3], by rw [h.hides hN hFT hT, e1, e2], h.zero hFT hT⟩
theorem vinv_gv {l : List (List Int × Int)} {F T : Nat} : VInv (F : Int) (((rowOf l).take T).drop F) ((gv l 0 (F : Int) (T : Int)).foldl vst []) := by
  have hc := gv_cont l 0 (F : Int) (T : Int)
  have h := VInv.all (gv l 0 (F : Int) (T : Int)) (vinv_nil (F : Int)) (by
    rw [show (F : Int) + (([] : List (Int × Int)).length : Int) = max (F : Int) 0 by simp]
    exact hc)
  rw [gv_cells, List.nil_append] at h
  simpa using h
theorem place_mono {R : List (Int × Int)} {p q : Nat} (h : p ≤ q) (hq : q ≤ vis R) : place R p ≤ place R q := by
  have h1 := place_vis R p (by omega)
  have h2 := place_vis R q hq
  by_cases e : place R p ≤ place R q
  · exact e
  · have h3 := vis_take_mono R (show place R q + 1 ≤ place R p by omega)
    by_cases hl : q < vis R
    · have hlt := place_lt R q hl
      have hz := place_zero R q hl
      rw [List.getD_eq_getElem?_getD, List.getElem?_eq_getElem hlt] at hz
      simp only [Option.getD_some] at hz
      have h4 := vis_take_succ R (place R q) _ (List.getElem?_eq_getElem hlt)
      rw [if_pos hz] at h4
      omega
    · have := place_end R q (by omega)
      have := place_le R p
      omega
theorem vis_behind {R : List (Int × Int)} {q : Nat} (hl : q < vis R) : vis (R.take (place R q + 1)) = q + 1 := by
  have hlt := place_lt R q hl
  have hz := place_zero R q hl
  rw [List.getD_eq_getElem?_getD, List.getElem?_eq_getElem hlt] at hz
  simp only [Option.getD_some] at hz
  have h4 := vis_take_succ R (place R q) _ (List.getElem?_eq_getElem hlt)
  rw [if_pos hz, place_vis R q (by omega)] at h4
  exact h4
theorem Holds.visible {w2 : World} {q : Nat} {R : List (Int × Int)} {W : World} (h : Holds w2 q R W) (ho : ∀ c ∈ R, okR c.1) (hsm : R.length ≤ 31000) (lo hi : Nat) (h1 : lo ≤ hi) (h2 : hi ≤ vis R) :
    Calls Tryd.prog 14 #[.pointer (some ⟨q, 0, none⟩), .int .i64 (lo : Int), .int .i64 (hi : Int)] W fun e W' => ∃ a cap l, e = .returned (.tuple #[.slice a l.length cap, .int .i64 0]) ∧ Rw pieceV 2 W' a l.length cap l ∧ VisL R lo hi l ∧ Holds w2 q R W' ∧ Below W.heap.size W W' := by
  have h' := h
  obtain ⟨t, k1, k2, rfl, k3⟩ := h
  have hN : Nonneg t.row := k2.lo
  obtain ⟨F, T, hst, hvl⟩ : ∃ F T : Nat, (∀ X, Below W.heap.size W X → Calls Tryd.prog 32 #[.pointer (some ⟨q, 0, none⟩), .int .i64 (lo : Int), .int .i64 (hi : Int)] X fun e w' => e = .returned (.tuple #[.int .i64 (F : Int), .int .i64 (T : Int), .int .i64 0]) ∧ Below X.heap.size X w') ∧ VisL t.row lo hi ((gv t.lv 0 (F : Int) (T : Int)).foldl vst []) := by
    by_cases e : lo = hi
    · subst e
      refine ⟨0, 0, fun X hX => stretch_same (k1.below hX) k2.good lo h2, ?_⟩
      have hv := vinv_gv (l := t.lv) (F := 0) (T := 0)
      rw [← Tr.row_lv] at hv
      have := hv.hides hN (Nat.le_refl _) (Nat.zero_le _)
      refine ⟨hv.srt, hv.within (Nat.le_refl _) (Nat.zero_le _), Nat.le_trans hv.few (by simp), by rw [hv.cnt]; simp [visR], ?_, hv.zero (Nat.le_refl _) (Nat.zero_le _)⟩
      rw [this, List.take_append_drop]
      simp [visR]
    · obtain ⟨b, rfl⟩ : ∃ b, hi = b + 1 := ⟨hi - 1, by omega⟩
      refine ⟨place t.row lo, place t.row b + 1, fun X hX => ?_, ?_⟩
      · exact stretch_any (k1.below hX) k2.good lo b (by omega) (by omega)
      · have hv := vinv_gv (l := t.lv) (F := place t.row lo) (T := place t.row b + 1)
        rw [← Tr.row_lv] at hv
        have hm := place_mono (R := t.row) (show lo ≤ b by omega) (by omega)
        have hlt := place_lt t.row b (by omega)
        have s1 := visR_split hN (place t.row lo)
        have s2 := visR_split hN (place t.row b + 1)
        rw [place_vis t.row lo (by omega)] at s1
        rw [vis_behind (by omega)] at s2
        have hlen1 : (visR (t.row.take (place t.row lo))).length = lo := by rw [visR_vis fun x hx => hN x (List.mem_of_mem_take hx), place_vis t.row lo (by omega)]
        have hlen2 : (visR (t.row.take (place t.row b + 1))).length = b + 1 := by rw [visR_vis fun x hx => hN x (List.mem_of_mem_take hx), vis_behind (by omega)]
        have e1 : t.row.take (place t.row b + 1) = t.row.take (place t.row lo) ++ (t.row.take (place t.row b + 1)).drop (place t.row lo) := by
          conv => lhs; rw [← List.take_append_drop (place t.row lo) (t.row.take (place t.row b + 1))]
          rw [List.take_take, Nat.min_eq_left (by omega)]
        have hlen3 : (visR (t.row.take (place t.row b + 1))).length = (visR (t.row.take (place t.row lo))).length + (visR ((t.row.take (place t.row b + 1)).drop (place t.row lo))).length := by
          conv => lhs; rw [e1]
          rw [visR_append, List.length_append]
        exact visL_of hN (by omega) (by omega) hv s1.1.symm s2.2.symm (by omega)
  refine (visible_any k1 k2 (okl_row ho) hsm lo hi F T hst).mono fun e W' ⟨v, he, hown, hb⟩ => ?_
  obtain ⟨a, cap, rfl⟩ := hown.shape
  exact ⟨a, cap, _, he, hown.rw_ layP, hvl, h'.still hb, hb⟩
end Go.Proofs.YtggdocnnbgcniaaDoor
