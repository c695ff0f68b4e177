import Derived.Test.YtggdocnnbgcniaaDoorRrPI
import Derived.Test.YtggdocnnbgcniaaDoorRrKN
/-! The visible cells as a list of ranges. -/
namespace Go.Proofs.YtggdocnnbgcniaaDoor
set_option maxRecDepth 100000

/-- Pieces side by side. -/
def Cont : Int → List (Int × List Int × Int) → Prop
  | _, [] => True
  | P, y :: t => y.1 = P ∧ y.2.1 ≠ [] ∧ Cont (P + y.2.1.length) t
theorem gv_behind : ∀ (l : List (List Int × Int)) (f lo hi : Int), hi ≤ f → gv l f lo hi = []
  | [], _, _, _, _ => rfl
  | p :: t, f, lo, hi, h => by
    simp only [gv, one]
    rw [if_neg (by omega), gv_behind t (f + p.1.length) lo hi (by omega)]
    rfl
theorem gv_cont : ∀ (l : List (List Int × Int)) (f lo hi : Int), Cont (max lo f) (gv l f lo hi)
  | [], _, _, _ => trivial
  | p :: t, f, lo, hi => by
    have ih := gv_cont t (f + p.1.length) lo hi
    simp only [gv, one]
    by_cases h : max lo f < min hi (f + p.1.length)
    · rw [if_pos h]
      have hl : ((p.1.take (min hi (f + p.1.length) - f).toNat).drop (max lo f - f).toNat).length = (min hi (f + p.1.length) - max lo f).toNat := by
        rw [List.length_drop, List.length_take]
        omega
      refine ⟨rfl, fun e => ?_, ?_⟩
      · simp only at e
        rw [e] at hl
        simp at hl
        omega
      · show Cont (max lo f + _) (gv t (f + p.1.length) lo hi)
        rw [hl]
        by_cases h2 : f + p.1.length ≤ hi
        · have e : max lo f + ((min hi (f + p.1.length) - max lo f).toNat : Int) = max lo (f + p.1.length) := by omega
          rw [e]
          exact ih
        · rw [gv_behind t _ lo hi (by omega)]
          trivial
    · rw [if_neg h]
      by_cases h2 : f + p.1.length ≤ max lo f
      · have e : max lo f = max lo (f + p.1.length) := by omega
        rw [e]
        exact ih
      · rw [gv_behind t _ lo hi (by omega)]
        trivial
def vst (l : List (Int × Int)) (y : Int × List Int × Int) : List (Int × Int) :=
  if y.2.2 ≤ 0 then (match l.getLast? with
    | some r => if r.2 = y.1 then l.dropLast ++ [(r.1, y.1 + y.2.1.length)] else l ++ [(y.1, y.1 + y.2.1.length)]
    | none => l ++ [(y.1, y.1 + y.2.1.length)]) else l
theorem vst_hid {l : List (Int × Int)} {y : Int × List Int × Int} (h : ¬ y.2.2 ≤ 0) : vst l y = l := by unfold vst; rw [if_neg h]
theorem vst_longer {l : List (Int × Int)} {a : Int} {y : Int × List Int × Int} (h : y.2.2 ≤ 0) : vst (l ++ [(a, y.1)]) y = l ++ [(a, y.1 + y.2.1.length)] := by unfold vst; rw [if_pos h]; simp
theorem vst_one {l : List (Int × Int)} {y : Int × List Int × Int} (h : y.2.2 ≤ 0) (hl : ∀ r, l.getLast? = some r → r.2 ≠ y.1) : vst l y = l ++ [(y.1, y.1 + y.2.1.length)] := by
  unfold vst
  rw [if_pos h]
  cases e : l.getLast? with
  | none => rfl
  | some r => simp only; rw [if_neg (hl r e)]
def sumL (l : List (Int × Int)) : Int := (l.map fun x => x.2 - x.1).sum
theorem sumL_append (l k : List (Int × Int)) : sumL (l ++ k) = sumL l + sumL k := by simp [sumL]
theorem srt_snoc {l : List (Int × Int)} {y : Int × Int} (h : Srt l) (hl : ∀ x ∈ l, x.2 < y.1) (hy : y.1 < y.2) : Srt (l ++ [y]) := by
  refine ⟨fun x hx => ?_, fun i j a b hij ha hb => ?_⟩
  · rcases List.mem_append.1 hx with hx | hx
    · exact h.some_ x hx
    · simp at hx; subst hx; exact hy
  · by_cases hj : j < l.length
    · rw [List.getElem?_append_left hj] at hb
      rw [List.getElem?_append_left (by omega)] at ha
      exact h.apart i j a b hij ha hb
    · rw [List.getElem?_append_right (by omega)] at hb
      have hlt := (List.getElem?_eq_some_iff.1 hb).1
      simp at hlt
      obtain rfl : j = l.length := by omega
      simp at hb
      subst hb
      rw [List.getElem?_append_left hij] at ha
      exact hl a (List.mem_of_getElem? ha)
theorem inL_append (l k : List (Int × Int)) (q : Int) : inL (l ++ k) q = (inL l q || inL k q) := by simp [inL]
/-- Where the list of visible cells stands: the cells C from the place F on are looked at. -/
structure VInv (F : Int) (C : List (Int × Int)) (l : List (Int × Int)) : Prop where
  srt : Srt l
  bd : ∀ x ∈ l, F ≤ x.1 ∧ x.2 ≤ F + C.length
  mem : ∀ (j : Nat) c, C[j]? = some c → inL l (F + j) = decide (c.2 ≤ 0)
  cnt : sumL l = ((visR C).length : Int)
  few : l.length ≤ C.length
theorem vinv_nil (F : Int) : VInv F [] [] := ⟨⟨fun x h => (by cases h), fun i j x y _ h => (by simp at h)⟩, fun x h => (by cases h), fun j c h => (by simp at h), rfl, Nat.le_refl _⟩
theorem VInv.step {F : Int} {C l : List (Int × Int)} (h : VInv F C l) {rs : List Int} {k : Int} (hr : rs ≠ []) : VInv F (C ++ rs.map fun c => (c, k)) (vst l (F + C.length, rs, k)) := by
  have hpos := List.length_pos_iff.2 hr
  have hlen : ((C ++ rs.map fun c => (c, k)).length : Int) = C.length + rs.length := by simp
  have hget : ∀ (j : Nat) c, (C ++ rs.map fun c => (c, k))[j]? = some c → (j < C.length ∧ C[j]? = some c) ∨ (C.length ≤ j ∧ j < C.length + rs.length ∧ c.2 = k) := fun j c hj => by
    by_cases e : j < C.length
    · rw [List.getElem?_append_left e] at hj
      exact .inl ⟨e, hj⟩
    · have hlt := (List.getElem?_eq_some_iff.1 hj).1
      simp at hlt
      rw [List.getElem?_append_right (by omega), List.getElem?_map, Option.map_eq_some_iff] at hj
      obtain ⟨r, _, rfl⟩ := hj
      exact .inr ⟨by omega, by omega, rfl⟩
  have hv : (visR (C ++ rs.map fun c => (c, k))).length = (visR C).length + if k ≤ 0 then rs.length else 0 := by
    rw [visR_append, visR_one, List.length_append]
    split <;> rfl
  by_cases hk : k ≤ 0
  · rw [if_pos hk] at hv
    by_cases hlast : ∃ l0 a, l = l0 ++ [(a, F + (C.length : Int))]
    · obtain ⟨l0, a, rfl⟩ := hlast
      rw [vst_longer (y := (F + (C.length : Int), rs, k)) hk]
      have ha := h.srt.some_ (a, F + (C.length : Int)) (by simp)
      have hbl := h.bd (a, F + (C.length : Int)) (by simp)
      simp only at ha hbl
      have hs0 : Srt l0 := h.srt.sub (List.sublist_append_left _ _)
      have hgap : ∀ x ∈ l0, x.2 < a := fun x hx => by
        obtain ⟨i, hi⟩ := List.getElem?_of_mem hx
        have hil := (List.getElem?_eq_some_iff.1 hi).1
        exact h.srt.apart i l0.length x (a, F + (C.length : Int)) hil (by rw [List.getElem?_append_left hil]; exact hi) (by simp)
      refine ⟨srt_snoc hs0 hgap (by simp only; omega), fun x hx => ?_, fun j c hj => ?_, ?_, ?_⟩
      · rw [hlen]
        rcases List.mem_append.1 hx with hx | hx
        · have := h.bd x (List.mem_append_left _ hx); omega
        · simp at hx; subst hx; simp only; omega
      · rcases hget j c hj with ⟨e, hc⟩ | ⟨e1, e2, hc⟩
        · rw [← h.mem j c hc, inL_append, inL_append]
          congr 1
          simp only [inL, List.any_cons, List.any_nil, Bool.or_false]
          congr 1
          apply propext
          constructor
          · rintro ⟨p1, _⟩; exact ⟨p1, by omega⟩
          · rintro ⟨p1, p2⟩; exact ⟨p1, by omega⟩
        · rw [hc, decide_eq_true hk]
          exact inL_true (x := (a, F + (C.length : Int) + (rs.length : Int))) (by simp) ⟨by simp only; omega, by simp only; omega⟩
      · have := h.cnt
        rw [sumL_append] at this ⊢
        rw [hv]
        simp only [sumL, List.map_cons, List.map_nil, List.sum_cons, List.sum_nil] at this ⊢
        omega
      · have := h.few
        simp at this ⊢
        omega
    · have hne : ∀ r, l.getLast? = some r → r.2 ≠ F + (C.length : Int) := fun r hr2 e => by
        obtain ⟨l0, e0⟩ := List.getLast?_eq_some_iff.1 hr2
        exact hlast ⟨l0, r.1, by rw [e0, ← e]⟩
      rw [vst_one (y := (F + (C.length : Int), rs, k)) hk hne]
      have hgap : ∀ x ∈ l, x.2 < F + (C.length : Int) := fun x hx => by
        have hb := h.bd x hx
        by_cases e : x.2 = F + (C.length : Int)
        · exfalso
          obtain ⟨i, hi⟩ := List.getElem?_of_mem hx
          have hil := (List.getElem?_eq_some_iff.1 hi).1
          by_cases e2 : i + 1 = l.length
          · exact hne x (by rw [List.getLast?_eq_getElem?, show l.length - 1 = i by omega]; exact hi) e
          · have hy : l[l.length - 1]? = some l[l.length - 1] := List.getElem?_eq_getElem (by omega)
            have h1 := h.srt.apart i (l.length - 1) x _ (by omega) hi hy
            have h2 := h.bd _ (List.mem_of_getElem? hy)
            have h3 := h.srt.some_ _ (List.mem_of_getElem? hy)
            omega
        · omega
      refine ⟨srt_snoc h.srt hgap (by simp only; omega), fun x hx => ?_, fun j c hj => ?_, ?_, ?_⟩
      · rw [hlen]
        rcases List.mem_append.1 hx with hx | hx
        · have := h.bd x hx; omega
        · simp at hx; subst hx; simp only; omega
      · rw [inL_append]
        rcases hget j c hj with ⟨e, hc⟩ | ⟨e1, e2, hc⟩
        · rw [← h.mem j c hc, inL_false (l := [(F + (C.length : Int), F + (C.length : Int) + (rs.length : Int))]) (fun x hx => by simp at hx; subst hx; simp only; omega), Bool.or_false]
        · rw [hc, decide_eq_true hk, inL_true (l := [(F + (C.length : Int), F + (C.length : Int) + (rs.length : Int))]) (x := (F + (C.length : Int), F + (C.length : Int) + (rs.length : Int))) (by simp) ⟨by simp only; omega, by simp only; omega⟩, Bool.or_true]
      · rw [sumL_append, h.cnt, hv]
        simp only [sumL, List.map_cons, List.map_nil, List.sum_cons, List.sum_nil]
        omega
      · have := h.few
        simp
        omega
  · rw [if_neg hk] at hv
    rw [vst_hid (y := (F + (C.length : Int), rs, k)) hk]
    refine ⟨h.srt, fun x hx => by rw [hlen]; have := h.bd x hx; omega, fun j c hj => ?_, by rw [h.cnt, hv]; omega, by have := h.few; simp; omega⟩
    rcases hget j c hj with ⟨e, hc⟩ | ⟨e1, e2, hc⟩
    · exact h.mem j c hc
    · rw [hc, decide_eq_false hk]
      exact inL_false fun x hx => by have := h.bd x hx; omega
theorem VInv.all : ∀ (ys : List (Int × List Int × Int)) {F : Int} {C l : List (Int × Int)}, VInv F C l → Cont (F + C.length) ys → VInv F (C ++ cellsG ys) (ys.foldl vst l)
  | [], F, C, l, h, _ => by simpa [cellsG] using h
  | y :: ys, F, C, l, h, hc => by
    obtain ⟨P, rs, k⟩ := y
    obtain ⟨e, hne, hc⟩ := hc
    simp only at e hne hc
    subst e
    have h1 := h.step (k := k) hne
    have h2 := VInv.all ys h1 (by rw [show F + ((C ++ rs.map fun c => (c, k)).length : Int) = F + C.length + rs.length by simp; omega]; exact hc)
    rw [show (C ++ rs.map fun c => (c, k)) ++ cellsG ys = C ++ cellsG ((F + (C.length : Int), rs, k) :: ys) by simp [cellsG]] at h2
    exact h2
end Go.Proofs.YtggdocnnbgcniaaDoor
