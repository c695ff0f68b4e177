import Derived.Test.YtaaegedmilpcfaaDoorRtA
/-! The ranges that meet some places, as a list. -/
namespace Go.Proofs.YtaaegedmilpcfaaDoor
set_option maxRecDepth 100000

/-- Ranges in their order, none touching the next. -/
structure Srt (l : List (Int × Int)) : Prop where
  some_ : ∀ x ∈ l, x.1 < x.2
  apart : ∀ (i j : Nat) x y, i < j → l[i]? = some x → l[j]? = some y → x.2 < y.1
def meetL (lo hi : Int) (l : List (Int × Int)) : List (Int × Int) := l.filter fun x => decide (lo < x.2 ∧ x.1 < hi)
theorem atP_get {l : List (Int × Int)} {k : Nat} (h : k < l.length) : l[k]? = some (atP l k) := by
  unfold atP
  rw [List.getD_eq_getElem?_getD, List.getElem?_eq_getElem h]
  rfl
section
variable {l : List (Int × Int)} (h : Srt l) {lo hi : Int} {i j : Nat}
include h
theorem Srt.mono {k m : Nat} (hkm : k < m) (hm : m < l.length) : (atP l k).1 < (atP l m).1 ∧ (atP l k).2 < (atP l m).2 := by
  have h1 := h.apart k m _ _ hkm (atP_get (by omega)) (atP_get hm)
  have h2 := h.some_ _ (List.mem_of_getElem? (atP_get (k := k) (by omega)))
  have h3 := h.some_ _ (List.mem_of_getElem? (atP_get hm))
  omega
theorem Srt.found1 (hf : Found (fun k => decide (lo < (atP l k).2)) l.length i) : (∀ k, k < i → (atP l k).2 ≤ lo) ∧ ∀ k, i ≤ k → k < l.length → lo < (atP l k).2 := by
  obtain ⟨h1, h2, h3⟩ := hf
  refine ⟨fun k hk => ?_, fun k hk hl => ?_⟩
  · have h4 := h2 (by omega)
    simp only [decide_eq_false_iff_not] at h4
    rcases Nat.lt_or_ge k (i - 1) with e | e
    · have := (h.mono e (by omega)).2; omega
    · obtain rfl : k = i - 1 := by omega
      omega
  · have h4 := h3 (by omega)
    simp only [decide_eq_true_eq] at h4
    rcases Nat.lt_or_ge i k with e | e
    · have := (h.mono e hl).2; omega
    · obtain rfl : k = i := by omega
      exact h4
theorem Srt.found2 (hf : Found (fun k => decide (hi ≤ (atP l k).1)) l.length j) : (∀ k, k < j → (atP l k).1 < hi) ∧ ∀ k, j ≤ k → k < l.length → hi ≤ (atP l k).1 := by
  obtain ⟨h1, h2, h3⟩ := hf
  refine ⟨fun k hk => ?_, fun k hk hl => ?_⟩
  · have h4 := h2 (by omega)
    simp only [decide_eq_false_iff_not] at h4
    rcases Nat.lt_or_ge k (j - 1) with e | e
    · have := (h.mono e (by omega)).1; omega
    · obtain rfl : k = j - 1 := by omega
      omega
  · have h4 := h3 (by omega)
    simp only [decide_eq_true_eq] at h4
    rcases Nat.lt_or_ge j k with e | e
    · have := (h.mono e hl).1; omega
    · obtain rfl : k = j := by omega
      exact h4
theorem Srt.order (hlh : lo ≤ hi) (h1 : Found (fun k => decide (lo < (atP l k).2)) l.length i) (h2 : Found (fun k => decide (hi ≤ (atP l k).1)) l.length j) : i ≤ j := by
  rcases Nat.lt_or_ge j i with e | e
  · have a := (h.found1 h1).1 j e
    have b := (h.found2 h2).2 j (Nat.le_refl _) (by have := h1.1; omega)
    have c := h.some_ _ (List.mem_of_getElem? (atP_get (k := j) (by have := h1.1; omega)))
    omega
  · exact e
theorem Srt.cut (hij : i ≤ j) (h1 : Found (fun k => decide (lo < (atP l k).2)) l.length i) (h2 : Found (fun k => decide (hi ≤ (atP l k).1)) l.length j) : (l.take j).drop i = meetL lo hi l := by
  obtain ⟨f1, f2⟩ := h.found1 h1
  obtain ⟨g1, g2⟩ := h.found2 h2
  have hj := h2.1
  have e : l = l.take i ++ ((l.take j).drop i ++ l.drop j) := by
    have e1 : l = l.take j ++ l.drop j := (List.take_append_drop j l).symm
    have e2 : l.take j = (l.take j).take i ++ (l.take j).drop i := (List.take_append_drop i _).symm
    rw [List.take_take, Nat.min_eq_left hij] at e2
    conv => lhs; rw [e1, e2]
    rw [List.append_assoc]
  have mem : ∀ (m : List (Int × Int)) (P : Int × Int → Prop), (∀ k x, m[k]? = some x → P x) → ∀ x ∈ m, P x := fun m P hm x hx => by
    obtain ⟨k, hk⟩ := List.getElem?_of_mem hx
    exact hm k x hk
  have key : ∀ k x, l[k]? = some x → x = atP l k ∧ k < l.length := fun k x hx => by
    have hl := (List.getElem?_eq_some_iff.1 hx).1
    rw [atP_get hl] at hx
    exact ⟨(Option.some.inj hx).symm, hl⟩
  unfold meetL
  conv => rhs; rw [e]
  rw [List.filter_append, List.filter_append, List.filter_eq_nil_iff.2, List.filter_eq_self.2, List.filter_eq_nil_iff.2]
  · simp
  · refine mem _ _ fun k x hx => ?_
    rw [List.getElem?_drop] at hx
    obtain ⟨rfl, hl⟩ := key _ _ hx
    have := g2 (j + k) (by omega) hl
    simp only [decide_eq_true_eq]
    omega
  · refine mem _ _ fun k x hx => ?_
    rw [List.getElem?_drop, List.getElem?_take] at hx
    split at hx
    · obtain ⟨rfl, hl⟩ := key _ _ hx
      have a := f2 (i + k) (by omega) hl
      have b := g1 (i + k) (by omega)
      simp only [decide_eq_true_eq]
      omega
    · cases hx
  · refine mem _ _ fun k x hx => ?_
    rw [List.getElem?_take] at hx
    split at hx
    · obtain ⟨rfl, hl⟩ := key _ _ hx
      have := f1 k (by omega)
      simp only [decide_eq_true_eq]
      omega
    · cases hx
end
open Go.RowKit Go.Lib
theorem meeting_list {w : World} {a : Option Addr} {n cap : Nat} {l : List (Int × Int)} (h : Rw pieceV 2 w a n cap l) (hn : n ≤ 4294967296) (hs : Srt l) (lo hi : Int) (hlh : lo ≤ hi) :
    Calls Tryd.prog 54 #[.slice a n cap, .int .i64 lo, .int .i64 hi] w fun e w' => ∃ (a' : Option Addr) (cap' : Nat), e = .returned (.slice a' (meetL lo hi l).length cap') ∧ Rw pieceV 2 w' a' (meetL lo hi l).length cap' (meetL lo hi l) ∧ Below w.heap.size w w' := by
  have hl := h.len
  subst hl
  refine (meeting_any h hn lo hi (fun i j h1 h2 => hs.order hlh h1 h2)).mono ?_
  rintro e w' ⟨i, j, a', cap', h1, h2, hij, rfl, hr, hb⟩
  have ec := hs.cut hij h1 h2
  have el := hr.len
  rw [ec] at hr el
  rw [← el] at hr ⊢
  exact ⟨a', cap', rfl, hr, hb⟩
end Go.Proofs.YtaaegedmilpcfaaDoor
