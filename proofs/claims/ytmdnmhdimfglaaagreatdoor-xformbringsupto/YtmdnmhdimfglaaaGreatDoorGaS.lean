import Derived.ProofKit
import Derived.Test.YtmdnmhdimfglaaaGreatDoorProg
import Derived.WalkKit
import Derived.WalkSpells
import Derived.WalkLawsBesides
import Derived.Lib.OthersKept
import Derived.Laws.OwnMore
import Derived.Laws.CopyOwn
import Derived.Maps.AppendAt
import Derived.Deep.QuietTactic
import Derived.BigQuiet
import Derived.BigRegion
import Derived.Deep.RegionWith
namespace Go.Proofs.YtmdnmhdimfglaaaGreatDoor.Sp
def Lies (l : List (Int × Int)) (q : Int) : Prop := ∃ r ∈ l, r.1 ≤ q ∧ q < r.2
def Norm : Int → List (Int × Int) → Prop
  | _, [] => True
  | b, r :: t => b < r.1 ∧ r.1 < r.2 ∧ Norm r.2 t
theorem lies_nil (q : Int) : ¬ Lies [] q := fun ⟨_, h, _⟩ => by cases h
theorem lies_cons (r : Int × Int) (l : List (Int × Int)) (q : Int) : Lies (r :: l) q ↔ (r.1 ≤ q ∧ q < r.2) ∨ Lies l q := by
  constructor
  · rintro ⟨x, hx, h⟩
    rcases List.mem_cons.1 hx with rfl | hx
    · exact .inl h
    · exact .inr ⟨x, hx, h⟩
  · rintro (h | ⟨x, hx, h⟩)
    · exact ⟨r, List.mem_cons_self, h⟩
    · exact ⟨x, List.mem_cons_of_mem _ hx, h⟩
theorem lies_append (l k : List (Int × Int)) (q : Int) : Lies (l ++ k) q ↔ Lies l q ∨ Lies k q := by
  constructor
  · rintro ⟨x, hx, h⟩
    rcases List.mem_append.1 hx with hx | hx
    · exact .inl ⟨x, hx, h⟩
    · exact .inr ⟨x, hx, h⟩
  · rintro (⟨x, hx, h⟩ | ⟨x, hx, h⟩)
    · exact ⟨x, List.mem_append_left _ hx, h⟩
    · exact ⟨x, List.mem_append_right _ hx, h⟩
theorem norm_lt {b : Int} {l : List (Int × Int)} (h : Norm b l) : ∀ r ∈ l, b < r.1 ∧ r.1 < r.2 := by
  induction l generalizing b with
  | nil => intro r hr; cases hr
  | cons x t ih =>
    intro r hr
    rcases List.mem_cons.1 hr with rfl | hr
    · exact ⟨h.1, h.2.1⟩
    · have := ih h.2.2 r hr
      have := h.1
      have := h.2.1
      omega
theorem norm_lies {b : Int} {l : List (Int × Int)} (h : Norm b l) {q : Int} (hq : Lies l q) : b < q := by
  obtain ⟨r, hr, h1, h2⟩ := hq
  have := norm_lt h r hr
  omega
theorem norm_unique {b c : Int} {l k : List (Int × Int)} (hl : Norm b l) (hk : Norm c k) (h : ∀ q, Lies l q ↔ Lies k q) : l = k := by
  induction l generalizing b c k with
  | nil =>
    cases k with
    | nil => rfl
    | cons y u => exact absurd ((h y.1).2 ((lies_cons y u _).2 (.inl ⟨Int.le_refl _, hk.2.1⟩))) (lies_nil _)
  | cons x t ih =>
    cases k with
    | nil => exact absurd ((h x.1).1 ((lies_cons x t _).2 (.inl ⟨Int.le_refl _, hl.2.1⟩))) (lies_nil _)
    | cons y u =>
      have hx : ∀ q, Lies (x :: t) q → x.1 ≤ q := fun q hq => by
        rcases (lies_cons _ _ _).1 hq with hq | hq
        · exact hq.1
        · have := norm_lies hl.2.2 hq; have := hl.2.1; omega
      have hy : ∀ q, Lies (y :: u) q → y.1 ≤ q := fun q hq => by
        rcases (lies_cons _ _ _).1 hq with hq | hq
        · exact hq.1
        · have := norm_lies hk.2.2 hq; have := hk.2.1; omega
      have e1 : x.1 = y.1 := by
        have p1 := hy _ ((h x.1).1 ((lies_cons x t _).2 (.inl ⟨Int.le_refl _, hl.2.1⟩)))
        have p2 := hx _ ((h y.1).2 ((lies_cons y u _).2 (.inl ⟨Int.le_refl _, hk.2.1⟩)))
        omega
      have nx : ¬ Lies (x :: t) x.2 := fun hq => by
        rcases (lies_cons _ _ _).1 hq with hq | hq
        · omega
        · have := norm_lies hl.2.2 hq; omega
      have ny : ¬ Lies (y :: u) y.2 := fun hq => by
        rcases (lies_cons _ _ _).1 hq with hq | hq
        · omega
        · have := norm_lies hk.2.2 hq; omega
      have e2 : x.2 = y.2 := by
        have l1 := hl.2.1
        have l2 := hk.2.1
        rcases Int.lt_trichotomy x.2 y.2 with hlt | heq | hgt
        · exact absurd ((h x.2).2 ((lies_cons y u _).2 (.inl ⟨by omega, hlt⟩))) nx
        · exact heq
        · exact absurd ((h y.2).1 ((lies_cons x t _).2 (.inl ⟨by omega, hgt⟩))) ny
      have e3 : x = y := Prod.ext e1 e2
      subst e3
      congr 1
      refine ih hl.2.2 hk.2.2 fun q => ?_
      constructor
      · intro hq
        have hlt := norm_lies hl.2.2 hq
        rcases (lies_cons _ _ _).1 ((h q).1 ((lies_cons _ _ _).2 (.inr hq))) with h' | h'
        · omega
        · exact h'
      · intro hq
        have hlt := norm_lies hk.2.2 hq
        rcases (lies_cons _ _ _).1 ((h q).2 ((lies_cons _ _ _).2 (.inr hq))) with h' | h'
        · omega
        · exact h'
def chk : Nat → Int → List (Int × Int) → Int × Int
  | _, _, [] => (0, 0)
  | i, b, r :: t => if r.1 < 0 ∨ 1048576 < r.2 ∨ r.2 ≤ r.1 then ((i : Int), 20) else if r.1 ≤ b then ((i : Int), 22) else chk (i + 1) r.2 t
def checkL (l : List (Int × Int)) : Int × Int := if 32768 < l.length then (32768, 21) else chk 0 (-1) l
structure Lst (l : List (Int × Int)) : Prop where
  norm : Norm (-1) l
  top : ∀ r ∈ l, r.2 ≤ 1048576
  few : l.length ≤ 32768
theorem chk_ok {i : Nat} {b : Int} {l : List (Int × Int)} (h : (chk i b l).2 = 0) (hb : -1 ≤ b) : Norm b l ∧ ∀ r ∈ l, r.2 ≤ 1048576 := by
  induction l generalizing i b with
  | nil => exact ⟨trivial, fun r hr => by cases hr⟩
  | cons r t ih =>
    unfold chk at h
    split at h
    · simp at h
    · split at h
      · simp at h
      · rename_i h1 h2
        have := ih h (by omega)
        refine ⟨⟨by omega, by omega, this.1⟩, fun x hx => ?_⟩
        rcases List.mem_cons.1 hx with rfl | hx
        · omega
        · exact this.2 x hx
theorem chk_of {i : Nat} {b : Int} {l : List (Int × Int)} (h : Norm b l) (ht : ∀ r ∈ l, r.2 ≤ 1048576) (hb : -1 ≤ b) : chk i b l = (0, 0) := by
  induction l generalizing i b with
  | nil => rfl
  | cons r t ih =>
    have h1 := h.1
    have h2 := h.2.1
    have h3 := ht r List.mem_cons_self
    unfold chk
    rw [if_neg (by omega), if_neg (by omega)]
    exact ih h.2.2 (fun x hx => ht x (List.mem_cons_of_mem _ hx)) (by omega)
theorem checkL_ok {l : List (Int × Int)} (h : (checkL l).2 = 0) : Lst l := by
  unfold checkL at h
  split at h
  · simp at h
  · have := chk_ok h (by omega)
    exact ⟨this.1, this.2, by omega⟩
theorem Lst.check {l : List (Int × Int)} (h : Lst l) : checkL l = (0, 0) := by
  unfold checkL
  rw [if_neg (by have := h.few; omega)]
  exact chk_of h.norm h.top (by omega)
theorem Lst.nonneg {l : List (Int × Int)} (h : Lst l) : ∀ r ∈ l, 0 ≤ r.1 ∧ r.1 < r.2 ∧ r.2 ≤ 1048576 := fun r hr => by
  have := norm_lt h.norm r hr
  have := h.top r hr
  omega
def addedL (l : List (Int × Int)) (lo hi : Int) : List (Int × Int) :=
  if hi ≤ lo then l else match l.getLast? with
    | none => [(lo, hi)]
    | some r => if lo ≤ r.2 then l.dropLast ++ [(r.1, max r.2 hi)] else l ++ [(lo, hi)]
theorem norm_snoc {b : Int} {l : List (Int × Int)} {r : Int × Int} : Norm b (l ++ [r]) ↔ Norm b l ∧ r.1 < r.2 ∧ b < r.1 ∧ ∀ x, l.getLast? = some x → x.2 < r.1 := by
  induction l generalizing b with
  | nil => simp [Norm]; omega
  | cons y t ih =>
    simp only [List.cons_append, Norm, ih]
    cases t with
    | nil => simp [Norm]; omega
    | cons z u =>
      constructor
      · rintro ⟨h1, h2, h3, h4, h5, h6⟩
        exact ⟨⟨h1, h2, h3⟩, h4, by omega, fun x hx => h6 x (by rw [List.getLast?_cons_cons] at hx; exact hx)⟩
      · rintro ⟨⟨h1, h2, h3⟩, h4, h5, h6⟩
        have h6' : ∀ x, (z :: u).getLast? = some x → x.2 < r.1 := fun x hx => h6 x (by rw [List.getLast?_cons_cons]; exact hx)
        refine ⟨h1, h2, h3, h4, ?_, h6'⟩
        obtain ⟨x, hx⟩ : ∃ x, (z :: u).getLast? = some x := ⟨_, List.getLast?_eq_some_getLast (by simp)⟩
        have hm : x ∈ z :: u := List.mem_of_getLast? hx
        have := norm_lt h3 x hm
        have := h6' x hx
        omega
theorem getLast?_split {α : Type} {l : List α} {r : α} (h : l.getLast? = some r) : l.dropLast ++ [r] = l := by
  obtain ⟨ys, rfl⟩ := List.getLast?_eq_some_iff.1 h
  simp
theorem addedL_norm {b : Int} {l : List (Int × Int)} {lo hi : Int} (h : Norm b l) (hlo : ∀ r ∈ l, r.1 ≤ lo) (hb : b < lo) : Norm b (addedL l lo hi) := by
  unfold addedL
  split
  · exact h
  · rename_i hlt
    cases hg : l.getLast? with
    | none => exact ⟨hb, by simpa using hlt, trivial⟩
    | some r =>
      have hs := getLast?_split hg
      have hm : r ∈ l := List.mem_of_getLast? hg
      have hr := norm_lt h r hm
      have hr2 := hlo r hm
      simp only
      split
      · rw [← hs] at h
        have h' := norm_snoc.1 h
        refine norm_snoc.2 ⟨h'.1, by simp only; omega, h'.2.2.1, h'.2.2.2⟩
      · rename_i h2
        refine norm_snoc.2 ⟨h, by simp only; omega, hb, fun x hx => ?_⟩
        rw [hg] at hx
        cases hx
        simp only
        omega
theorem addedL_lies {l : List (Int × Int)} {lo hi : Int} (hlo : ∀ r ∈ l, r.1 ≤ lo) (hlt : ∀ r ∈ l, r.1 < r.2) (q : Int) : Lies (addedL l lo hi) q ↔ Lies l q ∨ (lo ≤ q ∧ q < hi) := by
  unfold addedL
  split
  · constructor
    · exact .inl
    · rintro (h | h)
      · exact h
      · omega
  · rename_i hlt'
    cases hg : l.getLast? with
    | none =>
      have : l = [] := List.getLast?_eq_none_iff.1 hg
      subst this
      simp [Lies]
    | some r =>
      have hs := getLast?_split hg
      have hm : r ∈ l := List.mem_of_getLast? hg
      have hr := hlo r hm
      have hr2 := hlt r hm
      simp only
      split
      · rw [lies_append]
        conv => rhs; rw [← hs, lies_append]
        simp only [lies_cons, lies_nil, or_false]
        constructor
        · rintro (h | h)
          · exact .inl (.inl h)
          · by_cases hq : q < r.2
            · exact .inl (.inr ⟨h.1, hq⟩)
            · exact .inr ⟨by omega, by omega⟩
        · rintro ((h | h) | h)
          · exact .inl h
          · exact .inr ⟨h.1, by omega⟩
          · exact .inr ⟨by omega, by omega⟩
      · rw [lies_append]
        simp [lies_cons, lies_nil]
theorem addedL_los {l : List (Int × Int)} {lo hi : Int} (hlo : ∀ r ∈ l, r.1 ≤ lo) : ∀ r ∈ addedL l lo hi, r.1 ≤ lo := by
  unfold addedL
  split
  · exact hlo
  · cases hg : l.getLast? with
    | none => intro r hr; simp only [List.mem_singleton] at hr; subst hr; exact Int.le_refl _
    | some x =>
      have hm : x ∈ l := List.mem_of_getLast? hg
      simp only
      split
      · intro r hr
        rcases List.mem_append.1 hr with h | h
        · exact hlo r (List.dropLast_subset _ h)
        · simp only [List.mem_singleton] at h; subst h; exact hlo x hm
      · intro r hr
        rcases List.mem_append.1 hr with h | h
        · exact hlo r h
        · simp only [List.mem_singleton] at h; subst h; exact Int.le_refl _
theorem addedL_length (l : List (Int × Int)) (lo hi : Int) : (addedL l lo hi).length ≤ l.length + 1 ∧ l.length ≤ (addedL l lo hi).length := by
  unfold addedL
  split
  · omega
  · cases hg : l.getLast? with
    | none =>
      have : l = [] := List.getLast?_eq_none_iff.1 hg
      subst this
      simp
    | some x =>
      have hne : l ≠ [] := fun h => by subst h; simp at hg
      have := List.length_pos_iff.2 hne
      simp only
      split
      · simp; omega
      · simp
theorem addedL_top {l : List (Int × Int)} {lo hi T : Int} (ht : ∀ r ∈ l, r.2 ≤ T) (hh : lo < hi → hi ≤ T) : ∀ r ∈ addedL l lo hi, r.2 ≤ T := by
  unfold addedL
  split
  · exact ht
  · have hh := hh (by omega)
    cases hg : l.getLast? with
    | none => intro r hr; simp only [List.mem_singleton] at hr; subst hr; exact hh
    | some x =>
      have hm : x ∈ l := List.mem_of_getLast? hg
      have := ht x hm
      simp only
      split
      · intro r hr
        rcases List.mem_append.1 hr with h | h
        · exact ht r (List.dropLast_subset _ h)
        · simp only [List.mem_singleton] at h; subst h; simp only; omega
      · intro r hr
        rcases List.mem_append.1 hr with h | h
        · exact ht r h
        · simp only [List.mem_singleton] at h; subst h; exact hh
def takenL (l a : List (Int × Int)) (lo hi d : Int) : List (Int × Int) := a.foldl (fun l r => addedL l (max r.1 lo + d) (min r.2 hi + d)) l
def Los (a : List (Int × Int)) : Prop := a.Pairwise fun x y => x.1 ≤ y.1
theorem takenL_all {b : Int} {l a : List (Int × Int)} {lo hi d : Int} (ha : Los a) (h : Norm b l) (hlo : ∀ r ∈ l, ∀ x ∈ a, r.1 ≤ max x.1 lo + d) (hb : ∀ x ∈ a, b < max x.1 lo + d) :
    Norm b (takenL l a lo hi d) ∧ ∀ q, Lies (takenL l a lo hi d) q ↔ Lies l q ∨ (Lies a (q - d) ∧ lo ≤ q - d ∧ q - d < hi) := by
  induction a generalizing l with
  | nil => exact ⟨h, fun q => by simp [takenL, Lies]⟩
  | cons x t ih =>
    have hx : ∀ r ∈ l, r.1 ≤ max x.1 lo + d := fun r hr => hlo r hr x List.mem_cons_self
    have hp := List.pairwise_cons.1 ha
    have hn := addedL_norm (hi := min x.2 hi + d) h hx (hb x List.mem_cons_self)
    have hl2 : ∀ r ∈ addedL l (max x.1 lo + d) (min x.2 hi + d), ∀ y ∈ t, r.1 ≤ max y.1 lo + d := fun r hr y hy => by
      have := addedL_los hx r hr
      have := hp.1 y hy
      omega
    have := ih hp.2 hn hl2 (fun y hy => hb y (List.mem_cons_of_mem _ hy))
    refine ⟨this.1, fun q => ?_⟩
    rw [show takenL l (x :: t) lo hi d = takenL (addedL l (max x.1 lo + d) (min x.2 hi + d)) t lo hi d from rfl, this.2 q, addedL_lies hx (fun r hr => (norm_lt h r hr).2), lies_cons]
    constructor
    · rintro ((h | h) | h)
      · exact .inl h
      · exact .inr ⟨.inl ⟨by omega, by omega⟩, by omega, by omega⟩
      · exact .inr ⟨.inr h.1, h.2⟩
    · rintro (h | ⟨h | h, h2⟩)
      · exact .inl (.inl h)
      · exact .inl (.inr ⟨by omega, by omega⟩)
      · exact .inr ⟨h, h2⟩
theorem takenL_length (l a : List (Int × Int)) (lo hi d : Int) : (takenL l a lo hi d).length ≤ l.length + a.length := by
  induction a generalizing l with
  | nil => simp [takenL]
  | cons x t ih =>
    have := ih (addedL l (max x.1 lo + d) (min x.2 hi + d))
    have := (addedL_length l (max x.1 lo + d) (min x.2 hi + d)).1
    rw [show takenL l (x :: t) lo hi d = takenL (addedL l (max x.1 lo + d) (min x.2 hi + d)) t lo hi d from rfl, List.length_cons]
    omega
theorem norm_los {b : Int} {l : List (Int × Int)} (h : Norm b l) : Los l := by
  induction l generalizing b with
  | nil => exact List.Pairwise.nil
  | cons x t ih =>
    refine List.pairwise_cons.2 ⟨fun y hy => ?_, ih h.2.2⟩
    have := norm_lt h.2.2 y hy
    have := h.2.1
    omega
end Go.Proofs.YtmdnmhdimfglaaaGreatDoor.Sp

namespace Go.Proofs.YtmdnmhdimfglaaaGreatDoor.Sp
open Go.RowKit Go.Lib
set_option maxRecDepth 100000
def flat (l : List (Int × Int)) : List Value := l.flatMap fun r => [.int .i64 r.1, .int .i64 r.2]
theorem flat_length (l : List (Int × Int)) : (flat l).length = l.length * 2 := by
  induction l with
  | nil => rfl
  | cons r t ih => simp only [flat, List.flatMap_cons, List.length_append, List.length_cons, List.length_nil] at ih ⊢; omega
theorem flat_append (l k : List (Int × Int)) : flat (l ++ k) = flat l ++ flat k := by simp [flat]
theorem flat_even (l : List (Int × Int)) (j : Nat) (hj : j < l.length) : (flat l)[j * 2]? = some (.int .i64 (l.getD j (0, 0)).1) ∧ (flat l)[j * 2 + 1]? = some (.int .i64 (l.getD j (0, 0)).2) := by
  induction l generalizing j with
  | nil => simp at hj
  | cons r t ih =>
    cases j with
    | zero => simp [flat]
    | succ j =>
      have := ih j (by simpa using hj)
      have e1 : (j + 1) * 2 = j * 2 + 1 + 1 := by omega
      rw [e1]
      simpa [flat] using this
structure Rng (w : World) (a : Option Addr) (n cap : Nat) (l : List (Int × Int)) : Prop where
  len : l.length = n
  room : n ≤ cap ∧ cap ≤ maxLen
  cells : ∀ j, j < n → ∃ g off, a = some ⟨g, off, none⟩ ∧ g < w.heap.size ∧ w.cell? ⟨g, off + j * 2, none⟩ = some (.int .i64 (l.getD j (0, 0)).1) ∧ w.cell? ⟨g, off + j * 2 + 1, none⟩ = some (.int .i64 (l.getD j (0, 0)).2)
def Under (B : Nat) (a : Option Addr) (n : Nat) : Prop := 0 < n → ∀ g off, a = some ⟨g, off, none⟩ → g < B
theorem Rng.belowB {B : Nat} {w w' : World} {a : Option Addr} {n cap : Nat} {l : List (Int × Int)} (h : Rng w a n cap l) (hu : Under B a n) (hb : Below B w w') : Rng w' a n cap l :=
  ⟨h.len, h.room, fun j hj => by
    obtain ⟨g, off, ha, hg, hc, hd⟩ := h.cells j hj
    have hlt := hu (by omega) g off ha
    exact ⟨g, off, ha, by have := hb.size; omega, (hb.cell (p := ⟨g, off + j * 2, none⟩) hlt).trans hc, (hb.cell (p := ⟨g, off + j * 2 + 1, none⟩) hlt).trans hd⟩⟩
theorem Rng.under {w : World} {a : Option Addr} {n cap : Nat} {l : List (Int × Int)} (h : Rng w a n cap l) : Under w.heap.size a n := fun hn g off ha => by
  obtain ⟨g', off', ha', hg, _⟩ := h.cells 0 hn
  rw [ha] at ha'
  cases ha'
  exact hg
theorem Under.mono {B C : Nat} {a : Option Addr} {n : Nat} (h : Under B a n) (hC : B ≤ C) : Under C a n := fun hn g off ha => by have := h hn g off ha; omega
theorem Rng.below {w w' : World} {a : Option Addr} {n cap : Nat} {l : List (Int × Int)} (h : Rng w a n cap l) (hb : Below w.heap.size w w') : Rng w' a n cap l := h.belowB h.under hb
theorem rng_nil (w : World) : Rng w none 0 0 [] := ⟨rfl, ⟨Nat.le_refl _, Nat.zero_le _⟩, fun _ hj => absurd hj (Nat.not_lt_zero _)⟩
def Own (w : World) (B : Nat) (v : Value) (l : List (Int × Int)) : Prop := w.ownsRow B 91 2 v l.length (flat l)
theorem own_nil (w : World) (B : Nat) : Own w B (.slice none 0 0) [] := World.ownsRow_nil w B _ _
theorem Own.shape {w : World} {B : Nat} {v : Value} {l : List (Int × Int)} (h : Own w B v l) : ∃ a cap, v = .slice a l.length cap := by
  rcases h.2 with ⟨e, h0⟩ | ⟨g, cap, cur, e, _⟩
  · exact ⟨none, 0, by rw [e, h0]⟩
  · exact ⟨_, _, e⟩
theorem Own.below {w w' : World} {B : Nat} {v : Value} {l : List (Int × Int)} (h : Own w B v l) (hb : Below w.heap.size w w') : Own w' B v l := by
  refine ⟨h.1, ?_⟩
  rcases h.2 with h0 | ⟨g, cap, cur, e, h1, hh, rest⟩
  · exact .inl h0
  · exact .inr ⟨g, cap, cur, e, h1, (hb.block g (Array.getElem?_eq_some_iff.1 hh).1).trans hh, rest⟩
theorem Own.mono {w : World} {B C : Nat} {v : Value} {l : List (Int × Int)} (h : Own w B v l) (hC : C ≤ B) : Own w C v l := by
  refine ⟨h.1, ?_⟩
  rcases h.2 with h0 | ⟨g, cap, cur, e, h1, rest⟩
  · exact .inl h0
  · exact .inr ⟨g, cap, cur, e, by omega, rest⟩
theorem Own.rng {w : World} {B n cap : Nat} {a : Option Addr} {l : List (Int × Int)} (h : Own w B (.slice a n cap) l) : Rng w a n cap l := by
  rcases h.2 with ⟨e, h0⟩ | ⟨g, cap', cur, e, _, hh, hn, hm, hsz, htk⟩
  · simp only [Value.slice.injEq] at e
    obtain ⟨rfl, rfl, rfl⟩ := e
    exact ⟨h0, ⟨Nat.le_refl _, Nat.zero_le _⟩, fun j hj => by omega⟩
  · simp only [Value.slice.injEq] at e
    obtain ⟨rfl, rfl, rfl⟩ := e
    refine ⟨rfl, ⟨hn, hm⟩, fun j hj => ⟨g, 0, rfl, (Array.getElem?_eq_some_iff.1 hh).1, ?_⟩⟩
    simp only [Nat.zero_add]
    have key : ∀ i, i < l.length * 2 → cur[i]? = (flat l)[i]? := fun i hi => by
      have e1 : cur.toList[i]? = (flat l)[i]? := by rw [← htk, List.getElem?_take, if_pos hi]
      simpa only [Array.getElem?_toList] using e1
    have := flat_even l j hj
    simp only [World.cell?, hh]
    exact ⟨(key _ (by omega)).trans this.1, (key _ (by omega)).trans this.2⟩
theorem below_grown {B : Nat} {w w' : World} {row : Option Nat} (hg : w.grownBy w' row) (hrow : ∀ k, row = some k → B ≤ k) (hB : B ≤ w.heap.size) : Below B w w' :=
  (Below.refl B w).grown hg hB hrow
theorem rngInfo : (Tryz.prog.info? 91).map (fun i => (i.zero, i.size, i.bytes)) = some (some (.agg #[.int .i64 0, .int .i64 0]), 2, 16) := by kernel_rfl
end Go.Proofs.YtmdnmhdimfglaaaGreatDoor.Sp

namespace Go.Proofs.YtmdnmhdimfglaaaGreatDoor.Sp
open Go.RowKit Go.Lib
set_option maxRecDepth 100000
set_option maxHeartbeats 400000 in
theorem isPart_yes (lo hi : Int) (h : 0 ≤ lo ∧ lo ≤ hi ∧ hi ≤ 1048576) (w : World) :
    Calls Tryz.prog 84 #[.agg #[.int .i64 lo, .int .i64 hi]] w fun e w' => e = .returned (.bool true) ∧ Below w.heap.size w w' := by
  obtain ⟨h1, h2, h3⟩ := h
  go_enter Tryz.func84, Tryz.ntmps84
  go_wp2_with fail
  go_ret
  exact ⟨rfl, (Below.refl _ _).alloc (Nat.le_refl _) _⟩
set_option maxHeartbeats 400000 in
theorem isPart_no (lo hi : Int) (h : ¬ (0 ≤ lo ∧ lo ≤ hi ∧ hi ≤ 1048576)) (w : World) :
    Calls Tryz.prog 84 #[.agg #[.int .i64 lo, .int .i64 hi]] w fun e w' => e = .returned (.bool false) ∧ Below w.heap.size w w' := by
  have hcs : lo < 0 ∨ (0 ≤ lo ∧ hi < lo) ∨ (0 ≤ lo ∧ lo ≤ hi ∧ 1048576 < hi) := by omega
  clear h
  rcases hcs with k1 | ⟨k1, k2⟩ | ⟨k1, k2, k3⟩
  all_goals
    go_enter Tryz.func84, Tryz.ntmps84
    go_wp2_with fail
    go_ret
    first
      | exact ⟨rfl, (Below.refl _ _).alloc (Nat.le_refl _) _⟩
      | exact ⟨congrArg (fun b => Ending.returned (.bool b)) (by simp; omega), (Below.refl _ _).alloc (Nat.le_refl _) _⟩
set_option maxHeartbeats 400000 in
theorem isGap_yes (n : Int) (h : 0 ≤ n ∧ n ≤ 1048576) (w : World) : Calls Tryz.prog 85 #[.int .i64 n] w fun e w' => e = .returned (.bool true) ∧ w' = w := by
  obtain ⟨h1, h2⟩ := h
  go_enter Tryz.func85, Tryz.ntmps85
  go_wp2_with fail
  go_ret
  exact ⟨rfl, rfl⟩
theorem below_drewN {B : Nat} {a w : World} (h : Below B a w) (m : Nat) : Below B a (w.drewN m) := h.trans ⟨rfl, rfl, rfl, Nat.le_refl _, fun _ _ => rfl⟩
def prevHi (l : List (Int × Int)) (j : Nat) : Int := if j = 0 then -1 else (l.getD (j - 1) (0, 0)).2
theorem drop_getD (l : List (Int × Int)) (j : Nat) (hj : j < l.length) : l.drop j = l.getD j (0, 0) :: l.drop (j + 1) := by
  rw [List.getD_eq_getElem?_getD, List.getElem?_eq_getElem hj]
  exact List.drop_eq_getElem_cons hj
set_option maxHeartbeats 2000000 in
theorem check_any {w : World} {a : Option Addr} {n cap : Nat} {l : List (Int × Int)} (h : Rng w a n cap l) :
    Calls Tryz.prog 68 #[.slice a n cap] w fun e w' => e = .returned (.tuple #[.int .i64 (checkL l).1, .int .i64 (checkL l).2]) ∧ Below w.heap.size w w' := by
  have hlen := h.len
  have hroom := h.room
  by_cases hmany : 32768 < n
  · have e0 : checkL l = (32768, 21) := by unfold checkL; rw [if_pos (by omega)]
    rw [e0]
    clear e0 hlen
    go_enter Tryz.func68, Tryz.ntmps68
    go_wp2_with fail
    go_ret2
    exact ⟨rfl, Below.refl _ _⟩
  · obtain ⟨ri, rc, hck⟩ : ∃ i c, checkL l = (i, c) := ⟨_, _, rfl⟩
    have hck2 := hck
    unfold checkL at hck2
    rw [if_neg (by omega)] at hck2
    have HC : Hid (chk 0 (-1) l = (ri, rc)) := hck2
    clear hck2
    rw [hck]
    clear hck
    go_enter Tryz.func68, Tryz.ntmps68
    go_wp2_with fail
    go_loopw [11] (fun i w' => ∃ j : Nat, j ≤ n ∧ i = .int .i64 j ∧ Below w.heap.size w w' ∧ Hid (chk j (prevHi l j) (l.drop j) = (ri, rc))) (fun i _ => n - (RowKit.intOf i).toNat)
    case atStart => exact ⟨0, Nat.zero_le _, rfl, Below.refl _ _, HC⟩
    case round =>
      obtain ⟨j, hjn, rfl, hb, HR⟩ := hrel
      by_cases hj : j < n
      · obtain ⟨g, off, rfl, hg, hc, hd⟩ := h.cells j hj
        have c0 := (hb.cell (p := ⟨g, off + j * 2, none⟩) hg).trans hc
        have c1 := (hb.cell (p := ⟨g, off + j * 2 + 1, none⟩) hg).trans hd
        have HR2 := HR.out
        rw [drop_getD l j (by omega)] at HR2
        obtain ⟨lo, hi, hlh⟩ : ∃ lo hi, l.getD j (0, 0) = (lo, hi) := ⟨_, _, rfl⟩
        rw [hlh] at HR2 c0 c1
        simp only at c0 c1
        have HL : Hid (l.getD j (0, 0) = (lo, hi)) := hlh
        clear hlh hc hd HR
        unfold chk at HR2
        by_cases hp : 0 ≤ lo ∧ lo ≤ hi ∧ hi ≤ 1048576
        · have HP : Hid (∀ w, Calls Tryz.prog 84 #[.agg #[.int .i64 lo, .int .i64 hi]] w fun e w' => e = .returned (.bool true) ∧ Below w.heap.size w w') := isPart_yes lo hi hp
          obtain ⟨p1, p2, p3⟩ := hp
          by_cases he : lo = hi
          · subst he
            rw [if_pos (by simp only; omega)] at HR2
            simp only [Prod.mk.injEq] at HR2
            obtain ⟨rfl, rfl⟩ := HR2
            go_wp2_with fail
            refine (HP.out _).mono ?_
            rintro e w1 ⟨rfl, hb1⟩
            have hs1 := hb1.size
            have c2 : w1.cell? ⟨wr.heap.size, 0, none⟩ = some (.int .i64 lo) := (hb1.cell (p := ⟨wr.heap.size, 0, none⟩) (by simp)).trans (World.cell?_alloc_mark _ _ _ _ _)
            have c3 : w1.cell? ⟨wr.heap.size, 1, none⟩ = some (.int .i64 lo) := (hb1.cell (p := ⟨wr.heap.size, 1, none⟩) (by simp)).trans (World.cell?_alloc_mark _ _ _ _ _)
            have hB1 : Below w.heap.size w w1 := (hb.alloc hb.size _).trans (hb1.mono (by have := hb.size; simp; omega))
            go_wp2_with fail
            go_ret2
            exact ⟨rfl, hB1⟩
          · rw [if_neg (by simp only; omega)] at HR2
            simp only at HR2
            have t1 : (lo == hi) = false := by simp [he]
            by_cases ho : lo ≤ prevHi l j
            · rw [if_pos ho] at HR2
              simp only [Prod.mk.injEq] at HR2
              obtain ⟨rfl, rfl⟩ := HR2
              have hj0 : j ≠ 0 := fun e => by rw [prevHi, if_pos e] at ho; omega
              obtain ⟨i, rfl⟩ : ∃ i, j = i + 1 := ⟨j - 1, by omega⟩
              rw [prevHi, if_neg (by omega), Nat.add_sub_cancel] at ho
              obtain ⟨g', off', hga, hg', _, hd'⟩ := h.cells i (by omega)
              cases hga
              have c4 := (hb.cell (p := ⟨g, off + i * 2 + 1, none⟩) hg).trans hd'
              generalize (l.getD i (0, 0)).2 = ph at ho c4
              clear hd' he
              go_wp2_with fail
              refine (HP.out _).mono ?_
              rintro e w1 ⟨rfl, hb1⟩
              have hs1 := hb1.size
              have c2 : w1.cell? ⟨wr.heap.size, 0, none⟩ = some (.int .i64 lo) := (hb1.cell (p := ⟨wr.heap.size, 0, none⟩) (by simp)).trans (World.cell?_alloc_mark _ _ _ _ _)
              have c3 : w1.cell? ⟨wr.heap.size, 1, none⟩ = some (.int .i64 hi) := (hb1.cell (p := ⟨wr.heap.size, 1, none⟩) (by simp)).trans (World.cell?_alloc_mark _ _ _ _ _)
              have hB1 : Below w.heap.size w w1 := (hb.alloc hb.size _).trans (hb1.mono (by have := hb.size; simp; omega))
              have c5 : w1.cell? ⟨g, off + i * 2 + 1, none⟩ = some (.int .i64 ph) := (hB1.cell (p := ⟨g, off + i * 2 + 1, none⟩) hg).trans ((hb.cell (p := ⟨g, off + i * 2 + 1, none⟩) hg).symm.trans c4)
              clear c4 c0 c1
              go_wp2_with fail
              go_quiet (fail)
              go_wp2_with fail
              go_ret2
              exact ⟨rfl, below_drewN hB1 _⟩
            · rw [if_neg ho] at HR2
              have HN : Hid (chk (j + 1) (prevHi l (j + 1)) (l.drop (j + 1)) = (ri, rc)) := by
                show _ = _
                rw [prevHi, if_neg (by omega), Nat.add_sub_cancel, HL.out]
                exact HR2
              clear HR2 he
              by_cases hj0 : j = 0
              · subst hj0
                simp only [Nat.zero_mul, Nat.add_zero] at c0 c1
                clear ho
                go_wp2_with fail
                refine (HP.out _).mono ?_
                rintro e w1 ⟨rfl, hb1⟩
                have hs1 := hb1.size
                have c2 : w1.cell? ⟨wr.heap.size, 0, none⟩ = some (.int .i64 lo) := (hb1.cell (p := ⟨wr.heap.size, 0, none⟩) (by simp)).trans (World.cell?_alloc_mark _ _ _ _ _)
                have c3 : w1.cell? ⟨wr.heap.size, 1, none⟩ = some (.int .i64 hi) := (hb1.cell (p := ⟨wr.heap.size, 1, none⟩) (by simp)).trans (World.cell?_alloc_mark _ _ _ _ _)
                have hB1 : Below w.heap.size w w1 := (hb.alloc hb.size _).trans (hb1.mono (by have := hb.size; simp; omega))
                clear c0 c1
                go_wp2_with fail
                go_quiet (fail)
                go_wp2_with fail
                go_roundw
                case rel => exact ⟨1, by omega, rfl, below_drewN hB1 _, HN⟩
                case measure => simp [RowKit.intOf]; omega
              · obtain ⟨i, rfl⟩ : ∃ i, j = i + 1 := ⟨j - 1, by omega⟩
                rw [prevHi, if_neg (by omega), Nat.add_sub_cancel] at ho
                obtain ⟨g', off', hga, hg', _, hd'⟩ := h.cells i (by omega)
                cases hga
                have c4 := (hb.cell (p := ⟨g, off + i * 2 + 1, none⟩) hg).trans hd'
                generalize (l.getD i (0, 0)).2 = ph at ho c4
                clear hd' hj0
                go_wp2_with fail
                refine (HP.out _).mono ?_
                rintro e w1 ⟨rfl, hb1⟩
                have hs1 := hb1.size
                have c2 : w1.cell? ⟨wr.heap.size, 0, none⟩ = some (.int .i64 lo) := (hb1.cell (p := ⟨wr.heap.size, 0, none⟩) (by simp)).trans (World.cell?_alloc_mark _ _ _ _ _)
                have c3 : w1.cell? ⟨wr.heap.size, 1, none⟩ = some (.int .i64 hi) := (hb1.cell (p := ⟨wr.heap.size, 1, none⟩) (by simp)).trans (World.cell?_alloc_mark _ _ _ _ _)
                have hB1 : Below w.heap.size w w1 := (hb.alloc hb.size _).trans (hb1.mono (by have := hb.size; simp; omega))
                have c5 : w1.cell? ⟨g, off + i * 2 + 1, none⟩ = some (.int .i64 ph) := (hB1.cell (p := ⟨g, off + i * 2 + 1, none⟩) hg).trans ((hb.cell (p := ⟨g, off + i * 2 + 1, none⟩) hg).symm.trans c4)
                clear c4 c0 c1
                go_wp2_with fail
                go_quiet (fail)
                go_wp2_with fail
                go_roundw
                case rel => exact ⟨i + 1 + 1, by omega, by go_num, below_drewN hB1 _, HN⟩
                case measure => simp [RowKit.intOf]; omega
        · have HP : Hid (∀ w, Calls Tryz.prog 84 #[.agg #[.int .i64 lo, .int .i64 hi]] w fun e w' => e = .returned (.bool false) ∧ Below w.heap.size w w') := isPart_no lo hi hp
          rw [if_pos (by simp only; omega)] at HR2
          simp only [Prod.mk.injEq] at HR2
          obtain ⟨rfl, rfl⟩ := HR2
          clear hp
          go_wp2_with fail
          refine (HP.out _).mono ?_
          rintro e w1 ⟨rfl, hb1⟩
          have hB1 : Below w.heap.size w w1 := (hb.alloc hb.size _).trans (hb1.mono (by have := hb.size; simp; omega))
          go_wp2_with fail
          go_ret2
          exact ⟨rfl, hB1⟩
      · have e1 : l.drop j = [] := List.drop_eq_nil_of_le (by omega)
        have HR2 := HR.out
        rw [e1] at HR2
        simp only [chk, Prod.mk.injEq] at HR2
        obtain ⟨rfl, rfl⟩ := HR2
        go_wp2_with fail
        go_ret2
        exact ⟨rfl, hb⟩
end Go.Proofs.YtmdnmhdimfglaaaGreatDoor.Sp
