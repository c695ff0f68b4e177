import Derived.Test.YtijpfbcippijoaaGreatDoorRrKN
import Derived.Test.YtijpfbcippijoaaGreatDoorRtH
namespace Go.Proofs.YtijpfbcippijoaaGreatDoor
open Go.RowKit Go.Lib
set_option maxRecDepth 100000
def upTo (R : List (Int × Int)) (lo q : Nat) (by_ : Int) : List (Int × Int) := R.mapIdx fun j c => if lo ≤ j ∧ j < q then (c.1, c.2 + by_) else c
theorem upTo_len (R : List (Int × Int)) (lo q : Nat) (by_ : Int) : (upTo R lo q by_).length = R.length := by simp [upTo]
theorem upTo_get (R : List (Int × Int)) (lo q : Nat) (by_ : Int) (j : Nat) : (upTo R lo q by_)[j]? = R[j]?.map fun c => if lo ≤ j ∧ j < q then (c.1, c.2 + by_) else c := by simp [upTo]
theorem upTo_self (R : List (Int × Int)) (lo : Nat) (by_ : Int) : upTo R lo lo by_ = R := by
  apply List.ext_getElem?
  intro j
  rw [upTo_get]
  cases R[j]? with
  | none => rfl
  | some c => simp only [Option.map_some]; rw [if_neg (by omega)]
theorem upTo_succ (R : List (Int × Int)) (lo q : Nat) (by_ : Int) (h : lo ≤ q) (c : Int × Int) (hc : R[q]? = some c) : (upTo R lo q by_).set q (c.1, c.2 + by_) = upTo R lo (q + 1) by_ := by
  have hq := (List.getElem?_eq_some_iff.1 hc).1
  apply List.ext_getElem?
  intro j
  rw [upTo_get, List.getElem?_set, upTo_get, upTo_len]
  by_cases e : q = j
  · subst e
    rw [if_pos rfl, if_pos hq, hc]
    simp only [Option.map_some]
    rw [if_pos (by omega)]
  · rw [if_neg e]
    cases R[j]? with
    | none => rfl
    | some d =>
      simp only [Option.map_some]
      by_cases k : lo ≤ j ∧ j < q
      · rw [if_pos k, if_pos (by omega)]
      · rw [if_neg k, if_neg (by omega)]
def upAll (R : List (Int × Int)) (l : List (Int × Int)) (by_ : Int) : List (Int × Int) := l.foldl (fun R r => upTo R r.1.toNat r.2.toNat by_) R
theorem upAll_len (l : List (Int × Int)) (by_ : Int) : ∀ R : List (Int × Int), (upAll R l by_).length = R.length := by
  induction l with
  | nil => intro R; rfl
  | cons r l ih => intro R; show (upAll (upTo R r.1.toNat r.2.toNat by_) l by_).length = _; rw [ih, upTo_len]
theorem upAll_snoc (R : List (Int × Int)) (l : List (Int × Int)) (r : Int × Int) (by_ : Int) : upAll R (l ++ [r]) by_ = upTo (upAll R l by_) r.1.toNat r.2.toNat by_ := by simp [upAll]
theorem flatC_set : ∀ (l : List (Int × Int)) (i : Nat) (x y z : Int), l[i]? = some (x, y) → (flatF cellV l).set (i * 2 + 1) (.int .i64 z) = flatF cellV (l.set i (x, z))
  | [], i, x, y, z, h => by simp at h
  | c :: l, 0, x, y, z, h => by
    simp at h
    subst h
    rfl
  | c :: l, i + 1, x, y, z, h => by
    have ih := flatC_set l i x y z (by simpa using h)
    have e : (i + 1) * 2 + 1 = (i * 2 + 1) + 1 + 1 := by omega
    rw [e]
    show Value.int .i32 c.1 :: Value.int .i64 c.2 :: (flatF cellV l).set (i * 2 + 1) (.int .i64 z) = _
    rw [ih]
    rfl
theorem OwnF.setHid {w : World} {B g cap : Nat} {l : List (Int × Int)} (h : OwnF cellV 2 63 w B (.slice (some ⟨g, 0, none⟩) l.length cap) l) (i : Nat) (x y z : Int) (hx : l[i]? = some (x, y)) :
    OwnF cellV 2 63 (w.setCell ⟨g, i * 2 + 1, none⟩ (.int .i64 z)) B (.slice (some ⟨g, 0, none⟩) l.length cap) (l.set i (x, z)) := by
  have := (World.ownsRow.stored h (i * 2 + 1) (.int .i64 z)).1
  rw [flatC_set l i x y z hx] at this
  unfold OwnF
  rw [List.length_set]
  exact this
theorem OwnF.ptr {α : Type} {f : α → List Value} {k : Nat} {T : TypeId} {w : World} {B : Nat} {v : Value} {l : List α} (h : OwnF f k T w B v l) (hn : 0 < l.length) : ∃ g cap, v = .slice (some ⟨g, 0, none⟩) l.length cap ∧ B ≤ g ∧ g < w.heap.size ∧ l.length ≤ cap ∧ cap ≤ maxLen ∧ ∀ j, w.frozen? ⟨g, j, none⟩ = false := by
  rcases h.2 with ⟨e, h0⟩ | ⟨g, cap, cur, e, hb, hh, h1, h2, _⟩
  · omega
  · exact ⟨g, cap, e, hb, (Array.getElem?_eq_some_iff.1 hh).1, h1, h2, fun j => frozen_of_row w g j cur _ hh⟩
def Small (M : Int) (R : List (Int × Int)) : Prop := ∀ c ∈ R, -M ≤ c.2 ∧ c.2 ≤ M
theorem Small.up {M : Int} {R : List (Int × Int)} (h : Small M R) (lo q : Nat) {by_ : Int} (h1 : -1 ≤ by_) (h2 : by_ ≤ 1) : Small (M + 1) (upTo R lo q by_) := fun c hc => by
  obtain ⟨j, hj⟩ := List.getElem?_of_mem hc
  rw [upTo_get] at hj
  obtain ⟨d, hd, rfl⟩ := Option.map_eq_some_iff.1 hj
  have := h d (List.mem_of_getElem? hd)
  by_cases k : lo ≤ j ∧ j < q
  · rw [if_pos k]; simp only; omega
  · rw [if_neg k]; omega
end Go.Proofs.YtijpfbcippijoaaGreatDoor

namespace Go.Proofs.YtijpfbcippijoaaGreatDoor
open Go.RowKit Go.Lib
set_option maxRecDepth 100000
theorem kindRg : Kind Tryz.prog 42 76 2 16 := kind_of Tryz.underlying42 (z := .agg #[.int .i64 0, .int .i64 0]) (by kernel_rfl) rfl
structure Chs (R : List (Int × Int)) (down : Bool) (q : Nat) (l : List (Int × Int)) : Prop where
  each : ∀ r ∈ l, 0 ≤ r.1 ∧ r.1 < r.2 ∧ r.2 ≤ (q : Int)
  gap : ∀ (j : Nat) x y, l[j]? = some x → l[j + 1]? = some y → x.2 < y.1
  few : l.length ≤ q
  low : down = true → ∀ r ∈ l, ∀ p : Nat, r.1 ≤ (p : Int) → (p : Int) < r.2 → ∀ c, R[p]? = some c → c.2 ≠ 0
theorem chs_nil (R : List (Int × Int)) (down : Bool) (q : Nat) : Chs R down q [] := ⟨fun r h => (by cases h), fun j x y h => (by simp at h), Nat.zero_le _, fun _ r h => (by cases h)⟩
theorem Chs.skip {R : List (Int × Int)} {down : Bool} {q : Nat} {l : List (Int × Int)} (h : Chs R down q l) : Chs R down (q + 1) l :=
  ⟨fun r hr => by have := h.each r hr; omega, h.gap, by have := h.few; omega, h.low⟩
theorem Chs.longer {R : List (Int × Int)} {down : Bool} {q : Nat} {l : List (Int × Int)} {a : Int} (h : Chs R down q (l ++ [(a, (q : Int))])) (hd : down = true → ∀ c, R[q]? = some c → c.2 ≠ 0) : Chs R down (q + 1) (l ++ [(a, (q : Int) + 1)]) := by
  refine ⟨fun r hr => ?_, fun j x y hx hy => ?_, ?_, fun e r hr p h1 h2 c hc => ?_⟩
  · rcases List.mem_append.1 hr with hr | hr
    · have := h.each r (List.mem_append_left _ hr); omega
    · have := h.each (a, (q : Int)) (by simp)
      simp at hr; subst hr; simp only at this ⊢; omega
  · have hj : j < l.length := by
      have := (List.getElem?_eq_some_iff.1 hy).1
      simp at this; omega
    rw [List.getElem?_append_left hj] at hx
    by_cases e : j + 1 < l.length
    · rw [List.getElem?_append_left e] at hy
      exact h.gap j x y (by rw [List.getElem?_append_left hj]; exact hx) (by rw [List.getElem?_append_left e]; exact hy)
    · have e2 : j + 1 = l.length := by omega
      rw [e2, List.getElem?_append_right (Nat.le_refl _)] at hy
      simp at hy
      subst hy
      exact h.gap j x (a, (q : Int)) (by rw [List.getElem?_append_left hj]; exact hx) (by rw [e2, List.getElem?_append_right (Nat.le_refl _)]; simp)
  · have := h.few; simp at this ⊢; omega
  · rcases List.mem_append.1 hr with hr | hr
    · exact h.low e r (List.mem_append_left _ hr) p h1 h2 c hc
    · simp at hr; subst hr
      simp only at h1 h2
      by_cases ep : p = q
      · subst ep; exact hd e c hc
      · exact h.low e (a, (q : Int)) (by simp) p h1 (by simp only; omega) c hc
theorem Chs.one {R : List (Int × Int)} {down : Bool} {q : Nat} {l : List (Int × Int)} (h : Chs R down q l) (hl : ∀ r, l.getLast? = some r → r.2 ≠ (q : Int)) (hd : down = true → ∀ c, R[q]? = some c → c.2 ≠ 0) : Chs R down (q + 1) (l ++ [((q : Int), (q : Int) + 1)]) := by
  refine ⟨fun r hr => ?_, fun j x y hx hy => ?_, ?_, fun e r hr p h1 h2 c hc => ?_⟩
  · rcases List.mem_append.1 hr with hr | hr
    · have := h.each r hr; omega
    · simp at hr; subst hr; simp only; omega
  · have hj : j < l.length := by
      have := (List.getElem?_eq_some_iff.1 hy).1
      simp at this; omega
    rw [List.getElem?_append_left hj] at hx
    by_cases e : j + 1 < l.length
    · rw [List.getElem?_append_left e] at hy
      exact h.gap j x y hx hy
    · have e2 : j + 1 = l.length := by omega
      rw [e2, List.getElem?_append_right (Nat.le_refl _)] at hy
      simp at hy
      subst hy
      have h3 := h.each x (List.mem_of_getElem? hx)
      have h4 := hl x (by rw [List.getLast?_eq_getElem?, show l.length - 1 = j by omega]; exact hx)
      simp only
      omega
  · have := h.few; simp; omega
  · rcases List.mem_append.1 hr with hr | hr
    · exact h.low e r hr p h1 h2 c hc
    · simp at hr; subst hr
      simp only at h1 h2
      have ep : p = q := by omega
      subst ep
      exact hd e c hc
theorem flatP_set (l : List (Int × Int)) (x y z : Int) : (flatF pieceV (l ++ [(x, y)])).set (l.length * 2 + 1) (.int .i64 z) = flatF pieceV (l ++ [(x, z)]) := by
  unfold flatF
  rw [List.flatMap_append, List.flatMap_append]
  have hl : (List.flatMap pieceV l).length = l.length * 2 := flatF_length layP l
  rw [List.set_append, hl, if_neg (by omega), show l.length * 2 + 1 - l.length * 2 = 1 by omega]
  rfl
theorem OwnF.setLast {w : World} {B g cap : Nat} {l : List (Int × Int)} {x y : Int} (h : OwnF pieceV 2 76 w B (.slice (some ⟨g, 0, none⟩) (l.length + 1) cap) (l ++ [(x, y)])) (z : Int) :
    OwnF pieceV 2 76 (w.setCell ⟨g, l.length * 2 + 1, none⟩ (.int .i64 z)) B (.slice (some ⟨g, 0, none⟩) (l.length + 1) cap) (l ++ [(x, z)]) := by
  have e : ∀ t : Int, (l ++ [(x, t)]).length = l.length + 1 := fun t => by simp
  unfold OwnF at h ⊢
  rw [e] at h ⊢
  have := (World.ownsRow.stored h (l.length * 2 + 1) (.int .i64 z)).1
  rw [flatP_set] at this
  exact this
end Go.Proofs.YtijpfbcippijoaaGreatDoor

namespace Go.Proofs.YtijpfbcippijoaaGreatDoor
open Go.RowKit Go.Lib
set_option maxRecDepth 100000
theorem Holds.bump {w2 : World} {q : Nat} {R : List (Int × Int)} {W : World} (h : Holds w2 q R W) (hq : w2.heap.size ≤ q) {a : Option Addr} {m cap : Nat} {l : List (Int × Int)} (hl : Rw pieceV 2 W a m cap l) (hm : m ≤ 32768) (hs : Srt l) (hb : ∀ x ∈ l, 0 ≤ x.1 ∧ x.2 ≤ (R.length : Int)) (d : Int) (hd : d = 1 ∨ d = -1) (hok : ∀ c ∈ bmp l d 0 R, 0 ≤ c.2 ∧ c.2 ≤ 1048576) :
    Calls Tryz.prog 26 #[.pointer (some ⟨q, 0, none⟩), .slice a m cap, .int .i64 d] W fun e W' => e = .returned (.int .i64 0) ∧ Holds w2 q (bmp l d 0 R) W' := by
  obtain ⟨t, k1, k2, rfl, k3⟩ := h
  exact (bump_any k1 k2 hl hm hs hb d hd hok).mono fun e W' ⟨he, ⟨t', g1, g2, g3⟩, hu⟩ => ⟨he, t', g1, g2, g3, Upd.below k3 hu hq k3.size⟩
theorem upAll_bmp : ∀ (l : List (Int × Int)) (d : Int) (R : List (Int × Int)), Srt l → (∀ x ∈ l, 0 ≤ x.1) → upAll R l d = bmp l d 0 R
  | [], d, R, _, _ => (bmp_none R 0 fun _ _ _ => rfl).symm
  | x :: l, d, R, hs, hb => by
    show upAll (upTo R x.1.toNat x.2.toNat d) l d = _
    rw [upAll_bmp l d _ hs.tail fun y hy => hb y (List.mem_cons_of_mem _ hy)]
    have h0 := hb x (by simp)
    have h1 := hs.some_ x (by simp)
    have hf := hs.first
    apply List.ext_getElem?
    intro j
    rw [bmp_get, bmp_get, upTo_get, Option.map_map]
    congr 1
    funext c
    simp only [Function.comp, Int.zero_add]
    rw [inL_cons]
    by_cases e : x.1 ≤ (j : Int) ∧ (j : Int) < x.2
    · rw [if_pos (show x.1.toNat ≤ j ∧ j < x.2.toNat by omega), inL_false (l := l) fun y hy => by have := hf y hy; omega]
      simp [e]
    · rw [if_neg (show ¬ (x.1.toNat ≤ j ∧ j < x.2.toNat) by omega)]
      simp [e]
theorem Chs.srt {R : List (Int × Int)} {down : Bool} {q : Nat} {l : List (Int × Int)} (h : Chs R down q l) : Srt l := by
  refine ⟨fun x hx => (h.each x hx).2.1, ?_⟩
  have step : ∀ (k i : Nat) x y, l[i]? = some x → l[i + k + 1]? = some y → x.2 < y.1 := by
    intro k
    induction k with
    | zero => intro i x y hx hy; exact h.gap i x y hx hy
    | succ k ih =>
      intro i x y hx hy
      have hlt := (List.getElem?_eq_some_iff.1 hy).1
      have hz : l[i + k + 1]? = some l[i + k + 1] := List.getElem?_eq_getElem (by omega)
      have h1 := ih i x _ hx hz
      have h2 := h.gap (i + k + 1) _ y hz hy
      have h3 := (h.each _ (List.mem_of_getElem? hz)).2.1
      omega
  intro i j x y hij hx hy
  exact step (j - i - 1) i x y hx (by rw [show i + (j - i - 1) + 1 = j by omega]; exact hy)
def Cnt (M : Int) (R : List (Int × Int)) : Prop := ∀ c ∈ R, 0 ≤ c.2 ∧ c.2 ≤ M
theorem inL_mem {l : List (Int × Int)} {q : Int} (h : inL l q = true) : ∃ x ∈ l, x.1 ≤ q ∧ q < x.2 := by
  unfold inL at h
  rw [List.any_eq_true] at h
  obtain ⟨x, hx, h⟩ := h
  exact ⟨x, hx, by simpa using h⟩
theorem Cnt.bump {M : Int} {R : List (Int × Int)} (h : Cnt M R) {down : Bool} {q : Nat} {l : List (Int × Int)} (hc : Chs R down q l) {d : Int} (hd : d = 1 ∨ (d = -1 ∧ down = true)) : Cnt (M + 1) (bmp l d 0 R) := fun c hm => by
  obtain ⟨j, hj⟩ := List.getElem?_of_mem hm
  rw [bmp_get] at hj
  obtain ⟨x, hx, rfl⟩ := Option.map_eq_some_iff.1 hj
  have hx2 := h x (List.mem_of_getElem? hx)
  by_cases e : inL l (0 + (j : Int)) = true
  · rw [if_pos e]
    simp only
    obtain ⟨r, hr, h1, h2⟩ := inL_mem e
    rcases hd with rfl | ⟨rfl, hdn⟩
    · omega
    · have := hc.low hdn r hr j (by omega) (by omega) x hx
      omega
  · rw [if_neg e]
    omega
end Go.Proofs.YtijpfbcippijoaaGreatDoor
