import Derived.Test.YtijpfbcippijoaaGreatDoorGr18
import Derived.Test.YtijpfbcippijoaaGreatDoorRtH
import Derived.Test.YtijpfbcippijoaaGreatDoorGr22
namespace Go.Proofs.YtijpfbcippijoaaGreatDoor
open Go.RowKit Go.Lib
set_option maxRecDepth 100000
def upTo (R : List (Int × Int)) (lo q : Nat) (by_ : Int) : List (Int × Int) := R.mapIdx fun j c => if lo ≤ j ∧ j < q then (c.1, c.2 + by_) else c
theorem upTo_get (R : List (Int × Int)) (lo q : Nat) (by_ : Int) (j : Nat) : (upTo R lo q by_)[j]? = R[j]?.map fun c => if lo ≤ j ∧ j < q then (c.1, c.2 + by_) else c := by simp [upTo]
theorem OwnF.ptr {α : Type} {f : α → List Value} {k : Nat} {T : TypeId} {w : World} {B : Nat} {v : Value} {l : List α} (h : OwnF f k T w B v l) (hn : 0 < l.length) : ∃ g cap, v = .slice (some ⟨g, 0, none⟩) l.length cap ∧ B ≤ g ∧ g < w.heap.size ∧ l.length ≤ cap ∧ cap ≤ maxLen ∧ ∀ j, w.frozen? ⟨g, j, none⟩ = false := by
  rcases h.2 with ⟨e, h0⟩ | ⟨g, cap, cur, e, hb, hh, h1, h2, _⟩
  · omega
  · exact ⟨g, cap, e, hb, (Array.getElem?_eq_some_iff.1 hh).1, h1, h2, fun j => frozen_of_row w g j cur _ hh⟩
def Small (M : Int) (R : List (Int × Int)) : Prop := ∀ c ∈ R, -M ≤ c.2 ∧ c.2 ≤ M
theorem Small.up {M : Int} {R : List (Int × Int)} (h : Small M R) (lo q : Nat) {by_ : Int} (h1 : -1 ≤ by_) (h2 : by_ ≤ 1) : Small (M + 1) (upTo R lo q by_) := fun c hc => by
  obtain ⟨j, hj⟩ := List.getElem?_of_mem hc
  rw [upTo_get] at hj
  obtain ⟨d, hd, rfl⟩ := Option.map_eq_some_iff.1 hj
  have := h d (List.mem_of_getElem? hd)
  by_cases k : lo ≤ j ∧ j < q
  · rw [if_pos k]; simp only; omega
  · rw [if_neg k]; omega
end Go.Proofs.YtijpfbcippijoaaGreatDoor

namespace Go.Proofs.YtijpfbcippijoaaGreatDoor
open Go.RowKit Go.Lib
set_option maxRecDepth 100000
structure Chs (R : List (Int × Int)) (down : Bool) (q : Nat) (l : List (Int × Int)) : Prop where
  each : ∀ r ∈ l, 0 ≤ r.1 ∧ r.1 < r.2 ∧ r.2 ≤ (q : Int)
  gap : ∀ (j : Nat) x y, l[j]? = some x → l[j + 1]? = some y → x.2 < y.1
  few : l.length ≤ q
  low : down = true → ∀ r ∈ l, ∀ p : Nat, r.1 ≤ (p : Int) → (p : Int) < r.2 → ∀ c, R[p]? = some c → c.2 ≠ 0
theorem Chs.skip {R : List (Int × Int)} {down : Bool} {q : Nat} {l : List (Int × Int)} (h : Chs R down q l) : Chs R down (q + 1) l :=
  ⟨fun r hr => by have := h.each r hr; omega, h.gap, by have := h.few; omega, h.low⟩
theorem Chs.one {R : List (Int × Int)} {down : Bool} {q : Nat} {l : List (Int × Int)} (h : Chs R down q l) (hl : ∀ r, l.getLast? = some r → r.2 ≠ (q : Int)) (hd : down = true → ∀ c, R[q]? = some c → c.2 ≠ 0) : Chs R down (q + 1) (l ++ [((q : Int), (q : Int) + 1)]) := by
  refine ⟨fun r hr => ?_, fun j x y hx hy => ?_, ?_, fun e r hr p h1 h2 c hc => ?_⟩
  · rcases List.mem_append.1 hr with hr | hr
    · have := h.each r hr; omega
    · simp at hr; subst hr; simp only; omega
  · have hj : j < l.length := by
      have := (List.getElem?_eq_some_iff.1 hy).1
      simp at this; omega
    rw [List.getElem?_append_left hj] at hx
    by_cases e : j + 1 < l.length
    · rw [List.getElem?_append_left e] at hy
      exact h.gap j x y hx hy
    · have e2 : j + 1 = l.length := by omega
      rw [e2, List.getElem?_append_right (Nat.le_refl _)] at hy
      simp at hy
      subst hy
      have h3 := h.each x (List.mem_of_getElem? hx)
      have h4 := hl x (by rw [List.getLast?_eq_getElem?, show l.length - 1 = j by omega]; exact hx)
      simp only
      omega
  · have := h.few; simp; omega
  · rcases List.mem_append.1 hr with hr | hr
    · exact h.low e r hr p h1 h2 c hc
    · simp at hr; subst hr
      simp only at h1 h2
      have ep : p = q := by omega
      subst ep
      exact hd e c hc
end Go.Proofs.YtijpfbcippijoaaGreatDoor

namespace Go.Proofs.YtijpfbcippijoaaGreatDoor
open Go.RowKit Go.Lib
set_option maxRecDepth 100000
end Go.Proofs.YtijpfbcippijoaaGreatDoor

namespace Go.Proofs.YtijpfbcippijoaaGreatDoor
open Go.RowKit Go.Lib
set_option maxRecDepth 100000
theorem box9 {W : World} {b : Nat} {T : TypeId} {v0 v1 v2 v3 v4 v5 v6 v7 v8 : Value} (h : W.heap[b]? = some (.cells #[v0, v1, v2, v3, v4, v5, v6, v7, v8] T)) :
    W.cell? ⟨b, 0, none⟩ = some v0 ∧ W.cell? ⟨b, 1, none⟩ = some v1 ∧ W.cell? ⟨b, 2, none⟩ = some v2 ∧ W.cell? ⟨b, 3, none⟩ = some v3 ∧ W.cell? ⟨b, 4, none⟩ = some v4 ∧ W.cell? ⟨b, 5, none⟩ = some v5 ∧ W.cell? ⟨b, 6, none⟩ = some v6 ∧ W.cell? ⟨b, 7, none⟩ = some v7 ∧ W.cell? ⟨b, 8, none⟩ = some v8 := by
  simp only [Lib.cell_of_heap h]
  exact ⟨rfl, rfl, rfl, rfl, rfl, rfl, rfl, rfl, rfl⟩
end Go.Proofs.YtijpfbcippijoaaGreatDoor
