import Derived.Test.YtjnglghhcbdpmaaSpTj
namespace Go.Proofs.Ytjnglghhcbdpmaa
open Go.RowKit Go.Lib Go.Shelf
set_option maxRecDepth 100000

theorem pre_next {M pre : List Int} {x y : Int} (h : pre ++ [x] <+: M) (h' : pre ++ [y] <+: M) : x = y := by
  obtain ⟨s, hs⟩ := h
  obtain ⟨t, ht⟩ := h'
  rw [← hs, List.append_assoc, List.append_assoc] at ht
  have := List.append_cancel_left ht
  simp at this
  exact this.1.symm
theorem pre_over {M : List Int} {x : Int} : ¬ M ++ [x] <+: M := fun h => by
  have := h.length_le
  simp at this
  omega
/-- So many ranges are gone through, and so many places of the next. -/
structure Pos (L : List (Int × Int)) (pre : List Int) (i m : Nat) : Prop where
  le : i ≤ L.length
  eq : pre = allPl (L.take i) ++ (plOf (L.getD i (0, 0))).take m
  lt : i < L.length → m < ((L.getD i (0, 0)).2 - (L.getD i (0, 0)).1).toNat
  zero : i = L.length → m = 0
theorem Pos.start {L : List (Int × Int)} (hL : ∀ r ∈ L, r.1 < r.2) : Pos L [] 0 0 := by
  refine ⟨Nat.zero_le _, by simp [allPl], fun h => ?_, fun _ => rfl⟩
  have := hL _ (show L.getD 0 (0, 0) ∈ L by rw [List.getD_eq_getElem?_getD, List.getElem?_eq_getElem h]; exact List.getElem_mem _)
  omega
theorem Pos.next {L : List (Int × Int)} {pre : List Int} {i m : Nat} (h : Pos L pre i m) (hi : i < L.length) : pre ++ [(L.getD i (0, 0)).1 + (m : Int)] <+: allPl L := by
  have hl := h.lt hi
  rw [h.eq, List.append_assoc, ← plOf_take_succ _ m hl]
  exact allPl_pre L i hi (m + 1)
theorem Pos.all {L : List (Int × Int)} {pre : List Int} {i m : Nat} (h : Pos L pre i m) (hi : i = L.length) : pre = allPl L := by
  have hz := h.zero hi
  have he := h.eq
  subst hz
  subst hi
  rw [List.take_length] at he
  simpa using he
theorem Pos.fin {L : List (Int × Int)} {i m : Nat} (h : Pos L (allPl L) i m) : i = L.length := by
  by_cases hi : i < L.length
  · exact absurd (h.next hi) pre_over
  · have := h.le
    omega
theorem Pos.wrong {L : List (Int × Int)} {pre : List Int} {i m : Nat} {x : Int} (h : Pos L pre i m) (hx : i < L.length → x ≠ (L.getD i (0, 0)).1 + (m : Int)) : ¬ pre ++ [x] <+: allPl L := fun hp => by
  by_cases hi : i < L.length
  · exact hx hi (pre_next hp (h.next hi))
  · have e := h.all (by have := h.le; omega)
    rw [e] at hp
    exact pre_over hp
theorem Pos.stay {L : List (Int × Int)} {pre : List Int} {i m : Nat} (h : Pos L pre i m) (hi : i < L.length) (hm : (L.getD i (0, 0)).1 + ((m : Int) + 1) ≠ (L.getD i (0, 0)).2) : Pos L (pre ++ [(L.getD i (0, 0)).1 + (m : Int)]) i (m + 1) := by
  have hl := h.lt hi
  refine ⟨h.le, ?_, fun _ => by omega, fun e => by omega⟩
  rw [h.eq, List.append_assoc, ← plOf_take_succ _ m hl]
theorem Pos.go {L : List (Int × Int)} {pre : List Int} {i m : Nat} (hL : ∀ r ∈ L, r.1 < r.2) (h : Pos L pre i m) (hi : i < L.length) (hm : (L.getD i (0, 0)).1 + ((m : Int) + 1) = (L.getD i (0, 0)).2) : Pos L (pre ++ [(L.getD i (0, 0)).1 + (m : Int)]) (i + 1) 0 := by
  have hl := h.lt hi
  refine ⟨by omega, ?_, fun h2 => ?_, fun _ => rfl⟩
  · have ht : (plOf (L.getD i (0, 0))).take (m + 1) = plOf (L.getD i (0, 0)) := List.take_of_length_le (by rw [plOf_length]; omega)
    rw [h.eq, List.append_assoc, ← plOf_take_succ _ m hl, allPl_succ L i hi, List.take_zero, List.append_nil, ht]
  · have := hL _ (show L.getD (i + 1) (0, 0) ∈ L by rw [List.getD_eq_getElem?_getD, List.getElem?_eq_getElem h2]; exact List.getElem_mem _)
    omega
/-- A store of a number into a box keeps the blocks of ranges. -/
theorem keepsR_set {W : World} {b : Nat} {u v : Value} {t : TypeId} (hb : Boxed W b t u) (ht : t ≠ 39) : KeepsR W (W.setCell ⟨b, 0, none⟩ v) := fun g cs z hg => Below.heap_setCell _ _ _ _ (fun e => by
  simp only at e
  subst e
  rw [show W.heap[g]? = _ from hb] at hg
  simp only [Option.some.injEq, Obj.cells.injEq] at hg
  exact ht hg.2.1)
theorem box_keep {X Y : World} {row : Option Nat} {B b : Nat} {t : TypeId} {v : Value} (h : Boxed X b t v) (hg : X.grownBy Y row) (hr : ∀ r, row = some r → B ≤ r ∧ ∃ o : Obj, X.heap[r]? = some o ∧ o.isCells = false) : Boxed Y b t v :=
  boxed_own b t (fun (_ : Unit) => v) () X Y row h hg (fun r e => (hr r e).2)
end Go.Proofs.Ytjnglghhcbdpmaa
