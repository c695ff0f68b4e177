import Derived.Test.YtmeciikfnbbllaaGreatDoorXaA
import Derived.Test.YtmeciikfnbbllaaGreatDoorRpM
import Derived.Test.YtmeciikfnbbllaaGreatDoorSpE
namespace Go.Proofs.YtmeciikfnbbllaaGreatDoor
open Go.RowKit Go.Lib
open Sp hiding Keeps
set_option maxRecDepth 100000
theorem rng_one {w : World} {g : Nat} {x y : Int} {T : TypeId} (h : w.heap[g]? = some (.cells #[.int .i64 x, .int .i64 y] T)) : Rng w (some ⟨g, 0, none⟩) 1 1 [(x, y)] :=
  ⟨rfl, ⟨Nat.le_refl _, by decide⟩, fun j hj => by
    obtain rfl : j = 0 := by omega
    refine ⟨g, 0, rfl, (Array.getElem?_eq_some_iff.1 h).1, ?_, ?_⟩
    · rw [Lib.cell_of_heap h]; rfl
    · rw [Lib.cell_of_heap h]; rfl⟩
theorem rng_two {w : World} {g : Nat} {x y x2 y2 : Int} {T : TypeId} (h : w.heap[g]? = some (.cells #[.int .i64 x, .int .i64 y, .int .i64 x2, .int .i64 y2] T)) : Rng w (some ⟨g, 0, none⟩) 2 2 [(x, y), (x2, y2)] :=
  ⟨rfl, ⟨Nat.le_refl _, by decide⟩, fun j hj => by
    have : j = 0 ∨ j = 1 := by omega
    refine ⟨g, 0, rfl, (Array.getElem?_eq_some_iff.1 h).1, ?_, ?_⟩
    · rw [Lib.cell_of_heap h]; rcases this with rfl | rfl <;> rfl
    · rw [Lib.cell_of_heap h]; rcases this with rfl | rfl <;> rfl⟩
theorem alloc_last (w : World) (o : Obj) (k : Nat) (hk : k = w.heap.size) : (w.alloc o).heap[k]? = some o := by
  subst hk
  show (w.heap.push o)[w.heap.size]? = _
  simp
def rangeV (x : Int × Int) : List Value := [.int .i64 x.1, .int .i64 x.2]
theorem layG : Lay rangeV 2 := ⟨fun _ => rfl, by decide, fun x u hu => by simp [rangeV] at hu; rcases hu with rfl | rfl <;> rfl⟩
theorem kindG : Kind Tryz.prog 31 94 2 16 := kind_of Tryz.underlying31 (z := .agg #[.int .i64 0, .int .i64 0]) (by kernel_rfl) rfl
theorem rng_of_rw {w : World} {a : Option Addr} {n cap : Nat} {l : List (Int × Int)} (h : Rw rangeV 2 w a n cap l) : Rng w a n cap l :=
  ⟨h.len, h.room, fun j hj => by
    obtain ⟨g, off, x, ha, hg, hx, hc⟩ := h.at j hj
    have e : l.getD j (0, 0) = x := by rw [List.getD_eq_getElem?_getD, hx]; rfl
    rw [e]
    refine ⟨g, off, ha, hg, ?_, hc 1 _ rfl⟩
    have := hc 0 _ rfl
    simpa using this⟩
theorem set9g {W : World} {b : Nat} {T : TypeId} {u0 u1 u2 u3 u4 u5 u6 u7 u8 v0 v1 v2 v3 v4 v5 v6 v7 v8 : Value} (h : W.heap[b]? = some (.cells #[u0, u1, u2, u3, u4, u5, u6, u7, u8] T)) :
    (((((((((W.setCell ⟨b, 0, none⟩ v0).setCell ⟨b, 1, none⟩ v1).setCell ⟨b, 2, none⟩ v2).setCell ⟨b, 3, none⟩ v3).setCell ⟨b, 4, none⟩ v4).setCell ⟨b, 5, none⟩ v5).setCell ⟨b, 6, none⟩ v6).setCell ⟨b, 7, none⟩ v7).setCell ⟨b, 8, none⟩ v8).heap[b]? = some (.cells #[v0, v1, v2, v3, v4, v5, v6, v7, v8] T) := by
  have h0 := (heap_setCell_same _ b 0 _ _ v0 h).trans (by simp; rfl)
  have h1 := (heap_setCell_same _ b 1 _ _ v1 h0).trans (by simp; rfl)
  have h2 := (heap_setCell_same _ b 2 _ _ v2 h1).trans (by simp; rfl)
  have h3 := (heap_setCell_same _ b 3 _ _ v3 h2).trans (by simp; rfl)
  have h4 := (heap_setCell_same _ b 4 _ _ v4 h3).trans (by simp; rfl)
  have h5 := (heap_setCell_same _ b 5 _ _ v5 h4).trans (by simp; rfl)
  have h6 := (heap_setCell_same _ b 6 _ _ v6 h5).trans (by simp; rfl)
  have h7 := (heap_setCell_same _ b 7 _ _ v7 h6).trans (by simp; rfl)
  have h8 := (heap_setCell_same _ b 8 _ _ v8 h7).trans (by simp; rfl)
  exact h8
section
variable {α : Type} {f : α → List Value} {k : Nat} {S T : TypeId} {by_ : Nat}
theorem appendF_all (hK : Kind Tryz.prog S T k by_) (hf : Lay f k) {w : World} {B : Nat} {v : Value} {l : List α} (h : OwnF f k T w B v l) (hB : B ≤ w.heap.size)
    {b : Option Addr} {m capb : Nat} {ys : List α} (hy : Rw f k w b m capb ys) (hs : (l.length + m) * by_ ≤ 140737488355328) (hs2 : l.length + m ≤ 1099511627776) (ty : TypeId) :
    ∃ a' cap' w', (Builtin.append_ #[S, S] ty #[v, .slice b m capb]).run Tryz.prog w = .ok (.slice a' (l.length + m) cap') w' ∧ OwnF f k T w' B (.slice a' (l.length + m) cap') (l ++ ys) ∧ Below B w w' ∧ Keeps w w' v := by
  by_cases hm : 0 < m
  · obtain ⟨g, cap', w', hr, ho, hb, hk, _⟩ := appendF hK hf h hB hy hm hs (by omega) ty
    exact ⟨_, cap', w', hr, ho, hb, hk⟩
  · obtain rfl : m = 0 := by omega
    obtain rfl : ys = [] := List.eq_nil_of_length_eq_zero hy.len
    obtain ⟨i, z, hi, hz, hsz, hby, _⟩ := hK.info
    obtain ⟨a', cap', rfl⟩ := h.shape
    refine ⟨a', cap', w, ?_, by rw [List.append_nil]; exact h, Below.refl _ _, fun _ _ _ => rfl⟩
    rcases h.2 with ⟨e, h0⟩ | ⟨g, cap, cur, e, _, _, hnc, _⟩
    · obtain rfl := List.eq_nil_of_length_eq_zero h0
      simp only [List.length_nil] at e ⊢
      cases e
      cases b <;> simp [Builtin.append_, run_underlying hK.under, sizeOf, typeInfo, hi, Builtin.lenOf, Builtin.firstCells, loadCells, loadCellsFrom]
    · cases e
      cases b <;> simp [Builtin.append_, run_underlying hK.under, sizeOf, typeInfo, hi, Builtin.lenOf, Builtin.firstCells, hnc, storeCells, loadCells, loadCellsFrom]
end
theorem rw_of_rng {w : World} {a : Option Addr} {n cap : Nat} {l : List (Int × Int)} (h : Rng w a n cap l) : Rw rangeV 2 w a n cap l := by
  refine ⟨h.len, h.room, fun hn => ?_⟩
  obtain ⟨g, off, rfl, hg, _, _⟩ := h.cells 0 hn
  refine ⟨g, off, rfl, hg, fun j x hj i v hv => ?_⟩
  have hl := h.len
  have hjl : j < l.length := (List.getElem?_eq_some_iff.1 hj).1
  obtain ⟨g2, off2, e, _, h0, h1⟩ := h.cells j (by omega)
  simp only [Option.some.injEq, Addr.mk.injEq, and_true] at e
  obtain ⟨rfl, rfl⟩ := e
  have ex : l.getD j (0, 0) = x := by rw [List.getD_eq_getElem?_getD, hj]; rfl
  rw [ex] at h0 h1
  have hi : i = 0 ∨ i = 1 := by
    have := (List.getElem?_eq_some_iff.1 hv).1
    simp [rangeV] at this
    omega
  rcases hi with rfl | rfl
  · simp only [rangeV, List.getElem?_cons_zero, Option.some.injEq] at hv
    subst hv
    exact h0
  · simp only [rangeV, List.getElem?_cons_succ, List.getElem?_cons_zero, Option.some.injEq] at hv
    subst hv
    exact h1
set_option maxHeartbeats 1000000 in
theorem copiedR_any {w : World} {a : Option Addr} {n cap : Nat} {l : List (Int × Int)} (h : Rng w a n cap l) (hn : n ≤ 1000000000) :
    Calls Tryz.prog 41 #[.slice a n cap] w fun e w' => ∃ v, e = .returned v ∧ OwnF rangeV 2 94 w' w.heap.size v l ∧ Below w.heap.size w w' := by
  obtain ⟨a', cap', w', hr, ho, hb, _⟩ := appendF_all kindG layG (ownF_nil (f := rangeV) (k := 2) (T := 94) w w.heap.size) (Nat.le_refl _) (rw_of_rng h) (by simp; omega) (by simp; omega) 31
  simp only [List.length_nil, List.nil_append, Nat.zero_add] at hr ho
  clear h
  go_enter Tryz.func41, Tryz.ntmps41
  go_wp2_with (at_builtin; refine wpList_append_hr rfl _ _ 31 rfl _ _ rfl rfl hr ?_)
  go_ret
  exact ⟨_, rfl, ho, hb⟩
theorem own_set {w : World} {B : Nat} {v : Value} {l : List (Int × Int)} (h : OwnF rangeV 2 94 w B v l) (b i : Nat) (u : Value) (hb : b < B) : OwnF rangeV 2 94 (w.setCell ⟨b, i, none⟩ u) B v l := by
  refine ⟨h.1, ?_⟩
  rcases h.2 with h0 | ⟨g, cap, cur, e, h1, hh, rest⟩
  · exact .inl h0
  · exact .inr ⟨g, cap, cur, e, h1, (Below.heap_setCell _ _ _ _ (by simp only; omega)).trans hh, rest⟩
end Go.Proofs.YtmeciikfnbbllaaGreatDoor
