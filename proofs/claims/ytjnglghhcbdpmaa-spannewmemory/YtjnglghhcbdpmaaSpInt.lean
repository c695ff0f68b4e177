import Derived.Test.YtjnglghhcbdpmaaSpE
namespace Go.Proofs.Ytjnglghhcbdpmaa
open Go.RowKit Go.Lib
set_option maxRecDepth 100000

def flatI (ys : List Int) : List Value := ys.map (Value.int .i64)
/-- A slice of int in the world that reads as ys. -/
structure RngI (w : World) (a : Option Addr) (n cap : Nat) (ys : List Int) : Prop where
  len : ys.length = n
  room : n ≤ cap ∧ cap ≤ maxLen
  cells : ∀ j, j < n → ∃ g off, a = some ⟨g, off, none⟩ ∧ g < w.heap.size ∧ w.cell? ⟨g, off + j, none⟩ = some (.int .i64 (ys.getD j 0))
theorem RngI.under {w : World} {a : Option Addr} {n cap : Nat} {ys : List Int} (h : RngI w a n cap ys) : Under w.heap.size a n := fun hn g off ha => by
  obtain ⟨g', off', ha', hg, _⟩ := h.cells 0 hn
  rw [ha] at ha'
  cases ha'
  exact hg
theorem RngI.belowB {B : Nat} {w w' : World} {a : Option Addr} {n cap : Nat} {ys : List Int} (h : RngI w a n cap ys) (hu : Under B a n) (hb : Below B w w') : RngI w' a n cap ys :=
  ⟨h.len, h.room, fun j hj => by
    obtain ⟨g, off, ha, hg, hc⟩ := h.cells j hj
    have hlt := hu (by omega) g off ha
    exact ⟨g, off, ha, by have := hb.size; omega, (hb.cell (p := ⟨g, off + j, none⟩) hlt).trans hc⟩⟩
theorem RngI.below {w w' : World} {a : Option Addr} {n cap : Nat} {ys : List Int} (h : RngI w a n cap ys) (hb : Below w.heap.size w w') : RngI w' a n cap ys := h.belowB h.under hb
def OwnI (w : World) (B : Nat) (v : Value) (ys : List Int) : Prop := w.ownsRow B 3 1 v ys.length (flatI ys)
theorem ownI_nil (w : World) (B : Nat) : OwnI w B (.slice none 0 0) [] := World.ownsRow_nil w B _ _
theorem OwnI.shape {w : World} {B : Nat} {v : Value} {l : List Int} (h : OwnI w B v l) : ∃ a cap, v = .slice a l.length cap := by
  rcases h.2 with ⟨e, h0⟩ | ⟨g, cap, cur, e, _⟩
  · exact ⟨none, 0, by rw [e, h0]⟩
  · exact ⟨_, _, e⟩
theorem OwnI.below {w w' : World} {B : Nat} {v : Value} {l : List Int} (h : OwnI w B v l) (hb : Below w.heap.size w w') : OwnI w' B v l := by
  refine ⟨h.1, ?_⟩
  rcases h.2 with h0 | ⟨g, cap, cur, e, h1, hh, rest⟩
  · exact .inl h0
  · exact .inr ⟨g, cap, cur, e, h1, (hb.block g (Array.getElem?_eq_some_iff.1 hh).1).trans hh, rest⟩
theorem OwnI.mono {w : World} {B C : Nat} {v : Value} {l : List Int} (h : OwnI w B v l) (hC : C ≤ B) : OwnI w C v l := by
  refine ⟨h.1, ?_⟩
  rcases h.2 with h0 | ⟨g, cap, cur, e, h1, rest⟩
  · exact .inl h0
  · exact .inr ⟨g, cap, cur, e, by omega, rest⟩
theorem OwnI.rng {w : World} {B n cap : Nat} {a : Option Addr} {l : List Int} (h : OwnI w B (.slice a n cap) l) : RngI w a n cap l := by
  rcases h.2 with ⟨e, h0⟩ | ⟨g, cap', cur, e, _, hh, hn, hm, hsz, htk⟩
  · simp only [Value.slice.injEq] at e
    obtain ⟨rfl, rfl, rfl⟩ := e
    exact ⟨h0, ⟨Nat.le_refl _, Nat.zero_le _⟩, fun j hj => by omega⟩
  · simp only [Value.slice.injEq] at e
    obtain ⟨rfl, rfl, rfl⟩ := e
    refine ⟨rfl, ⟨hn, hm⟩, fun j hj => ⟨g, 0, rfl, (Array.getElem?_eq_some_iff.1 hh).1, ?_⟩⟩
    rw [Nat.zero_add]
    have e1 : cur.toList[j]? = (flatI l)[j]? := by rw [← htk, List.getElem?_take, if_pos (by omega)]
    simp only [World.cell?, hh]
    simp only [Array.getElem?_toList] at e1
    rw [e1]
    simp [flatI, List.getElem?_eq_getElem hj, List.getD_eq_getElem?_getD]
theorem intInfo : (Try.prog.info? 3).map (fun i => (i.zero, i.size, i.bytes)) = some (some (.int .i64 0), 1, 8) := by kernel_rfl
theorem flatI_one (l : List Int) : ∀ u ∈ flatI l, u.oneCell' = true := fun u hu => by
  obtain ⟨x, _, rfl⟩ := List.mem_map.1 hu
  rfl
/-- 'append(x, y...)' -/
theorem appendI {w : World} {B : Nat} {a : Option Addr} {n cap : Nat} {xs : List Int} (h : OwnI w B (.slice a n cap) xs) (hB : B ≤ w.heap.size) {b : Option Addr} {m capb : Nat} {ys : List Int} (hy : RngI w b m capb ys) (hs : (n + m) * 8 ≤ 140737488355328) (ty : TypeId) :
    ∃ a' cap' w', (Builtin.append_ #[23, 23] ty #[.slice a n cap, .slice b m capb]).run Try.prog w = .ok (.slice a' (n + m) cap') w' ∧ OwnI w' B (.slice a' (n + m) cap') (xs ++ ys) ∧ Below B w w' := by
  have hlen := h.rng.len
  have hly := hy.len
  obtain ⟨i, hi, hz, hsz, hby⟩ := info_parts intInfo
  have hown : w.ownsRow B 3 1 (.slice a n cap) n (flatI xs) := by
    unfold OwnI at h
    rw [hlen] at h
    exact h
  by_cases h0 : m = 0
  · subst h0
    obtain rfl : ys = [] := List.eq_nil_of_length_eq_zero hly
    refine ⟨a, cap, w, ?_, by simpa using h, Below.refl _ _⟩
    rcases hown.2 with ⟨e, _⟩ | ⟨g, cap', cur, e, _, _, hnc, _⟩
    · simp only [Value.slice.injEq] at e
      obtain ⟨rfl, rfl, rfl⟩ := e
      cases b <;> simp [Builtin.append_, run_underlying Try.underlying23, sizeOf, typeInfo, hi, Builtin.lenOf, Builtin.firstCells, loadCells, loadCellsFrom]
    · simp only [Value.slice.injEq] at e
      obtain ⟨rfl, _, rfl⟩ := e
      cases b <;> simp [Builtin.append_, run_underlying Try.underlying23, sizeOf, typeInfo, hi, Builtin.lenOf, Builtin.firstCells, loadCells, loadCellsFrom, hnc, storeCells]
  · obtain ⟨g, off, rfl, hg, _⟩ := hy.cells 0 (by omega)
    have hc : ∀ j u, (flatI ys)[j]? = some u → w.cell? ((⟨g, off, none⟩ : Addr).add j) = some u := fun j u hu => by
      have hadd : (⟨g, off, none⟩ : Addr).add j = ⟨g, off + j, none⟩ := by unfold Addr.add; split <;> simp_all
      have hlt : j < (flatI ys).length := by
        rcases Nat.lt_or_ge j (flatI ys).length with h' | h'
        · exact h'
        · rw [List.getElem?_eq_none h'] at hu; cases hu
      have hlt' : j < ys.length := by simpa [flatI] using hlt
      obtain ⟨g', off', e, _, hc⟩ := hy.cells j (by omega)
      cases e
      rw [hadd, hc, ← hu]
      simp [flatI, List.getElem?_eq_getElem hlt', List.getD_eq_getElem?_getD]
    obtain ⟨v', w', hr, ho, hgr, _⟩ := run_append_own (P := Try.prog) w B 23 ty 3 i _ 1 8 Try.underlying23 hi hz hsz hby rfl (by decide) (.slice a n cap) n (flatI xs) hown ⟨g, off, none⟩ m capb (flatI ys) (by simp [flatI, hly]) hc (flatI_one ys)
      (by simp only [maxLen]; omega) hs hB
    have ho' : OwnI w' B v' (xs ++ ys) := by
      unfold OwnI
      rw [List.length_append, hlen, hly]
      simpa [flatI] using ho
    obtain ⟨a', cap', rfl⟩ := ho'.shape
    have e1 : (xs ++ ys).length = n + m := by simp [hlen, hly]
    rw [e1] at hr ho'
    exact ⟨a', cap', w', hr, ho', below_grown hgr (fun k hk => (World.ownsRow.lt hown k hk).1) hB⟩
theorem rngI_lit1 (w : World) (x : Int) (t : TypeId) : RngI (w.alloc (.cells #[.int .i64 x] t)) (some ⟨w.heap.size, 0, none⟩) 1 1 [x] := by
  refine ⟨rfl, ⟨Nat.le_refl _, by simp [maxLen]⟩, fun j hj => ⟨w.heap.size, 0, rfl, by simp, ?_⟩⟩
  obtain rfl : j = 0 := by omega
  have hh := heap_alloc_new w (.cells #[.int .i64 x] t)
  simp only [World.cell?, hh]
  rfl
theorem rngI_lit2 (w : World) (x y : Int) (t : TypeId) : RngI (w.alloc (.cells #[.int .i64 x, .int .i64 y] t)) (some ⟨w.heap.size, 0, none⟩) 2 2 [x, y] := by
  refine ⟨rfl, ⟨Nat.le_refl _, by simp [maxLen]⟩, fun j hj => ⟨w.heap.size, 0, rfl, by simp, ?_⟩⟩
  have hh := heap_alloc_new w (.cells #[.int .i64 x, .int .i64 y] t)
  simp only [World.cell?, hh]
  match j, hj with
  | 0, _ => rfl
  | 1, _ => rfl
/-- One more at the end: 'append(x, e)', the element in a block of its own. -/
theorem appendI_one {w : World} {B : Nat} {a : Option Addr} {n cap : Nat} {xs : List Int} (h : OwnI w B (.slice a n cap) xs) (hB : B ≤ w.heap.size) (x : Int) (hs : (n + 1) * 8 ≤ 140737488355328) (ty : TypeId) :
    ∃ a' cap' w', (Builtin.append_ #[23, 23] ty #[.slice a n cap, .slice (some ⟨w.heap.size, 0, none⟩) 1 1]).run Try.prog (w.alloc (.cells #[.int .i64 x] 3)) = .ok (.slice a' (n + 1) cap') w' ∧ OwnI w' B (.slice a' (n + 1) cap') (xs ++ [x]) ∧ Below B w w' := by
  obtain ⟨a', cap', w', hr, ho, hb⟩ := appendI (h.below ((Below.refl _ _).alloc (Nat.le_refl _) (.cells #[.int .i64 x] 3))) (by simp; omega) (rngI_lit1 w x 3) hs ty
  exact ⟨a', cap', w', hr, ho, ((Below.refl _ _).alloc hB _).trans hb⟩
theorem appendI_two {w : World} {B : Nat} {a : Option Addr} {n cap : Nat} {xs : List Int} (h : OwnI w B (.slice a n cap) xs) (hB : B ≤ w.heap.size) (x y : Int) (hs : (n + 2) * 8 ≤ 140737488355328) (ty : TypeId) :
    ∃ a' cap' w', (Builtin.append_ #[23, 23] ty #[.slice a n cap, .slice (some ⟨w.heap.size, 0, none⟩) 2 2]).run Try.prog (w.alloc (.cells #[.int .i64 x, .int .i64 y] 3)) = .ok (.slice a' (n + 2) cap') w' ∧ OwnI w' B (.slice a' (n + 2) cap') (xs ++ [x, y]) ∧ Below B w w' := by
  obtain ⟨a', cap', w', hr, ho, hb⟩ := appendI (h.below ((Below.refl _ _).alloc (Nat.le_refl _) (.cells #[.int .i64 x, .int .i64 y] 3))) (by simp; omega) (rngI_lit2 w x y 3) hs ty
  exact ⟨a', cap', w', hr, ho, ((Below.refl _ _).alloc hB _).trans hb⟩
end Go.Proofs.Ytjnglghhcbdpmaa
