import Derived.Test.YtelcjhflopgojaaDoorMkA
/-! The book in memory; going through the map. -/
namespace Go.Proofs.YtelcjhflopgojaaDoor
open Go.RowKit Go.Lib
set_option maxRecDepth 100000

structure BookAt (W : World) (p b : Nat) (t : Nat) (xs : List X) (ck : Nat) : Prop where
  box : W.heap[p]? = some (.cells #[.int .i64 (t : Int), .map (some b)] 47)
  map : MapAt W b xs ck
  mark : ∀ x ∈ xs, MarkAt W x
  qs : (xs.map (·.q)).Nodup
/-- The blocks of a book. -/
def Blk (p b : Nat) (xs : List X) (g : Nat) : Prop := g = p ∨ g = b ∨ ∃ x ∈ xs, g = x.q
theorem BookAt.chg {W W' : World} {p b t ck : Nat} {xs : List X} {D : Nat → Prop} (h : BookAt W p b t xs ck) (hC : Chg D W W') (hD : ∀ g, Blk p b xs g → ¬ D g) : BookAt W' p b t xs ck :=
  ⟨hC.block h.box (hD p (.inl rfl)), h.map.chg hC (hD b (.inr (.inl rfl))), fun x hx => (h.mark x hx).chg hC (hD _ (.inr (.inr ⟨x, hx, rfl⟩))), h.qs⟩
theorem MarkAt.lt {W : World} {x : X} (h : MarkAt W x) : x.q < W.heap.size := (Array.getElem?_eq_some_iff.1 h.box).1
theorem BookAt.lt {W : World} {p b t ck : Nat} {xs : List X} (h : BookAt W p b t xs ck) {g : Nat} (hg : Blk p b xs g) : g < W.heap.size := by
  rcases hg with rfl | rfl | ⟨x, hx, rfl⟩
  · exact (Array.getElem?_eq_some_iff.1 h.box).1
  · exact (Array.getElem?_eq_some_iff.1 h.map.heap).1
  · exact (h.mark x hx).lt
/-- What is new leaves a book. -/
theorem BookAt.below {W W' : World} {p b t ck : Nat} {xs : List X} (h : BookAt W p b t xs ck) (hB : Below W.heap.size W W') : BookAt W' p b t xs ck :=
  h.chg (D := fun g => W.heap.size ≤ g) (Chg.of_below hB) (fun g hg => by have := h.lt hg; omega)
theorem BookAt.p_ne_b {W : World} {p b t ck : Nat} {xs : List X} (h : BookAt W p b t xs ck) : p ≠ b := by
  rintro rfl
  have h1 := h.box
  rw [h.map.heap] at h1
  cases h1
theorem BookAt.p_ne_q {W : World} {p b t ck : Nat} {xs : List X} (h : BookAt W p b t xs ck) {x : X} (hx : x ∈ xs) : p ≠ x.q := by
  intro e
  have h1 := h.box
  rw [e, (h.mark x hx).box] at h1
  simp at h1
theorem BookAt.b_ne_q {W : World} {p b t ck : Nat} {xs : List X} (h : BookAt W p b t xs ck) {x : X} (hx : x ∈ xs) : b ≠ x.q := by
  intro e
  have h1 := h.map.heap
  rw [e, (h.mark x hx).box] at h1
  cases h1
theorem nodup_apart {α β : Type} {f : α → β} {l r : List α} {x : α} (h : ((l ++ x :: r).map f).Nodup) {y : α} (hy : y ∈ l ∨ y ∈ r) : f y ≠ f x := by
  rw [List.map_append, List.map_cons, List.nodup_append] at h
  rcases hy with hy | hy
  · exact fun e => h.2.2 _ (List.mem_map.2 ⟨y, hy, rfl⟩) _ (List.mem_cons_self ..) e
  · exact fun e => (List.nodup_cons.1 h.2.1).1 (by rw [← e]; exact List.mem_map.2 ⟨y, hy, rfl⟩)
theorem len_map {W : World} {b ck : Nat} {xs : List X} (h : MapAt W b xs ck) : ∀ ty, (Builtin.len_ #[45] ty #[.map (some b)]).run Tryd.prog W = .ok (.int .i64 (xs.length : Int)) W := fun ty => by
  simp [Builtin.len_, run_underlying Tryd.underlying45, MapKept.run_getObj_map h.heap, goInt]

/-! ## Going through the map -/
structure RngAt (W : World) (r b : Nat) (cur ys : List X) (ck : Nat) : Prop where
  iter : ∃ since c0, W.heap[r]? = some (.mapIter (some b) since (ys.map (·.born)).toArray c0) ∧ (∀ x ∈ cur, x.born < since) ∧ since ≤ c0 ∧ since ≤ ck
theorem RngAt.chg {W W' : World} {r b ck : Nat} {cur ys : List X} {D : Nat → Prop} (h : RngAt W r b cur ys ck) (hC : Chg D W W') (hr : ¬ D r) : RngAt W' r b cur ys ck := by
  obtain ⟨since, c0, h1, h2⟩ := h.iter
  exact ⟨since, c0, hC.block h1 hr, h2⟩
theorem RngAt.sub {W : World} {r b ck : Nat} {cur cur' ys : List X} (h : RngAt W r b cur ys ck) (hs : ∀ x ∈ cur', x ∈ cur) : RngAt W r b cur' ys ck := by
  obtain ⟨since, c0, h1, h2, h3⟩ := h.iter
  exact ⟨since, c0, h1, fun x hx => h2 x (hs x hx), h3⟩
theorem RngAt.lt {W : World} {r b ck : Nat} {cur ys : List X} (h : RngAt W r b cur ys ck) : r < W.heap.size := by
  obtain ⟨since, c0, h1, _⟩ := h.iter
  exact (Array.getElem?_eq_some_iff.1 h1).1
theorem range_start {W : World} {b ck : Nat} {xs : List X} (h : MapAt W b xs ck) :
    (Instr.range 45 (.map (some b))).run Tryd.prog W = .ok (.pointer (some ⟨W.heap.size, 0, none⟩)) (W.alloc (.mapIter (some b) ck #[] ck)) ∧ RngAt (W.alloc (.mapIter (some b) ck #[] ck)) W.heap.size b xs [] ck :=
  ⟨run_range_map W _ _ _ b _ ck Tryd.underlying45 h.heap, ⟨ck, ck, (MapKept.heap_alloc W _).1, h.lt, Nat.le_refl _, Nat.le_refl _⟩⟩
theorem next_step {W : World} {b r ck : Nat} {cur ys : List X} (hm : MapAt W b cur ck) (hr : RngAt W r b cur ys ck) :
    ((∀ x ∈ cur, x.born ∈ ys.map (·.born)) ∧ ∀ ty, (Instr.next (.pointer (some ⟨r, 0, none⟩)) false ty).run Tryd.prog W = .ok (.tuple #[.bool false]) W) ∨
    ∃ x ∈ cur, x.born ∉ ys.map (·.born) ∧ ∃ W', (∀ ty, (Instr.next (.pointer (some ⟨r, 0, none⟩)) false ty).run Tryd.prog W = .ok (.tuple #[.bool true, .string ⟨x.nm.toArray⟩, .pointer (some ⟨x.q, 0, none⟩)]) W') ∧ RngAt W' r b cur (ys ++ [x]) ck ∧ Chg (fun g => g = r) W W' ∧ W'.heap.size = W.heap.size ∧
      (Instr.entry (.pointer (some ⟨r, 0, none⟩))).run Tryd.prog W' = .ok (.tuple #[.string ⟨x.nm.toArray⟩, .pointer (some ⟨x.q, 0, none⟩)]) W' := by
  obtain ⟨since, c0, h1, h2, h3, h4⟩ := hr.iter
  have hbr : b ≠ r := by
    rintro rfl
    have := hm.heap
    rw [h1] at this
    cases this
  have hmem : ∀ e, e ∈ (leftOf (cur.map mkE).toArray (ys.map (·.born)).toArray).toList ↔ ∃ x ∈ cur, x.born ∉ ys.map (·.born) ∧ mkE x = e := by
    intro e
    simp only [leftOf, Array.toList_filter, List.mem_filter, List.mem_map, Bool.not_eq_true']
    constructor
    · rintro ⟨⟨x, hx, rfl⟩, hc⟩
      refine ⟨x, hx, fun hin => ?_, rfl⟩
      have : ((ys.map (·.born)).toArray.contains (mkE x).born) = true := by simpa [mkE] using hin
      rw [this] at hc
      cases hc
    · rintro ⟨x, hx, hn, rfl⟩
      refine ⟨⟨x, hx, rfl⟩, ?_⟩
      cases hc : (ys.map (·.born)).toArray.contains (mkE x).born with
      | false => rfl
      | true => exact absurd (by simpa [mkE] using hc) hn
  rcases run_next_at (P := Tryd.prog) W 0 r b since c0 (ys.map (·.born)).toArray (cur.map mkE).toArray ck h1 hm.heap (by
      intro e he
      simp only [List.mem_map] at he
      obtain ⟨x, hx, rfl⟩ := he
      exact h2 x hx) h3 with ⟨h5, h6⟩ | ⟨e, he, w1, hw1, h6⟩
  · refine .inl ⟨fun x hx => ?_, fun _ => h6⟩
    by_cases hin : x.born ∈ ys.map (·.born)
    · exact hin
    · have := (hmem (mkE x)).2 ⟨x, hx, hin, rfl⟩
      rw [Array.eq_empty_of_size_eq_zero h5] at this
      simp at this
  · obtain ⟨x, hx, hn, rfl⟩ := (hmem e).1 he
    have hw : Chg (fun g => g = r) W w1 ∧ w1.heap = W.heap := by
      rcases hw1 with rfl | rfl
      · exact ⟨Chg.refl _ _, rfl⟩
      · exact ⟨(Chg.refl _ _).drew, rfl⟩
    have h1' : w1.heap[r]? = some (.mapIter (some b) since (ys.map (·.born)).toArray c0) := by rw [hw.2]; exact h1
    have e1 : ((ys.map (·.born)).toArray.push (mkE x).born) = ((ys ++ [x]).map (·.born)).toArray := by simp [mkE]
    have hlt : r < w1.heap.size := (Array.getElem?_eq_some_iff.1 h1').1
    have h7 : (ChangeMaps.setBlock w1 r (.mapIter (some b) since ((ys.map (·.born)).toArray.push (mkE x).born) ck)).heap[r]? = some (.mapIter (some b) since ((ys.map (·.born)).toArray.push (mkE x).born) ck) := (MapKept.heap_set h1').1
    have hC2 : Chg (fun g => g = r) w1 (ChangeMaps.setBlock w1 r (.mapIter (some b) since ((ys.map (·.born)).toArray.push (mkE x).born) ck)) := chg_setBlock _
    have hC := hw.1.trans hC2
    refine .inr ⟨x, hx, hn, _, fun _ => h6, ⟨since, ck, ?_, h2, h4, h4⟩, hC, ?_, ?_⟩
    · rw [← e1]; exact h7
    · show (w1.heap.setIfInBounds r _).size = _
      rw [Array.size_setIfInBounds, hw.2]
    · refine run_entry_at (P := Tryd.prog) _ r b since (ys.map (·.born)).toArray (cur.map mkE).toArray ck (mkE x) h7 (hC.block hm.heap hbr) ?_ ?_
      · exact List.mem_map.2 ⟨x, hx, rfl⟩
      · have := hm.born
        simp only [List.map_map]
        exact this

end Go.Proofs.YtelcjhflopgojaaDoor
