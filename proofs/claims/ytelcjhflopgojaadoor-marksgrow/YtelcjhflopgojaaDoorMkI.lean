import Derived.Test.YtelcjhflopgojaaDoorMkH
/-! Mark. -/
namespace Go.Proofs.YtelcjhflopgojaaDoor
open Go.RowKit Go.Lib
set_option maxRecDepth 100000

set_option maxHeartbeats 2000000 in
theorem mark_none {w : World} {p b t ck : Nat} {xs : List X} (h : BookAt w p b t xs ck) {nm : List UInt8} (hx : ∀ x ∈ xs, x.nm ≠ nm) : Calls Tryd.prog 8 #[.pointer (some ⟨p, 0, none⟩), .string ⟨nm.toArray⟩] w fun e w' => e = .returned (.tuple #[.agg #[.string ⟨#[]⟩, .int .i64 0, .int .i64 0], .int .i64 60]) ∧ Below w.heap.size w w' := by
  have hb : Below w.heap.size w (w.alloc (.cells #[.string ⟨#[]⟩, .int .i64 0, .int .i64 0] 29)) := (Below.refl _ _).alloc (Nat.le_refl _) _
  have hk := look_miss (h.below hb).map hx
  obtain ⟨c0, c1⟩ := box2 (h.below hb).box
  have HB : Hid (Below w.heap.size w (w.alloc (.cells #[.string ⟨#[]⟩, .int .i64 0, .int .i64 0] 29))) := hb
  obtain ⟨W1, hW1⟩ : ∃ W1, w.alloc (.cells #[.string ⟨#[]⟩, .int .i64 0, .int .i64 0] 29) = W1 := ⟨_, rfl⟩
  have hx1 : W1.heap[w.heap.size]? = some (.cells #[.string ⟨#[]⟩, .int .i64 0, .int .i64 0] 29) := by rw [← hW1]; exact (MapKept.heap_alloc w _).1
  have HX : Hid (w.alloc (.cells #[.string ⟨#[]⟩, .int .i64 0, .int .i64 0] 29) = W1 ∧ W1.heap[w.heap.size]? = some (.cells #[.string ⟨#[]⟩, .int .i64 0, .int .i64 0] 29)) := ⟨hW1, hx1⟩
  clear h hx hb hW1 hx1
  generalize (⟨nm.toArray⟩ : ByteArray) = s at *
  go_enter Tryd.func8, Tryd.ntmps8
  go_wp2_with fail
  obtain ⟨r0, r1, r2⟩ := box3 HX.out.2
  rw [← HX.out.1] at r0 r1 r2
  refine bodyPost_ret (v := .tuple #[.agg #[.string ⟨#[]⟩, .int .i64 0, .int .i64 0], .int .i64 60]) (by simp [results, Tryd.results8, go_sem, r0, r1, r2]) rfl ?_
  exact ⟨rfl, HB.out⟩
set_option maxHeartbeats 2000000 in
theorem mark_some {w : World} {p b t ck : Nat} {l r : List X} {x : X} (h : BookAt w p b t (l ++ x :: r) ck) {nm : List UInt8} (hx : x.nm = nm) (hl : ∀ y ∈ l, y.nm ≠ nm) (hn : nm.length ≤ 281474976710656) : Calls Tryd.prog 8 #[.pointer (some ⟨p, 0, none⟩), .string ⟨nm.toArray⟩] w fun e w' => e = .returned (.tuple #[.agg #[.string ⟨nm.toArray⟩, .int .i64 (x.lo : Int), .int .i64 (x.hi : Int)], .int .i64 0]) ∧ Below w.heap.size w w' := by
  have hb : Below w.heap.size w (w.alloc (.cells #[.string ⟨#[]⟩, .int .i64 0, .int .i64 0] 29)) := (Below.refl _ _).alloc (Nat.le_refl _) _
  have hk := look_hit (h.below hb).map hx hl
  obtain ⟨c0, c1⟩ := box2 (h.below hb).box
  have hmk := ((h.below hb).mark x (by simp)).box
  rw [hx] at hmk
  have HCo : Hid (∀ w, Calls Tryd.prog 11 #[.agg #[.string ⟨nm.toArray⟩, .int .i64 (x.lo : Int), .int .i64 (x.hi : Int)]] w fun e w' => e = .returned (.agg #[.string ⟨nm.toArray⟩, .int .i64 (x.lo : Int), .int .i64 (x.hi : Int)]) ∧ Below w.heap.size w w') := copied_any nm hn x.lo x.hi
  obtain ⟨d0, d1, d2⟩ := box3 hmk
  have HB : Hid (Below w.heap.size w (w.alloc (.cells #[.string ⟨#[]⟩, .int .i64 0, .int .i64 0] 29))) := hb
  clear h hx hl hb hn hmk
  generalize (⟨nm.toArray⟩ : ByteArray) = s at *
  generalize (x.lo : Int) = lo at *
  generalize (x.hi : Int) = hi at *
  go_enter Tryd.func8, Tryd.ntmps8
  go_wp2_with fail
  refine (HCo.out _).mono ?_
  rintro e w1 ⟨rfl, hb1⟩
  have hn0 := HB.out.size
  obtain ⟨n0, hn0⟩ : ∃ n0, w.heap.size = n0 := ⟨_, rfl⟩
  have k0 : w1.heap[n0]? = some (.cells #[.string ⟨#[]⟩, .int .i64 0, .int .i64 0] 29) := by
    rw [hb1.block n0 (by rw [World.size_alloc]; omega), ← hn0]
    exact (MapKept.heap_alloc w _).1
  have HB1 : Hid (Below w.heap.size w w1 ∧ w.heap.size = n0) := ⟨HB.out.trans (hb1.mono (by rw [World.size_alloc]; omega)), hn0⟩
  obtain ⟨e0, e1, e2⟩ := box3 k0
  have f0 := Lib.frozen_of_heap k0
  have KB : Hid (w1.heap[n0]? = some (.cells #[.string ⟨#[]⟩, .int .i64 0, .int .i64 0] 29)) := k0
  rw [hn0]
  clear hb1 k0 c0 c1 d0 d1 d2 hk hn0 HB
  go_wp2_with fail
  have e1 := heap_setCell_cells (heap_setCell_cells (heap_setCell_cells KB.out 0 (.string s)) 1 (.int .i64 lo)) 2 (.int .i64 hi)
  obtain ⟨r0, r1, r2⟩ := box3 e1
  have hB : Below w.heap.size w (((w1.setCell ⟨n0, 0, none⟩ (.string s)).setCell ⟨n0, 1, none⟩ (.int .i64 lo)).setCell ⟨n0, 2, none⟩ (.int .i64 hi)) := by
    rw [HB1.out.2]
    have := HB1.out.1
    rw [HB1.out.2] at this
    exact ((this.setCell (Nat.le_refl _) _).setCell (Nat.le_refl _) _).setCell (Nat.le_refl _) _
  exact bodyPost_ret (v := .tuple #[.agg #[.string s, .int .i64 lo, .int .i64 hi], .int .i64 0]) (by simp [results, Tryd.results8, go_sem, r0, r1, r2]) rfl ⟨rfl, hB⟩
def getL (L : List Mk) (nm : List UInt8) : Option Mk := L.find? fun m => decide (m.nm = nm)
/-- What Mark answers. -/
def markV : Option Mk → Value
  | some m => .tuple #[.agg #[.string ⟨m.nm.toArray⟩, .int .i64 (m.lo : Int), .int .i64 (m.hi : Int)], .int .i64 0]
  | none => .tuple #[.agg #[.string ⟨#[]⟩, .int .i64 0, .int .i64 0], .int .i64 60]
theorem mark_B {B : Nat} {w : World} {p t : Nat} {L : List Mk} (h : Bk B w p t L) (nm : List UInt8) :
    Calls Tryd.prog 8 #[.pointer (some ⟨p, 0, none⟩), .string ⟨nm.toArray⟩] w fun e w' => e = .returned (markV (getL L nm)) ∧ Below w.heap.size w w' := by
  obtain ⟨b, xs, ck, h1, h2, h3, h4, h5, h6, h7⟩ := h
  rcases name_cases nm xs h1.map.nm with hx | ⟨l, x, r, rfl, hx, hl', hr'⟩
  · have hg : getL L nm = none := by
      rw [← h2]
      refine List.find?_eq_none.2 fun m hm => ?_
      obtain ⟨x, hx', rfl⟩ := List.mem_map.1 hm
      simp only [decide_eq_true_eq]
      exact hx x hx'
    rw [hg]
    exact mark_none h1 hx
  · have hg : getL L nm = some (X.mk1 x) := by
      rw [← h2]
      unfold getL
      rw [List.map_append, List.map_cons, List.find?_append, List.find?_eq_none.2, Option.none_or, List.find?_cons_of_pos]
      · exact decide_eq_true hx
      · intro m hm
        obtain ⟨y, hy, rfl⟩ := List.mem_map.1 hm
        simp only [decide_eq_true_eq]
        exact hl' y hy
    rw [hg]
    have hn := nameOk_len (h6 x (by simp))
    rw [hx] at hn
    refine (mark_some h1 hx hl' (by omega)).mono ?_
    rintro e w' ⟨rfl, hb⟩
    refine ⟨?_, hb⟩
    show _ = Ending.returned (.tuple #[.agg #[.string ⟨x.nm.toArray⟩, .int .i64 (x.lo : Int), .int .i64 (x.hi : Int)], .int .i64 0])
    rw [hx]
end Go.Proofs.YtelcjhflopgojaaDoor
