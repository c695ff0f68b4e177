import Derived.Test.YtokkodkhkpgebaaDoorKcD
/-! A new entry of a map; the table of barred runes where others change; nine cells of which two are written. -/
namespace Go.Proofs.YtokkodkhkpgebaaDoor
open Go.RowKit Go.Lib
set_option maxRecDepth 100000

theorem run_update (w : World) (x : Int × Int) (v : Int) (r : Nat) (es : Array MapEntry) (ck : Nat) (M : List ((Int × Int) × Int)) (hr : w.heap[r]? = some (.map es ck)) (h : Ents es.toList M) (hn : lookM M x = none) :
    ∃ w', (Instr.mapUpdate 74 (.map (some r)) (idA x) (.int .i64 v)).run Tryd.prog w = .ok () w' ∧ (∃ es' ck', w'.heap[r]? = some (.map es' ck') ∧ Ents es'.toList (M ++ [(x, v)])) ∧ Chg (fun g => g = r) w w' ∧ w'.heap.size = w.heap.size := by
  have hf := run_findKey w x es.toList M h
  have hc := run_checkKey false w x.1 x.2
  rw [hn] at hf
  have hg : (getObj r).run Tryd.prog w = .ok (.map es ck) w := by simp [getObj, Sem.run, hr]
  refine ⟨{ w with heap := w.heap.setIfInBounds r (.map (es.push { key := idA x, val := .int .i64 v, born := ck }) (ck + 1)) }, ?_, ⟨es.push { key := idA x, val := .int .i64 v, born := ck }, ck + 1, ?_, ?_⟩, ⟨⟨rfl, rfl, rfl, by simp, fun k hk => absurd hk (Nat.not_lt_zero _)⟩, fun g hg hne => ?_⟩, by simp⟩
  · unfold Instr.mapUpdate
    simp only [Sem.run_bind, run_underlying Tryd.underlying74, Result.andThen_ok]
    rw [hg]
    simp only [Result.andThen_ok, Sem.run_bind]
    rw [show (Instr.checkKey false 10000 23 (idA x)).run Tryd.prog w = .ok () w from hc]
    simp only [Result.andThen_ok]
    rw [hf]
    simp only [Option.map_none, Result.andThen_ok]
    exact MapKept.run_setObj_map _ hr
  · simp [(Array.getElem?_eq_some_iff.1 hr).1]
  · unfold Ents at h ⊢
    simp [h, idA]
  · rw [Array.getElem?_setIfInBounds_ne (fun e => hne e.symm)]
theorem Bar.chg {W W' : World} {D : Nat → Prop} (h : Bar W) (hC : Chg D W W') (hD : ¬ D 0) : Bar W' := by
  obtain ⟨t, fr, hg⟩ := h.lies
  exact ⟨t, fr, hC.block hg hD⟩
theorem bar_ne_box {W : World} (h : Bar W) {g : Nat} {a : Option Addr} {n c : Nat} {v1 v2 v3 : Value} {T : TypeId} (hg : W.heap[g]? = some (.cells #[.slice a n c, v1, v2, v3] T)) : g ≠ 0 := by
  rintro rfl
  obtain ⟨t, fr, h2⟩ := h.lies
  rw [hg] at h2
  simp [barCells] at h2
theorem bar_ne_map {W : World} (h : Bar W) {g : Nat} {es : Array MapEntry} {ck : Nat} (hg : W.heap[g]? = some (.map es ck)) : g ≠ 0 := by
  rintro rfl
  obtain ⟨t, fr, h2⟩ := h.lies
  rw [hg] at h2
  simp at h2
theorem set01 {W : World} {b : Nat} {T : TypeId} {u0 u1 u2 u3 u4 u5 u6 u7 u8 v0 v1 : Value} (h : W.heap[b]? = some (.cells #[u0, u1, u2, u3, u4, u5, u6, u7, u8] T)) :
    ∃ W9, (W.setCell ⟨b, 0, none⟩ v0).setCell ⟨b, 1, none⟩ v1 = W9 ∧ W9.heap[b]? = some (.cells #[v0, v1, u2, u3, u4, u5, u6, u7, u8] T) ∧ Chg (fun g => g = b) W W9 := by
  have h0 := (heap_setCell_same _ b 0 _ _ v0 h).trans (by simp; rfl)
  have h1 := (heap_setCell_same _ b 1 _ _ v1 h0).trans (by simp; rfl)
  have hs : ∀ (i : Nat) (W : World) (u : Value), Chg (fun g => g = b) W (W.setCell ⟨b, i, none⟩ u) := fun i W u => Chg.set (D := fun g => g = b) (q := b) i W u rfl
  exact ⟨_, rfl, h1, (hs 0 _ _).trans (hs 1 _ _)⟩
theorem setBox4 {W : World} {b : Nat} {T : TypeId} {u0 u1 u2 u3 : Value} (h : W.heap[b]? = some (.cells #[u0, u1, u2, u3] T)) (i : Nat) (v : Value) (cs : Array Value) (hc : #[u0, u1, u2, u3].setIfInBounds i v = cs) :
    ∃ W9, W.setCell ⟨b, i, none⟩ v = W9 ∧ W9.heap[b]? = some (.cells cs T) ∧ Chg (fun g => g = b) W W9 := by
  have h0 := heap_setCell_same _ b i _ _ v h
  rw [hc] at h0
  exact ⟨_, rfl, h0, Chg.set (D := fun g => g = b) (q := b) i W v rfl⟩
theorem own_litO {w : World} {g : Nat} {x : OpM} (h : w.heap[g]? = some (.cells (opF x).toArray 70)) : OwnF opF 9 70 w g (.slice (some ⟨g, 0, none⟩) 1 1) [x] :=
  ⟨rfl, .inr ⟨g, 1, _, rfl, Nat.le_refl _, h, Nat.le_refl _, by decide, rfl, by simp [flatF, opF]⟩⟩
theorem But.chg {b : Nat} {W W' : World} (h : But b W W') (hB : Below 0 W W') : Chg (fun g => g = b) W W' := ⟨hB, fun g _ hg => h.2 g hg⟩
theorem Chg.cell {D : Nat → Prop} {W W' : World} (hC : Chg D W W') {p : Addr} (hp : p.block < W.heap.size) (hd : ¬ D p.block) : W'.cell? p = W.cell? p := chg_cell hC hp hd
end Go.Proofs.YtokkodkhkpgebaaDoor
