import Derived.Test.YtokkodkhkpgebaaDoorKbK
/-! history.New; a history stands where others change. -/
namespace Go.Proofs.YtokkodkhkpgebaaDoor
open Go.RowKit Go.Lib
set_option maxRecDepth 100000

/-- What others change leaves a history: none of its blocks is among D. -/
theorem HisB.chg {W W' : World} {D : Nat → Prop} {h r : Nat} {oa na : Option Addr} {on oc nn nc : Nat} {tot : Int} {M : List ((Int × Int) × Int)} (H : HisB W h r oa on oc na nn nc tot M) (hC : Chg D W W') (hh : ¬ D h) (hr : ¬ D r) : HisB W' h r oa on oc na nn nc tot M := by
  obtain ⟨es, ck, h1, hE⟩ := H.map
  exact ⟨hC.block H.box hh, es, ck, hC.block h1 hr, hE⟩
theorem chg_cell {W W' : World} {D : Nat → Prop} (hC : Chg D W W') {p : Addr} (hp : p.block < W.heap.size) (hd : ¬ D p.block) : W'.cell? p = W.cell? p := by
  unfold World.cell?
  rw [hC.2 p.block hp hd]
theorem HisR.chg {W W' : World} {D : Nat → Prop} {h r : Nat} {oa na : Option Addr} {on oc nn nc : Nat} {tot : Int} {M : List ((Int × Int) × Int)} {E : List HE} (H : HisR W h r oa on oc na nn nc tot M E) (hC : Chg D W W') (hh : ¬ D h) (hr : ¬ D r) (ho : ∀ ad, oa = some ad → ¬ D ad.block) (hn : ∀ ad, na = some ad → ¬ D ad.block) : HisR W' h r oa on oc na nn nc tot M E :=
  ⟨H.hb.chg hC hh hr, H.len1, H.len2, H.few, H.idx, fun i e he => by
    obtain ⟨g, off, ha, hg, h1⟩ := H.ops i e he
    exact ⟨g, off, ha, by have := hC.size; omega, (chg_cell (p := ⟨g, off + i * 9 + 2, none⟩) hC hg (ho ⟨g, off, none⟩ ha)).trans h1⟩, fun i e he => by
    obtain ⟨g, off, ha, hg, h1, h2⟩ := H.now i e he
    exact ⟨g, off, ha, by have := hC.size; omega, (chg_cell (p := ⟨g, off + i * 2, none⟩) hC hg (hn ⟨g, off, none⟩ ha)).trans h1, (chg_cell (p := ⟨g, off + i * 2 + 1, none⟩) hC hg (hn ⟨g, off, none⟩ ha)).trans h2⟩⟩

theorem historyNew_any (w : World) : Calls Tryd.prog 16 #[] w fun e w' => (∃ h r, e = .returned (.pointer (some ⟨h, 0, none⟩)) ∧ HisR w' h r none 0 0 none 0 0 0 [] [] ∧ w.heap.size ≤ h ∧ w.heap.size ≤ r ∧ h ≠ r) ∧ Below w.heap.size w w' := by
  have hmk : (Instr.makeMap 74 none).run Tryd.prog w = .ok (.map (some w.heap.size)) (w.alloc (.map #[] 0)) := by
    simp [Instr.makeMap]
  go_enter Tryd.func16, Tryd.ntmps16
  go_wp2_with fail
  go_ret
  have k1 : Below w.heap.size w (w.alloc (.map #[] 0)) := (Below.refl _ _).alloc (Nat.le_refl _) _
  refine ⟨⟨w.heap.size + 1, w.heap.size, rfl, ⟨⟨?_, #[], 0, ?_, rfl⟩, rfl, rfl, by simp, fun x => rfl, fun i e he => by simp at he, fun i e he => by simp at he⟩, by omega, by omega, by omega⟩, ?_⟩
  · have := heap_alloc_new (w.alloc (.map #[] 0)) (.cells #[.slice none 0 0, .slice none 0 0, .map (some w.heap.size), .int .i64 0] 78)
    rw [World.size_alloc] at this
    exact this
  · rw [Below.heap_alloc _ _ _ (by simp)]
    exact heap_alloc_new _ _
  · exact k1.alloc (by simp) _
end Go.Proofs.YtokkodkhkpgebaaDoor
