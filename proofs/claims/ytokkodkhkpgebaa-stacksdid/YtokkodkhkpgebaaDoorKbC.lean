import Derived.Test.YtokkodkhkpgebaaDoorKbB
/-! A history in memory, as far as Effect reads it; Find. -/
namespace Go.Proofs.YtokkodkhkpgebaaDoor
open Go.RowKit Go.Lib
set_option maxRecDepth 100000

/-- The history's box h, its map r. -/
structure HisB (W : World) (h r : Nat) (oa : Option Addr) (on oc : Nat) (na : Option Addr) (nn nc : Nat) (tot : Int) (M : List ((Int × Int) × Int)) : Prop where
  box : W.heap[h]? = some (.cells #[.slice oa on oc, .slice na nn nc, .map (some r), .int .i64 tot] 78)
  map : ∃ es ck, W.heap[r]? = some (.map es ck) ∧ Ents es.toList M
def findP (M : List ((Int × Int) × Int)) (x : Int × Int) : Int × Int := match lookM M x with
  | some p => (p.2, 0)
  | none => (0, 60)
theorem box4 {W : World} {b : Nat} {T : TypeId} {v0 v1 v2 v3 : Value} (h : W.heap[b]? = some (.cells #[v0, v1, v2, v3] T)) : W.cell? ⟨b, 0, none⟩ = some v0 ∧ W.cell? ⟨b, 1, none⟩ = some v1 ∧ W.cell? ⟨b, 2, none⟩ = some v2 ∧ W.cell? ⟨b, 3, none⟩ = some v3 := by
  simp only [Lib.cell_of_heap h]
  exact ⟨rfl, rfl, rfl, rfl⟩
theorem HisB.below {W W' : World} {h r : Nat} {oa na : Option Addr} {on oc nn nc : Nat} {tot : Int} {M : List ((Int × Int) × Int)} (H : HisB W h r oa on oc na nn nc tot M) (hb : Below W.heap.size W W') : HisB W' h r oa on oc na nn nc tot M := by
  obtain ⟨es, ck, hr, hE⟩ := H.map
  exact ⟨(hb.block _ (Array.getElem?_eq_some_iff.1 H.box).1).trans H.box, es, ck, (hb.block _ (Array.getElem?_eq_some_iff.1 hr).1).trans hr, hE⟩

set_option maxHeartbeats 2000000 in
theorem find_any {w : World} {h r : Nat} {oa na : Option Addr} {on oc nn nc : Nat} {tot : Int} {M : List ((Int × Int) × Int)} (H : HisB w h r oa on oc na nn nc tot M) (x : Int × Int) :
    Calls Tryd.prog 70 #[.pointer (some ⟨h, 0, none⟩), idA x] w fun e w' => e = .returned (.tuple #[.int .i64 (findP M x).1, .int .i64 (findP M x).2]) ∧ Below w.heap.size w w' := by
  obtain ⟨x1, x2⟩ := x
  obtain ⟨w1, hw1⟩ : ∃ w1, w.alloc (.cells #[.int .i64 x1, .int .i64 x2] 23) = w1 := ⟨_, rfl⟩
  have k1 : Below w.heap.size w w1 := by rw [← hw1]; exact (Below.refl _ _).alloc (Nat.le_refl _) _
  have H1 := H.below k1
  obtain ⟨es, ck, hr1, hE⟩ := H1.map
  obtain ⟨b0, b1, b2, b3⟩ := box4 H1.box
  have hq : w1.heap[w.heap.size]? = some (.cells #[.int .i64 x1, .int .i64 x2] 23) := by rw [← hw1]; exact heap_alloc_new _ _
  obtain ⟨q0, q1⟩ := box2 hq
  have lh := (Array.getElem?_eq_some_iff.1 H1.box).1
  have lq := (Array.getElem?_eq_some_iff.1 hq).1
  have HL : Hid (∀ W : World, W.heap[r]? = some (.map es ck) → (Instr.lookup 74 (.map (some r)) (.agg #[.int .i64 x1, .int .i64 x2]) true).run Tryd.prog W = .ok (.tuple #[.int .i64 (((lookM M (x1, x2)).map (·.2)).getD 0), .bool (lookM M (x1, x2)).isSome]) W) := fun W hW => run_lookup W (x1, x2) r es ck M hW hE
  simp only [idA]
  go_enter Tryd.func70, Tryd.ntmps70
  obtain ⟨fv, fo, hfp⟩ : ∃ fv fo, ((lookM M (x1, x2)).map (·.2)).getD 0 = fv ∧ (lookM M (x1, x2)).isSome = fo := ⟨_, _, rfl, rfl⟩
  have HF : Hid (findP M (x1, x2) = if fo = true then (fv, 0) else (0, 60)) := by
    obtain ⟨e1, e2⟩ := hfp
    unfold findP
    cases hl : lookM M (x1, x2) with
    | none => rw [hl] at e2; subst e2; rfl
    | some p => rw [hl] at e1 e2; subst e1 e2; rfl
  rw [hfp.1, hfp.2] at HL
  clear hfp hE H1 H
  go_wp2_with fail
  clear hw1
  refine wp_region_held_drew (S := (fun W => (∀ p : Addr, p.block < w1.heap.size → W.cell? p = w1.cell? p) ∧ W.heap[r]? = some (.map es ck))) (by kernel_rfl) ?hS1 (fun hHeld => ?rest1)
  case hS1 => exact ⟨fun p hp => rfl, hr1⟩
  refine takeD (i := 0) (d := some 9) (v := ?vT2) rfl rfl (by kernel_rfl) (by kernel_rfl) (by kernel_rfl) (fun _ _ _ h => h) (Or.inl ⟨by rfl, ?hyT2⟩) (by assumption) ?rstT2
  case hyT2 => (intro w hSw; (try dsimp only at hSw); obtain ⟨hSw, _⟩ := hSw; go_simp; (try with_reducible rfl))
  try simp only [Act.put, List.setIfInBounds_toArray, List.set_cons_zero, List.set_cons_succ]
  refine takeD (i := 1) (d := some 10) (v := ?vT3) rfl rfl (by kernel_rfl) (by kernel_rfl) (by kernel_rfl) (fun _ _ _ h => h) (Or.inl ⟨by rfl, ?hyT3⟩) (by assumption) ?rstT3
  case hyT3 => (intro w hSw; (try dsimp only at hSw); obtain ⟨hSw, _⟩ := hSw; go_simp; (try with_reducible rfl))
  try simp only [Act.put, List.setIfInBounds_toArray, List.set_cons_zero, List.set_cons_succ]
  refine takeD (i := 2) (d := some 11) (v := ?vT4) rfl rfl (by kernel_rfl) (by kernel_rfl) (by kernel_rfl) (fun _ _ _ h => h) (Or.inl ⟨by rfl, ?hyT4⟩) (by assumption) ?rstT4
  case hyT4 => (intro w hSw; (try dsimp only at hSw); obtain ⟨hSw, _⟩ := hSw; go_simp; (try with_reducible rfl))
  try simp only [Act.put, List.setIfInBounds_toArray, List.set_cons_zero, List.set_cons_succ]
  refine takeD (i := 3) (d := some 12) (v := ?vT5) rfl rfl (by kernel_rfl) (by kernel_rfl) (by kernel_rfl) (fun _ _ _ h => h) (Or.inl ⟨by rfl, ?hyT5⟩) (by assumption) ?rstT5
  case hyT5 => (intro w hSw; (try dsimp only at hSw); obtain ⟨hSw, _⟩ := hSw; go_simp; (try with_reducible rfl))
  try simp only [Act.put, List.setIfInBounds_toArray, List.set_cons_zero, List.set_cons_succ]
  refine takeD (i := 4) (d := some 13) (v := ?vT6) rfl rfl (by kernel_rfl) (by kernel_rfl) (by kernel_rfl) (fun _ _ _ h => h) (Or.inl ⟨by rfl, ?hyT6⟩) (by assumption) ?rstT6
  case hyT6 => (intro w hSw; (try dsimp only at hSw); obtain ⟨hSw, _⟩ := hSw; go_simp; (try with_reducible rfl))
  try simp only [Act.put, List.setIfInBounds_toArray, List.set_cons_zero, List.set_cons_succ]
  refine takeD (i := 5) (d := some 14) (v := ?vT7) rfl rfl (by kernel_rfl) (by kernel_rfl) (by kernel_rfl) (fun _ _ _ h => h) (Or.inl ⟨by rfl, ?hyT7⟩) (by assumption) ?rstT7
  case hyT7 => (intro w hSw; have hlk := HL.out w hSw.2; clear hSw; go_simp; (try with_reducible rfl))
  try simp only [Act.put, List.setIfInBounds_toArray, List.set_cons_zero, List.set_cons_succ]
  refine takeD (i := 6) (d := some 8) (v := ?vT8) rfl rfl (by kernel_rfl) (by kernel_rfl) (by kernel_rfl) (fun _ _ _ h => h) (Or.inl ⟨by rfl, ?hyT8⟩) (by assumption) ?rstT8
  case hyT8 => (intro w hSw; (try dsimp only at hSw); obtain ⟨hSw, _⟩ := hSw; go_simp; (try with_reducible rfl))
  try simp only [Act.put, List.setIfInBounds_toArray, List.set_cons_zero, List.set_cons_succ]
  refine takeD (i := 7) (d := some 15) (v := ?vT9) rfl rfl (by kernel_rfl) (by kernel_rfl) (by kernel_rfl) (fun _ _ _ h => h) (Or.inl ⟨by rfl, ?hyT9⟩) (by assumption) ?rstT9
  case hyT9 => (intro w hSw; (try dsimp only at hSw); obtain ⟨hSw, _⟩ := hSw; go_simp; (try with_reducible rfl))
  try simp only [Act.put, List.setIfInBounds_toArray, List.set_cons_zero, List.set_cons_succ]
  refine takeD (i := 8) (d := some 16) (v := ?vT10) rfl rfl (by kernel_rfl) (by kernel_rfl) (by kernel_rfl) (fun _ _ _ h => h) (Or.inl ⟨by rfl, ?hyT10⟩) (by assumption) ?rstT10
  case hyT10 => (intro w hSw; (try dsimp only at hSw); obtain ⟨hSw, _⟩ := hSw; go_simp; (try with_reducible rfl))
  try simp only [Act.put, List.setIfInBounds_toArray, List.set_cons_zero, List.set_cons_succ]
  refine takeD (i := 9) (d := some 6) (v := ?vT11) rfl rfl (by kernel_rfl) (by kernel_rfl) (by kernel_rfl) (fun _ _ _ h => h) (Or.inl ⟨by rfl, ?hyT11⟩) (by assumption) ?rstT11
  case hyT11 => (intro w hSw; (try dsimp only at hSw); obtain ⟨hSw, _⟩ := hSw; go_simp; (try with_reducible rfl))
  try simp only [Act.put, List.setIfInBounds_toArray, List.set_cons_zero, List.set_cons_succ]
  refine takeD (i := 10) (d := some 7) (v := ?vT12) rfl rfl (by kernel_rfl) (by kernel_rfl) (by kernel_rfl) (fun _ _ _ h => h) (Or.inl ⟨by rfl, ?hyT12⟩) (by assumption) ?rstT12
  case hyT12 => (intro w hSw; (try dsimp only at hSw); obtain ⟨hSw, _⟩ := hSw; go_simp; (try with_reducible rfl))
  try simp only [Act.put, List.setIfInBounds_toArray, List.set_cons_zero, List.set_cons_succ]
  refine wpAnyH_done (by kernel_rfl) ?_ _
  cases fo with
  | true =>
    go_wp2_with fail
    refine bodyPost_ret (v := .tuple #[.int .i64 fv, .int .i64 0]) (by simp [results, Tryd.results70, go_sem]) rfl ?_
    rw [HF.out]
    exact ⟨rfl, k1.drew⟩
  | false =>
    go_wp2_with fail
    refine bodyPost_ret (v := .tuple #[.int .i64 0, .int .i64 60]) (by simp [results, Tryd.results70, go_sem]) rfl ?_
    rw [HF.out]
    exact ⟨rfl, k1.drew⟩
end Go.Proofs.YtokkodkhkpgebaaDoor
