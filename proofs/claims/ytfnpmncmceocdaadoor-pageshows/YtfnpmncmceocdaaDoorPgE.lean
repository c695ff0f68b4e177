import Derived.Test.YtfnpmncmceocdaaDoorPgD
/-! endRow. -/
namespace Go.Proofs.YtfnpmncmceocdaaDoor
open Go.RowKit Go.Lib
set_option maxRecDepth 100000

/-- All blocks but b stand. -/
def But (b : Nat) (w w' : World) : Prop := Below 0 w w' ∧ w'.heap.size = w.heap.size ∧ ∀ k, k ≠ b → w'.heap[k]? = w.heap[k]?
theorem But.refl (b : Nat) (w : World) : But b w w := ⟨Below.refl _ _, rfl, fun _ _ => rfl⟩
theorem But.trans {b : Nat} {w w' w'' : World} (h : But b w w') (h' : But b w' w'') : But b w w'' := ⟨h.1.trans h'.1, h'.2.1.trans h.2.1, fun k hk => (h'.2.2 k hk).trans (h.2.2 k hk)⟩
theorem But.set (b i : Nat) (w : World) (u : Value) : But b w (w.setCell ⟨b, i, none⟩ u) := ⟨(Below.refl _ _).setCell (Nat.zero_le _) _, by simp [World.setCell], fun k hk => Below.heap_setCell _ _ _ _ (by simp only; omega)⟩
theorem But.block {b : Nat} {w w' : World} (h : But b w w') {k : Nat} {o : Obj} (hk : w.heap[k]? = some o) (hb : k ≠ b) : w'.heap[k]? = some o := (h.2.2 k hb).trans hk
theorem But.chg {b : Nat} {D : Nat → Prop} {w w' : World} (h : But b w w') (hD : D b) : Chg D w w' := ⟨h.1, fun g _ hg => h.2.2 g (fun e => hg (e ▸ hD))⟩
theorem store6 {W : World} {b : Nat} {T : TypeId} {u0 u1 u2 u3 u4 u5 : Value} (h : W.heap[b]? = some (.cells #[u0, u1, u2, u3, u4, u5] T)) (v0 v1 v2 v3 v4 v5 : Value) :
    ∃ W6, ((((((W.setCell ⟨b, 0, none⟩ (v0)).setCell ⟨b, 1, none⟩ (v1)).setCell ⟨b, 2, none⟩ (v2)).setCell ⟨b, 3, none⟩ (v3)).setCell ⟨b, 4, none⟩ (v4)).setCell ⟨b, 5, none⟩ (v5)) = W6 ∧ W6.heap[b]? = some (.cells #[v0, v1, v2, v3, v4, v5] T) ∧ But b W W6 :=
  ⟨_, rfl, (heap_setCell_cells (heap_setCell_cells (heap_setCell_cells (heap_setCell_cells (heap_setCell_cells (heap_setCell_cells h 0 v0) 1 v1) 2 v2) 3 v3) 4 v4) 5 v5),
    (((((But.set _ _ _ _).trans (But.set _ _ _ _)).trans (But.set _ _ _ _)).trans (But.set _ _ _ _)).trans (But.set _ _ _ _)).trans (But.set _ _ _ _)⟩
theorem store6b {W : World} {b : Nat} {T : TypeId} {u0 u1 u2 u3 u4 u5 u6 u7 u8 u9 u10 u11 u12 u13 : Value} (h : W.heap[b]? = some (.cells #[u0, u1, u2, u3, u4, u5, u6, u7, u8, u9, u10, u11, u12, u13] T)) (v0 v1 v2 v3 v4 v5 : Value) :
    ∃ W6, ((((((W.setCell ⟨b, 2, none⟩ (v0)).setCell ⟨b, 3, none⟩ (v1)).setCell ⟨b, 4, none⟩ (v2)).setCell ⟨b, 5, none⟩ (v3)).setCell ⟨b, 6, none⟩ (v4)).setCell ⟨b, 7, none⟩ (v5)) = W6 ∧ W6.heap[b]? = some (.cells #[u0, u1, v0, v1, v2, v3, v4, v5, u8, u9, u10, u11, u12, u13] T) ∧ But b W W6 :=
  ⟨_, rfl, (heap_setCell_cells (heap_setCell_cells (heap_setCell_cells (heap_setCell_cells (heap_setCell_cells (heap_setCell_cells h 2 v0) 3 v1) 4 v2) 5 v3) 6 v4) 7 v5),
    (((((But.set _ _ _ _).trans (But.set _ _ _ _)).trans (But.set _ _ _ _)).trans (But.set _ _ _ _)).trans (But.set _ _ _ _)).trans (But.set _ _ _ _)⟩
theorem store6w {W : World} {b : Nat} {T : TypeId} {u0 u1 u2 u3 u4 u5 u6 u7 u8 u9 u10 u11 u12 u13 : Value} (h : W.heap[b]? = some (.cells #[u0, u1, u2, u3, u4, u5, u6, u7, u8, u9, u10, u11, u12, u13] T)) (v0 v1 v2 v3 v4 v5 : Value) :
    ∃ W6, ((((((W.setCell ⟨b, 8, none⟩ (v0)).setCell ⟨b, 9, none⟩ (v1)).setCell ⟨b, 10, none⟩ (v2)).setCell ⟨b, 11, none⟩ (v3)).setCell ⟨b, 12, none⟩ (v4)).setCell ⟨b, 13, none⟩ (v5)) = W6 ∧ W6.heap[b]? = some (.cells #[u0, u1, u2, u3, u4, u5, u6, u7, v0, v1, v2, v3, v4, v5] T) ∧ But b W W6 :=
  ⟨_, rfl, (heap_setCell_cells (heap_setCell_cells (heap_setCell_cells (heap_setCell_cells (heap_setCell_cells (heap_setCell_cells h 8 v0) 9 v1) 10 v2) 11 v3) 12 v4) 13 v5),
    (((((But.set _ _ _ _).trans (But.set _ _ _ _)).trans (But.set _ _ _ _)).trans (But.set _ _ _ _)).trans (But.set _ _ _ _)).trans (But.set _ _ _ _)⟩
theorem store1 {W : World} {b : Nat} {cs : Array Value} {T : TypeId} (h : W.heap[b]? = some (.cells cs T)) (i : Nat) (v : Value) :
    ∃ W1, W.setCell ⟨b, i, none⟩ v = W1 ∧ W1.heap[b]? = some (.cells (cs.setIfInBounds i v) T) ∧ But b W W1 := ⟨_, rfl, heap_setCell_cells h i v, But.set _ _ _ _⟩
/-- What a filler's call keeps while it goes on: the filler's box, a box of its own, the rows; what has changed. -/
structure Mem (w : World) (b C E : Nat) (L : List R6) (V : World) (fv : Value) (cb ce : Array Value) : Prop where
  box : V.heap[b]? = some (.cells cb 79)
  ebx : V.heap[E]? = some (.cells ce 56)
  own : OwnF r6V 6 56 V C fv L
  chg : Chg (fun g => g = b ∨ C ≤ g) w V
  ge : C ≤ E
  bC : b < C
  ne : fv.ownBlock ≠ some E
section
variable {w : World} {b C E : Nat} {L : List R6} {V V' : World} {fv : Value} {cb ce : Array Value}
theorem Mem.Cle (h : Mem w b C E L V fv cb ce) : C ≤ V.heap.size := by
  have h1 := (Array.getElem?_eq_some_iff.1 h.ebx).1
  have := h.ge
  omega
theorem Mem.below (h : Mem w b C E L V fv cb ce) (hb : Below V.heap.size V V') : Mem w b C E L V' fv cb ce :=
  ⟨(hb.block _ (Array.getElem?_eq_some_iff.1 h.box).1).trans h.box, (hb.block _ (Array.getElem?_eq_some_iff.1 h.ebx).1).trans h.ebx, h.own.below hb, h.chg.trans (Chg.of_below hb), h.ge, h.bC, h.ne⟩
theorem Mem.setE (h : Mem w b C E L V fv cb ce) (hk : But E V V') {ce' : Array Value} (he : V'.heap[E]? = some (.cells ce' 56)) : Mem w b C E L V' fv cb ce' := by
  have h1 := h.ge
  have h2 := h.bC
  exact ⟨hk.block h.box (by omega), he, h.own.chg (hk.chg (D := fun g => g = E) rfl) (fun g hg e => h.ne (by rw [hg, e])), h.chg.trans (hk.chg (.inr h1)), h1, h2, h.ne⟩
theorem Mem.setN (h : Mem w b C E L V fv cb ce) {N : Nat} (hk : But N V V') (h1 : C ≤ N) (h2 : N ≠ E) (h3 : fv.ownBlock ≠ some N) : Mem w b C E L V' fv cb ce := by
  have h4 := h.bC
  exact ⟨hk.block h.box (by omega), hk.block h.ebx (Ne.symm h2), h.own.chg (hk.chg (D := fun g => g = N) rfl) (fun g hg e => h3 (by rw [hg, e])), h.chg.trans (hk.chg (.inr h1)), h.ge, h4, h.ne⟩
theorem Mem.setB (h : Mem w b C E L V fv cb ce) (hk : But b V V') {cb' : Array Value} (he : V'.heap[b]? = some (.cells cb' 79)) : Mem w b C E L V' fv cb' ce := by
  have h1 := h.ge
  have h2 := h.bC
  exact ⟨he, hk.block h.ebx (by omega), h.own.chg (hk.chg (D := fun g => g = b) rfl) (fun g hg e => by have := h.own.ge hg; omega), h.chg.trans (hk.chg (.inl rfl)), h1, h2, h.ne⟩
/-- A row is laid behind the others. -/
theorem Mem.app (h : Mem w b C E L V fv cb ce) (hl : L.length + 1 ≤ 1099511627777) (x : R6) (cs : Array Value) (hcs : r6V x = cs.toList) : ∃ g cap V', (Builtin.append_ #[46, 46] 46 #[fv, .slice (some ⟨V.heap.size, 0, none⟩) 1 1]).run Tryd.prog (V.alloc (.cells cs 56)) = .ok (.slice (some ⟨g, 0, none⟩) (L.length + 1) cap) V' ∧ Mem w b C E (L ++ [x]) V' (.slice (some ⟨g, 0, none⟩) (L.length + 1) cap) cb ce ∧ V.heap.size < V'.heap.size := by
  obtain ⟨g, cap, V', hr, ho, hb, hk, hgt, hat⟩ := appendF_one kindR6 layR6 h.own h.Cle x cs hcs 56 (by omega) (by omega) 46
  have hE := (Array.getElem?_eq_some_iff.1 h.ebx).1
  have h1 := h.ge
  refine ⟨g, cap, V', hr, ⟨(hb.block b h.bC).trans h.box, (hk E hE h.ne).trans h.ebx, ho, h.chg.trans ⟨hb.mono (Nat.zero_le _), fun k hk1 hk2 => hb.block k (by omega)⟩, h1, h.bC, fun e => ?_⟩, hgt⟩
  simp only [Value.ownBlock, Option.some.injEq] at e
  subst e
  rcases hat with e | e
  · exact h.ne e
  · omega
end
set_option maxHeartbeats 16000000 in
theorem endRow_word {w : World} {b C : Nat} {fv : Value} {L : List R6} {W lo hi cols fr tt wlo whi wcols wfr wto : Int} (hbx : w.heap[b]? = some (.cells (FiC W fv lo hi cols false fr tt wlo whi wcols wfr wto) 79)) (ho : OwnF r6V 6 56 w C fv L) (hbC : b < C) (hC : C ≤ w.heap.size) (hl : L.length + 1 ≤ 1099511627777) (hw : 0 ≤ cols ∧ cols ≤ 1099511627776 ∧ 0 ≤ wcols ∧ wcols ≤ 1099511627776) (h : lo < whi) :
    Calls Tryd.prog 50 #[.pointer (some ⟨b, 0, none⟩)] w fun e w' => ∃ fv2, e = .returned (.tuple #[]) ∧ w'.heap[b]? = some (.cells (FiC W fv2 whi hi (cols - wcols) false wto tt wlo whi wcols wfr wto) 79) ∧ OwnF r6V 6 56 w' C fv2 (L ++ [⟨wlo, whi, wcols, false, wfr, wto⟩]) ∧ Chg (fun g => g = b ∨ C ≤ g) w w' := by
  unfold FiC at hbx
  have HM : Hid (∀ w1, w.alloc (.cells #[.int .i64 lo, .int .i64 hi, .int .i64 cols, .bool false, .int .i64 fr, .int .i64 tt] 56) = w1 → Mem w b C w.heap.size L w1 fv #[.int .i64 W, fv, .int .i64 lo, .int .i64 hi, .int .i64 cols, .bool false, .int .i64 fr, .int .i64 tt, .int .i64 wlo, .int .i64 whi, .int .i64 wcols, .bool false, .int .i64 wfr, .int .i64 wto] #[.int .i64 lo, .int .i64 hi, .int .i64 cols, .bool false, .int .i64 fr, .int .i64 tt]) := fun w1 h1 => by
    have hb : Below w.heap.size w w1 := by rw [← h1]; exact (Below.refl _ _).alloc (Nat.le_refl _) _
    exact ⟨(hb.block _ (Array.getElem?_eq_some_iff.1 hbx).1).trans hbx, by rw [← h1]; exact heap_alloc_new _ _, ho.below hb, Chg.of_below hb, hC, hbC, fun e => by have := ho.lt e; omega⟩
  have HL : Hid (L.length + 1 ≤ 1099511627777) := hl
  obtain ⟨c0, c1, c2, c3, c4, c5, c6, c7, c8, c9, c10, c11, c12, c13⟩ := box14 hbx
  have hgt : decide (whi > lo) = true := decide_eq_true h
  clear hbx ho hl hC hbC
  go_enter Tryd.func50, Tryd.ntmps50
  go_wp2_with fail
  obtain ⟨w1, hw1⟩ : ∃ V, w.alloc (.cells #[.int .i64 lo, .int .i64 hi, .int .i64 cols, .bool false, .int .i64 fr, .int .i64 tt] 56) = V := ⟨_, rfl⟩
  have m1 : Mem w b C w.heap.size L w1 fv _ #[.int .i64 lo, .int .i64 hi, .int .i64 cols, .bool false, .int .i64 fr, .int .i64 tt] := HM.out w1 hw1
  rw [hw1]
  clear hw1
  obtain ⟨c0, c1, c2, c3, c4, c5, c6, c7, c8, c9, c10, c11, c12, c13⟩ := box14 m1.box
  refine wp_region_held_drew (S := (fun w => w.cell? ⟨b, 2, none⟩ = some (.int .i64 lo) ∧ w.cell? ⟨b, 9, none⟩ = some (.int .i64 whi))) (by kernel_rfl) ?hS1 (fun hHeld => ?rest1)
  case hS1 => exact ⟨c2, c9⟩
  refine takeD (i := 0) (d := some 8) (v := ?vT2) rfl rfl (by kernel_rfl) (by kernel_rfl) (by kernel_rfl) (fun _ _ _ h => h) (Or.inl ⟨by rfl, ?hyT2⟩) (by assumption) ?rstT2
  case hyT2 => (intro w hSw; (try dsimp only at hSw); obtain ⟨s0, s1⟩ := hSw; go_simp; (try with_reducible rfl))
  try simp only [Act.put, List.setIfInBounds_toArray, List.set_cons_zero, List.set_cons_succ]
  refine takeD (i := 1) (d := some 9) (v := ?vT3) rfl rfl (by kernel_rfl) (by kernel_rfl) (by kernel_rfl) (fun _ _ _ h => h) (Or.inl ⟨by rfl, ?hyT3⟩) (by assumption) ?rstT3
  case hyT3 => (intro w hSw; (try dsimp only at hSw); obtain ⟨s0, s1⟩ := hSw; go_simp; (try with_reducible rfl))
  try simp only [Act.put, List.setIfInBounds_toArray, List.set_cons_zero, List.set_cons_succ]
  refine takeD (i := 2) (d := some 10) (v := ?vT4) rfl rfl (by kernel_rfl) (by kernel_rfl) (by kernel_rfl) (fun _ _ _ h => h) (Or.inl ⟨by rfl, ?hyT4⟩) (by assumption) ?rstT4
  case hyT4 => (intro w hSw; (try dsimp only at hSw); obtain ⟨s0, s1⟩ := hSw; go_simp; (try with_reducible rfl))
  try simp only [Act.put, List.setIfInBounds_toArray, List.set_cons_zero, List.set_cons_succ]
  refine takeD (i := 3) (d := some 11) (v := ?vT5) rfl rfl (by kernel_rfl) (by kernel_rfl) (by kernel_rfl) (fun _ _ _ h => h) (Or.inl ⟨by rfl, ?hyT5⟩) (by assumption) ?rstT5
  case hyT5 => (intro w hSw; (try dsimp only at hSw); obtain ⟨s0, s1⟩ := hSw; go_simp; (try with_reducible rfl))
  try simp only [Act.put, List.setIfInBounds_toArray, List.set_cons_zero, List.set_cons_succ]
  refine takeD (i := 4) (d := some 12) (v := ?vT6) rfl rfl (by kernel_rfl) (by kernel_rfl) (by kernel_rfl) (fun _ _ _ h => h) (Or.inl ⟨by rfl, ?hyT6⟩) (by assumption) ?rstT6
  case hyT6 => (intro w hSw; (try dsimp only at hSw); obtain ⟨s0, s1⟩ := hSw; go_simp; (try with_reducible rfl))
  try simp only [Act.put, List.setIfInBounds_toArray, List.set_cons_zero, List.set_cons_succ]
  refine takeD (i := 5) (d := some 13) (v := ?vT7) rfl rfl (by kernel_rfl) (by kernel_rfl) (by kernel_rfl) (fun _ _ _ h => h) (Or.inl ⟨by rfl, ?hyT7⟩) (by assumption) ?rstT7
  case hyT7 => (intro w hSw; (try dsimp only at hSw); obtain ⟨s0, s1⟩ := hSw; go_simp; (try with_reducible rfl))
  try simp only [Act.put, List.setIfInBounds_toArray, List.set_cons_zero, List.set_cons_succ]
  refine takeD (i := 6) (d := some 14) (v := ?vT8) rfl rfl (by kernel_rfl) (by kernel_rfl) (by kernel_rfl) (fun _ _ _ h => h) (Or.inl ⟨by rfl, ?hyT8⟩) (by assumption) ?rstT8
  case hyT8 => (intro w hSw; (try dsimp only at hSw); obtain ⟨s0, s1⟩ := hSw; go_simp; (try with_reducible rfl))
  try simp only [Act.put, List.setIfInBounds_toArray, List.set_cons_zero, List.set_cons_succ]
  refine takeD (i := 7) (d := some 15) (v := ?vT9) rfl rfl (by kernel_rfl) (by kernel_rfl) (by kernel_rfl) (fun _ _ _ h => h) (Or.inl ⟨by rfl, ?hyT9⟩) (by assumption) ?rstT9
  case hyT9 => (intro w hSw; (try dsimp only at hSw); obtain ⟨s0, s1⟩ := hSw; go_simp; (try with_reducible rfl))
  try simp only [Act.put, List.setIfInBounds_toArray, List.set_cons_zero, List.set_cons_succ]
  refine takeD (i := 8) (d := some 16) (v := ?vT10) rfl rfl (by kernel_rfl) (by kernel_rfl) (by kernel_rfl) (fun _ _ _ h => h) (Or.inl ⟨by rfl, ?hyT10⟩) (by assumption) ?rstT10
  case hyT10 => (intro w hSw; (try dsimp only at hSw); obtain ⟨s0, s1⟩ := hSw; go_simp; (try with_reducible rfl))
  try simp only [Act.put, List.setIfInBounds_toArray, List.set_cons_zero, List.set_cons_succ]
  refine takeD (i := 9) (d := some 17) (v := ?vT11) rfl rfl (by kernel_rfl) (by kernel_rfl) (by kernel_rfl) (fun _ _ _ h => h) (Or.inl ⟨by rfl, ?hyT11⟩) (by assumption) ?rstT11
  case hyT11 => (intro w hSw; (try dsimp only at hSw); obtain ⟨s0, s1⟩ := hSw; go_simp; (try with_reducible rfl))
  try simp only [Act.put, List.setIfInBounds_toArray, List.set_cons_zero, List.set_cons_succ]
  refine takeD (i := 10) (d := some 18) (v := ?vT12) rfl rfl (by kernel_rfl) (by kernel_rfl) (by kernel_rfl) (fun _ _ _ h => h) (Or.inl ⟨by rfl, ?hyT12⟩) (by assumption) ?rstT12
  case hyT12 => (intro w hSw; (try dsimp only at hSw); obtain ⟨s0, s1⟩ := hSw; go_simp; (try with_reducible rfl))
  try simp only [Act.put, List.setIfInBounds_toArray, List.set_cons_zero, List.set_cons_succ]
  refine takeD (i := 11) (d := some 19) (v := ?vT13) rfl rfl (by kernel_rfl) (by kernel_rfl) (by kernel_rfl) (fun _ _ _ h => h) (Or.inl ⟨by rfl, ?hyT13⟩) (by assumption) ?rstT13
  case hyT13 => (intro w hSw; (try dsimp only at hSw); obtain ⟨s0, s1⟩ := hSw; go_simp; (try with_reducible rfl))
  try simp only [Act.put, List.setIfInBounds_toArray, List.set_cons_zero, List.set_cons_succ]
  refine takeD (i := 12) (d := some 20) (v := ?vT14) rfl rfl (by kernel_rfl) (by kernel_rfl) (by kernel_rfl) (fun _ _ _ h => h) (Or.inl ⟨by rfl, ?hyT14⟩) (by assumption) ?rstT14
  case hyT14 => (intro w hSw; (try dsimp only at hSw); obtain ⟨s0, s1⟩ := hSw; go_simp; (try with_reducible rfl))
  try simp only [Act.put, List.setIfInBounds_toArray, List.set_cons_zero, List.set_cons_succ]
  refine wpAnyH_done (by kernel_rfl) ?_ _
  obtain ⟨w2, hw2⟩ : ∃ V, w1.drew = V := ⟨_, rfl⟩
  have m2 := m1.below (V' := w2) (by rw [← hw2]; exact (Below.refl _ _).drew)
  rw [hw2]
  clear hw2 c0 c1 c2 c3 c4 c5 c6 c7 c8 c9 c10 c11 c12 c13 m1
  obtain ⟨c0, c1, c2, c3, c4, c5, c6, c7, c8, c9, c10, c11, c12, c13⟩ := box14 m2.box
  obtain ⟨d0, d1, d2, d3, d4, d5⟩ := box6 m2.ebx
  obtain ⟨z0, z1, z2, z3, z4, z5⟩ := wr6 m2.ebx
  obtain ⟨w3, hw3, e3, k3⟩ := store6 m2.ebx (.int .i64 wlo) (.int .i64 whi) (.int .i64 wcols) (.bool false) (.int .i64 wfr) (.int .i64 wto)
  have m3 := m2.setE k3 e3
  clear m2 k3 e3
  go_wp2_with fail
  try simp only [hw3]
  clear hw3 c0 c1 c2 c3 c4 c5 c6 c7 c8 c9 c10 c11 c12 c13 d0 d1 d2 d3 d4 d5 z0 z1 z2 z3 z4 z5
  obtain ⟨w4, hw4⟩ : ∃ V, w3.drew = V := ⟨_, rfl⟩
  have m4 := m3.below (V' := w4) (by rw [← hw4]; exact (Below.refl _ _).drew)
  clear m3
  obtain ⟨g, cap, w5, hap, m5, hgt⟩ := m4.app HL.out ⟨wlo, whi, wcols, false, wfr, wto⟩ #[.int .i64 wlo, .int .i64 whi, .int .i64 wcols, .bool false, .int .i64 wfr, .int .i64 wto] rfl
  obtain ⟨fa, fc, efv⟩ := m4.own.shape
  obtain ⟨ln, hln⟩ : ∃ n, L.length = n := ⟨_, rfl⟩
  rw [hln] at efv hap m5
  obtain ⟨c0, c1, c2, c3, c4, c5, c6, c7, c8, c9, c10, c11, c12, c13⟩ := box14 m4.box
  obtain ⟨d0, d1, d2, d3, d4, d5⟩ := box6 m4.ebx
  rw [efv] at c1 hap
  have ma := m4.below (V' := w4.alloc (.cells #[.int .i64 wlo, .int .i64 whi, .int .i64 wcols, .bool false, .int .i64 wfr, .int .i64 wto] 56)) ((Below.refl _ _).alloc (Nat.le_refl _) _)
  obtain ⟨-, a1, -⟩ := box14 ma.box
  obtain ⟨q0, q1, q2, q3, q4, q5⟩ := box6 ma.ebx
  rw [efv] at a1
  obtain ⟨-, p1, -⟩ := box14 m5.box
  obtain ⟨-, y1, -⟩ := wr14 m5.box
  obtain ⟨r0, r1, r2, r3, r4, r5⟩ := box6 m5.ebx
  rw [efv] at p1
  obtain ⟨w6, hw6, e6, k6⟩ := store1 m5.box 1 (.slice (some ⟨g, 0, none⟩) (ln + 1) cap)
  have m6 : Mem w b C w.heap.size (L ++ [⟨wlo, whi, wcols, false, wfr, wto⟩]) w6 (.slice (some ⟨g, 0, none⟩) (ln + 1) cap) #[.int .i64 W, (.slice (some ⟨g, 0, none⟩) (ln + 1) cap), .int .i64 lo, .int .i64 hi, .int .i64 cols, .bool false, .int .i64 fr, .int .i64 tt, .int .i64 wlo, .int .i64 whi, .int .i64 wcols, .bool false, .int .i64 wfr, .int .i64 wto] #[.int .i64 wlo, .int .i64 whi, .int .i64 wcols, .bool false, .int .i64 wfr, .int .i64 wto] := m5.setB k6 e6
  have M6 := m6
  clear m4 ma m5 m6 e6 k6 hgt
  refine wp_region_E (S := (fun v => v.cell? ⟨b, 1, none⟩ = some (.slice fa ln fc) ∧ v.cell? ⟨w.heap.size, 0, none⟩ = some (.int .i64 wlo) ∧ v.cell? ⟨w.heap.size, 1, none⟩ = some (.int .i64 whi) ∧ v.cell? ⟨w.heap.size, 2, none⟩ = some (.int .i64 wcols) ∧ v.cell? ⟨w.heap.size, 3, none⟩ = some (.bool false) ∧ v.cell? ⟨w.heap.size, 4, none⟩ = some (.int .i64 wfr) ∧ v.cell? ⟨w.heap.size, 5, none⟩ = some (.int .i64 wto))) (E := [10]) (by kernel_rfl) ?_
  rw [hw4]
  clear hw4
  refine takeE (i := 0) (d := some 25) (v := ?vT15) rfl rfl (by kernel_rfl) (by kernel_rfl) (by kernel_rfl) (by kernel_rfl) (fun _ _ _ h => h) (Or.inl ⟨by rfl, ?hyT15⟩) ⟨c1, d0, d1, d2, d3, d4, d5⟩ ?rstT15
  case hyT15 => (intro w hSw; (try dsimp only at hSw); obtain ⟨y0, y1, y2, y3, y4, y5, y6⟩ := hSw; go_simp; (try with_reducible rfl))
  try simp only [Act.put, List.setIfInBounds_toArray, List.set_cons_zero, List.set_cons_succ]
  refine takeE (i := 1) (d := some 26) (v := ?vT16) rfl rfl (by kernel_rfl) (by kernel_rfl) (by kernel_rfl) (by kernel_rfl) (fun _ _ _ h => h) (Or.inl ⟨by rfl, ?hyT16⟩) ⟨c1, d0, d1, d2, d3, d4, d5⟩ ?rstT16
  case hyT16 => (intro w hSw; (try dsimp only at hSw); obtain ⟨y0, y1, y2, y3, y4, y5, y6⟩ := hSw; go_simp; (try with_reducible rfl))
  try simp only [Act.put, List.setIfInBounds_toArray, List.set_cons_zero, List.set_cons_succ]
  refine takeE (i := 2) (d := some 27) (v := ?vT17) rfl rfl (by kernel_rfl) (by kernel_rfl) (by kernel_rfl) (by kernel_rfl) (fun _ _ _ h => h) (Or.inl ⟨by rfl, ?hyT17⟩) ⟨c1, d0, d1, d2, d3, d4, d5⟩ ?rstT17
  case hyT17 => (intro w hSw; (try dsimp only at hSw); obtain ⟨y0, y1, y2, y3, y4, y5, y6⟩ := hSw; go_simp; (try with_reducible rfl))
  try simp only [Act.put, List.setIfInBounds_toArray, List.set_cons_zero, List.set_cons_succ]
  refine takeE (i := 3) (d := some 28) (v := ?vT18) rfl rfl (by kernel_rfl) (by kernel_rfl) (by kernel_rfl) (by kernel_rfl) (fun _ _ _ h => h) (Or.inl ⟨by rfl, ?hyT18⟩) ⟨c1, d0, d1, d2, d3, d4, d5⟩ ?rstT18
  case hyT18 => (intro w hSw; (try dsimp only at hSw); obtain ⟨y0, y1, y2, y3, y4, y5, y6⟩ := hSw; go_simp; (try with_reducible rfl))
  try simp only [Act.put, List.setIfInBounds_toArray, List.set_cons_zero, List.set_cons_succ]
  refine takeE (i := 4) (d := some 29) (v := ?vT19) rfl rfl (by kernel_rfl) (by kernel_rfl) (by kernel_rfl) (by kernel_rfl) (fun _ _ _ h => h) (Or.inl ⟨by rfl, ?hyT19⟩) ⟨c1, d0, d1, d2, d3, d4, d5⟩ ?rstT19
  case hyT19 => (intro w hSw; (try dsimp only at hSw); obtain ⟨y0, y1, y2, y3, y4, y5, y6⟩ := hSw; go_simp; (try with_reducible rfl))
  try simp only [Act.put, List.setIfInBounds_toArray, List.set_cons_zero, List.set_cons_succ]
  refine takeE (i := 5) (d := some 30) (v := ?vT20) rfl rfl (by kernel_rfl) (by kernel_rfl) (by kernel_rfl) (by kernel_rfl) (fun _ _ _ h => h) (Or.inl ⟨by rfl, ?hyT20⟩) ⟨c1, d0, d1, d2, d3, d4, d5⟩ ?rstT20
  case hyT20 => (intro w hSw; (try dsimp only at hSw); obtain ⟨y0, y1, y2, y3, y4, y5, y6⟩ := hSw; go_simp; (try with_reducible rfl))
  try simp only [Act.put, List.setIfInBounds_toArray, List.set_cons_zero, List.set_cons_succ]
  refine oneE (i := 6) (by kernel_rfl) rfl (fun K hK => ?_)
  go_simp
  refine hK.out _ _ ?hS21 ?rest21
  case hS21 => exact fun _ => ⟨a1, q0, q1, q2, q3, q4, q5⟩
  clear hK K
  try simp only [Act.put, List.setIfInBounds_toArray, List.set_cons_zero, List.set_cons_succ]
  refine oneE (i := 7) (by kernel_rfl) rfl (fun K hK => ?_)
  rw [if_pos (by rfl)]
  refine wp_append_hr (.tmp 29) (.tmp 31) 46 (some 32) rfl rfl _ _ rfl rfl hap ?_
  refine hK.out _ _ ?hS22 ?rest22
  case hS22 => exact fun _ => ⟨p1, r0, r1, r2, r3, r4, r5⟩
  clear hK K
  try simp only [Act.put, List.setIfInBounds_toArray, List.set_cons_zero, List.set_cons_succ]
  refine oneE (i := 8) (by kernel_rfl) rfl (fun K hK => ?_)
  go_simp
  refine hK.out _ _ ?hS23 ?rest23
  case hS23 => exact fun _ => ⟨p1, r0, r1, r2, r3, r4, r5⟩
  clear hK K
  try simp only [Act.put, List.setIfInBounds_toArray, List.set_cons_zero, List.set_cons_succ]
  refine oneE (i := 9) (by kernel_rfl) rfl (fun K hK => ?_)
  go_simp
  refine hK.out _ _ ?hS24 ?rest24
  case hS24 => exact fun _ => ⟨p1, r0, r1, r2, r3, r4, r5⟩
  clear hK K
  try simp only [Act.put, List.setIfInBounds_toArray, List.set_cons_zero, List.set_cons_succ]
  refine oneE (i := 10) (by kernel_rfl) rfl (fun K hK => ?_)
  go_simp
  refine hK.out _ _ ?hS25 ?rest25
  case hS25 => exact fun e => absurd e (by decide)
  clear hK K
  try simp only [Act.put, List.setIfInBounds_toArray, List.set_cons_zero, List.set_cons_succ]
  refine doneE (by kernel_rfl) ?_ _
  try simp only [hw6]
  skip
  clear hw6 hap c0 c1 c2 c3 c4 c5 c6 c7 c8 c9 c10 c11 c12 c13 d0 d1 d2 d3 d4 d5 a1 q0 q1 q2 q3 q4 q5 p1 y1 r0 r1 r2 r3 r4 r5 efv
  obtain ⟨d0, d1, d2, d3, d4, d5⟩ := box6 M6.ebx
  have HEm : Calls Tryd.prog 48 #[.int .i64 whi, .int .i64 wto] w6 fun e w' => e = .returned (rowVal whi whi 0 false wto wto) ∧ Below w6.heap.size w6 w' := empty_any _ _ _
  go_wp2_with fail
  refine HEm.mono ?_
  rintro e w7 ⟨rfl, hb7⟩
  clear HEm d0 d1 d2 d3 d4 d5
  have m7 := M6.below hb7
  clear M6 hb7
  unfold rowVal
  go_wp2_with fail
  obtain ⟨w8, hw8⟩ : ∃ V, w7.alloc (.cells #[.int .i64 whi, .int .i64 whi, .int .i64 0, .bool false, .int .i64 wto, .int .i64 wto] 56) = V := ⟨_, rfl⟩
  have b8 : Below w7.heap.size w7 w8 := by rw [← hw8]; exact (Below.refl _ _).alloc (Nat.le_refl _) _
  have n8 : w8.heap[w7.heap.size]? = some (.cells #[.int .i64 whi, .int .i64 whi, .int .i64 0, .bool false, .int .i64 wto, .int .i64 wto] 56) := by rw [← hw8]; exact heap_alloc_new _ _
  have hN1 : C ≤ w7.heap.size := m7.Cle
  have hN2 : w7.heap.size ≠ w.heap.size := by have := (Array.getElem?_eq_some_iff.1 m7.ebx).1; omega
  have hN3 : (Value.slice (some ⟨g, 0, none⟩) (ln + 1) cap).ownBlock ≠ some w7.heap.size := fun e => by have := m7.own.lt e; omega
  have hN4 : b ≠ w7.heap.size := by have := m7.bC; omega
  have m8 := m7.below b8
  rw [hw8]
  clear hw8 m7 b8
  obtain ⟨N, hN⟩ : ∃ N, w7.heap.size = N := ⟨_, rfl⟩
  rw [hN] at n8 hN1 hN2 hN3 hN4 ⊢
  clear hN
  obtain ⟨u0, hu0⟩ : ∃ V, w8.drew = V := ⟨_, rfl⟩
  have bu : Below w8.heap.size w8 u0 := by rw [← hu0]; exact (Below.refl _ _).drew
  have mu := m8.below bu
  have nu := (bu.block _ (Array.getElem?_eq_some_iff.1 n8).1).trans n8
  clear m8 n8 bu
  obtain ⟨u1, hu1, x1, k1⟩ := store1 nu 1 (.int .i64 hi)
  obtain ⟨u2, hu2, x2, k2⟩ := store1 x1 5 (.int .i64 tt)
  obtain ⟨u3, hu3, x3, k3⟩ := store1 x2 2 (.int .i64 (cols - wcols))
  have mu1 := mu.setN k1 hN1 hN2 hN3
  have mu2 := mu1.setN k2 hN1 hN2 hN3
  have mu3 := mu2.setN k3 hN1 hN2 hN3
  obtain ⟨-, -, -, f3, f4, -, -, f7, -⟩ := box14 mu.box
  obtain ⟨-, -, g2, -⟩ := box6 mu.ebx
  obtain ⟨-, -, -, f31, f41, -, -, f71, -⟩ := box14 mu1.box
  obtain ⟨-, -, g21, -⟩ := box6 mu1.ebx
  obtain ⟨-, -, -, f32, f42, -, -, f72, -⟩ := box14 mu2.box
  obtain ⟨-, -, g22, -⟩ := box6 mu2.ebx
  obtain ⟨-, -, -, f33, f43, -, -, f73, -⟩ := box14 mu3.box
  obtain ⟨-, -, g23, -⟩ := box6 mu3.ebx
  have x1 : u1.heap[N]? = some (.cells #[.int .i64 whi, .int .i64 hi, .int .i64 0, .bool false, .int .i64 wto, .int .i64 wto] 56) := x1
  have x2 : u2.heap[N]? = some (.cells #[.int .i64 whi, .int .i64 hi, .int .i64 0, .bool false, .int .i64 wto, .int .i64 tt] 56) := x2
  have x3 : u3.heap[N]? = some (.cells #[.int .i64 whi, .int .i64 hi, .int .i64 (cols - wcols), .bool false, .int .i64 wto, .int .i64 tt] 56) := x3
  obtain ⟨-, i1, -⟩ := box6 nu
  obtain ⟨-, j1, -⟩ := wr6 nu
  obtain ⟨-, -, -, -, -, i5⟩ := box6 x1
  obtain ⟨-, -, -, -, -, j5⟩ := wr6 x1
  obtain ⟨-, -, i2, -⟩ := box6 x2
  obtain ⟨-, -, j2, -⟩ := wr6 x2
  have hwr : IntKind.i64.wrap (cols - wcols) = (cols - wcols) := IntWalk.i64_in _ (by omega)
  clear mu mu1 mu2 nu x1 x2 k1 k2 k3
  refine wp_region_E (S := (fun v => v.cell? ⟨b, 3, none⟩ = some (.int .i64 hi) ∧ v.cell? ⟨b, 7, none⟩ = some (.int .i64 tt) ∧ v.cell? ⟨b, 4, none⟩ = some (.int .i64 cols) ∧ v.cell? ⟨w.heap.size, 2, none⟩ = some (.int .i64 wcols))) (E := []) (by kernel_rfl) ?_
  rw [hu0]
  clear hu0
  refine takeE (i := 0) (d := some 41) (v := ?vT26) rfl rfl (by kernel_rfl) (by kernel_rfl) (by kernel_rfl) (by kernel_rfl) (fun _ _ _ h => h) (Or.inl ⟨by rfl, ?hyT26⟩) ⟨f3, f7, f4, g2⟩ ?rstT26
  case hyT26 => (intro w hSw; (try dsimp only at hSw); obtain ⟨y0, y1, y2, y3⟩ := hSw; go_simp; (try with_reducible rfl))
  try simp only [Act.put, List.setIfInBounds_toArray, List.set_cons_zero, List.set_cons_succ]
  refine takeE (i := 1) (d := some 42) (v := ?vT27) rfl rfl (by kernel_rfl) (by kernel_rfl) (by kernel_rfl) (by kernel_rfl) (fun _ _ _ h => h) (Or.inl ⟨by rfl, ?hyT27⟩) ⟨f3, f7, f4, g2⟩ ?rstT27
  case hyT27 => (intro w hSw; (try dsimp only at hSw); obtain ⟨y0, y1, y2, y3⟩ := hSw; go_simp; (try with_reducible rfl))
  try simp only [Act.put, List.setIfInBounds_toArray, List.set_cons_zero, List.set_cons_succ]
  refine takeE (i := 2) (d := some 43) (v := ?vT28) rfl rfl (by kernel_rfl) (by kernel_rfl) (by kernel_rfl) (by kernel_rfl) (fun _ _ _ h => h) (Or.inl ⟨by rfl, ?hyT28⟩) ⟨f3, f7, f4, g2⟩ ?rstT28
  case hyT28 => (intro w hSw; (try dsimp only at hSw); obtain ⟨y0, y1, y2, y3⟩ := hSw; go_simp; (try with_reducible rfl))
  try simp only [Act.put, List.setIfInBounds_toArray, List.set_cons_zero, List.set_cons_succ]
  refine takeE (i := 3) (d := some 44) (v := ?vT29) rfl rfl (by kernel_rfl) (by kernel_rfl) (by kernel_rfl) (by kernel_rfl) (fun _ _ _ h => h) (Or.inl ⟨by rfl, ?hyT29⟩) ⟨f3, f7, f4, g2⟩ ?rstT29
  case hyT29 => (intro w hSw; (try dsimp only at hSw); obtain ⟨y0, y1, y2, y3⟩ := hSw; go_simp; (try with_reducible rfl))
  try simp only [Act.put, List.setIfInBounds_toArray, List.set_cons_zero, List.set_cons_succ]
  refine takeE (i := 4) (d := some 45) (v := ?vT30) rfl rfl (by kernel_rfl) (by kernel_rfl) (by kernel_rfl) (by kernel_rfl) (fun _ _ _ h => h) (Or.inl ⟨by rfl, ?hyT30⟩) ⟨f3, f7, f4, g2⟩ ?rstT30
  case hyT30 => (intro w hSw; (try dsimp only at hSw); obtain ⟨y0, y1, y2, y3⟩ := hSw; go_simp; (try with_reducible rfl))
  try simp only [Act.put, List.setIfInBounds_toArray, List.set_cons_zero, List.set_cons_succ]
  refine takeE (i := 5) (d := some 46) (v := ?vT31) rfl rfl (by kernel_rfl) (by kernel_rfl) (by kernel_rfl) (by kernel_rfl) (fun _ _ _ h => h) (Or.inl ⟨by rfl, ?hyT31⟩) ⟨f3, f7, f4, g2⟩ ?rstT31
  case hyT31 => (intro w hSw; (try dsimp only at hSw); obtain ⟨y0, y1, y2, y3⟩ := hSw; go_simp; (try with_reducible rfl))
  try simp only [Act.put, List.setIfInBounds_toArray, List.set_cons_zero, List.set_cons_succ]
  refine takeE (i := 6) (d := some 47) (v := ?vT32) rfl rfl (by kernel_rfl) (by kernel_rfl) (by kernel_rfl) (by kernel_rfl) (fun _ _ _ h => h) (Or.inl ⟨by rfl, ?hyT32⟩) ⟨f3, f7, f4, g2⟩ ?rstT32
  case hyT32 => (intro w hSw; (try dsimp only at hSw); obtain ⟨y0, y1, y2, y3⟩ := hSw; go_simp; (try with_reducible rfl))
  try simp only [Act.put, List.setIfInBounds_toArray, List.set_cons_zero, List.set_cons_succ]
  refine takeE (i := 7) (d := some 48) (v := ?vT33) rfl rfl (by kernel_rfl) (by kernel_rfl) (by kernel_rfl) (by kernel_rfl) (fun _ _ _ h => h) (Or.inl ⟨by rfl, ?hyT33⟩) ⟨f3, f7, f4, g2⟩ ?rstT33
  case hyT33 => (intro w hSw; (try dsimp only at hSw); obtain ⟨y0, y1, y2, y3⟩ := hSw; go_simp; (try with_reducible rfl))
  try simp only [Act.put, List.setIfInBounds_toArray, List.set_cons_zero, List.set_cons_succ]
  refine takeE (i := 8) (d := some 49) (v := ?vT34) rfl rfl (by kernel_rfl) (by kernel_rfl) (by kernel_rfl) (by kernel_rfl) (fun _ _ _ h => h) (Or.inl ⟨by rfl, ?hyT34⟩) ⟨f3, f7, f4, g2⟩ ?rstT34
  case hyT34 => (intro w hSw; (try dsimp only at hSw); obtain ⟨y0, y1, y2, y3⟩ := hSw; go_simp; (try with_reducible rfl))
  try simp only [Act.put, List.setIfInBounds_toArray, List.set_cons_zero, List.set_cons_succ]
  refine takeE (i := 9) (d := some 50) (v := ?vT35) rfl rfl (by kernel_rfl) (by kernel_rfl) (by kernel_rfl) (by kernel_rfl) (fun _ _ _ h => h) (Or.inl ⟨by rfl, ?hyT35⟩) ⟨f3, f7, f4, g2⟩ ?rstT35
  case hyT35 => (intro w hSw; (try dsimp only at hSw); obtain ⟨y0, y1, y2, y3⟩ := hSw; go_simp; (try with_reducible rfl))
  try simp only [Act.put, List.setIfInBounds_toArray, List.set_cons_zero, List.set_cons_succ]
  refine takeE (i := 10) (d := some 51) (v := ?vT36) rfl rfl (by kernel_rfl) (by kernel_rfl) (by kernel_rfl) (by kernel_rfl) (fun _ _ _ h => h) (Or.inl ⟨by rfl, ?hyT36⟩) ⟨f3, f7, f4, g2⟩ ?rstT36
  case hyT36 => (intro w hSw; (try dsimp only at hSw); obtain ⟨y0, y1, y2, y3⟩ := hSw; go_simp; (try with_reducible rfl))
  try simp only [Act.put, List.setIfInBounds_toArray, List.set_cons_zero, List.set_cons_succ]
  refine takeE (i := 11) (d := some 52) (v := ?vT37) rfl rfl (by kernel_rfl) (by kernel_rfl) (by kernel_rfl) (by kernel_rfl) (fun _ _ _ h => h) (Or.inl ⟨by rfl, ?hyT37⟩) ⟨f3, f7, f4, g2⟩ ?rstT37
  case hyT37 => (intro w hSw; (try dsimp only at hSw); obtain ⟨y0, y1, y2, y3⟩ := hSw; go_simp; (try with_reducible rfl))
  try simp only [Act.put, List.setIfInBounds_toArray, List.set_cons_zero, List.set_cons_succ]
  refine takeE (i := 12) (d := some 53) (v := ?vT38) rfl rfl (by kernel_rfl) (by kernel_rfl) (by kernel_rfl) (by kernel_rfl) (fun _ _ _ h => h) (Or.inl ⟨by rfl, ?hyT38⟩) ⟨f3, f7, f4, g2⟩ ?rstT38
  case hyT38 => (intro w hSw; (try dsimp only at hSw); obtain ⟨y0, y1, y2, y3⟩ := hSw; go_simp; (try with_reducible rfl))
  try simp only [Act.put, List.setIfInBounds_toArray, List.set_cons_zero, List.set_cons_succ]
  refine takeE (i := 13) (d := some 54) (v := ?vT39) rfl rfl (by kernel_rfl) (by kernel_rfl) (by kernel_rfl) (by kernel_rfl) (fun _ _ _ h => h) (Or.inl ⟨by rfl, ?hyT39⟩) ⟨f3, f7, f4, g2⟩ ?rstT39
  case hyT39 => (intro w hSw; (try dsimp only at hSw); obtain ⟨y0, y1, y2, y3⟩ := hSw; go_simp; (try with_reducible rfl))
  try simp only [Act.put, List.setIfInBounds_toArray, List.set_cons_zero, List.set_cons_succ]
  refine takeE (i := 14) (d := some 55) (v := ?vT40) rfl rfl (by kernel_rfl) (by kernel_rfl) (by kernel_rfl) (by kernel_rfl) (fun _ _ _ h => h) (Or.inl ⟨by rfl, ?hyT40⟩) ⟨f3, f7, f4, g2⟩ ?rstT40
  case hyT40 => (intro w hSw; (try dsimp only at hSw); obtain ⟨y0, y1, y2, y3⟩ := hSw; go_simp; (try with_reducible rfl))
  try simp only [Act.put, List.setIfInBounds_toArray, List.set_cons_zero, List.set_cons_succ]
  refine takeE (i := 15) (d := some 56) (v := ?vT41) rfl rfl (by kernel_rfl) (by kernel_rfl) (by kernel_rfl) (by kernel_rfl) (fun _ _ _ h => h) (Or.inl ⟨by rfl, ?hyT41⟩) ⟨f3, f7, f4, g2⟩ ?rstT41
  case hyT41 => (intro w hSw; (try dsimp only at hSw); obtain ⟨y0, y1, y2, y3⟩ := hSw; go_simp; (try with_reducible rfl))
  try simp only [Act.put, List.setIfInBounds_toArray, List.set_cons_zero, List.set_cons_succ]
  refine takeE (i := 16) (d := some 57) (v := ?vT42) rfl rfl (by kernel_rfl) (by kernel_rfl) (by kernel_rfl) (by kernel_rfl) (fun _ _ _ h => h) (Or.inl ⟨by rfl, ?hyT42⟩) ⟨f3, f7, f4, g2⟩ ?rstT42
  case hyT42 => (intro w hSw; (try dsimp only at hSw); obtain ⟨y0, y1, y2, y3⟩ := hSw; go_simp; (try with_reducible rfl))
  try simp only [Act.put, List.setIfInBounds_toArray, List.set_cons_zero, List.set_cons_succ]
  refine takeE (i := 17) (d := some 58) (v := ?vT43) rfl rfl (by kernel_rfl) (by kernel_rfl) (by kernel_rfl) (by kernel_rfl) (fun _ _ _ h => h) (Or.inl ⟨by rfl, ?hyT43⟩) ⟨f3, f7, f4, g2⟩ ?rstT43
  case hyT43 => (intro w hSw; (try dsimp only at hSw); obtain ⟨y0, y1, y2, y3⟩ := hSw; go_simp; (try with_reducible rfl))
  try simp only [Act.put, List.setIfInBounds_toArray, List.set_cons_zero, List.set_cons_succ]
  refine takeE (i := 18) (d := some 59) (v := ?vT44) rfl rfl (by kernel_rfl) (by kernel_rfl) (by kernel_rfl) (by kernel_rfl) (fun _ _ _ h => h) (Or.inl ⟨by rfl, ?hyT44⟩) ⟨f3, f7, f4, g2⟩ ?rstT44
  case hyT44 => (intro w hSw; (try dsimp only at hSw); obtain ⟨y0, y1, y2, y3⟩ := hSw; go_simp; (try with_reducible rfl))
  try simp only [Act.put, List.setIfInBounds_toArray, List.set_cons_zero, List.set_cons_succ]
  refine takeE (i := 19) (d := some 60) (v := ?vT45) rfl rfl (by kernel_rfl) (by kernel_rfl) (by kernel_rfl) (by kernel_rfl) (fun _ _ _ h => h) (Or.inl ⟨by rfl, ?hyT45⟩) ⟨f3, f7, f4, g2⟩ ?rstT45
  case hyT45 => (intro w hSw; (try dsimp only at hSw); obtain ⟨y0, y1, y2, y3⟩ := hSw; go_simp; (try with_reducible rfl))
  try simp only [Act.put, List.setIfInBounds_toArray, List.set_cons_zero, List.set_cons_succ]
  refine takeE (i := 20) (d := some 61) (v := ?vT46) rfl rfl (by kernel_rfl) (by kernel_rfl) (by kernel_rfl) (by kernel_rfl) (fun _ _ _ h => h) (Or.inl ⟨by rfl, ?hyT46⟩) ⟨f3, f7, f4, g2⟩ ?rstT46
  case hyT46 => (intro w hSw; (try dsimp only at hSw); obtain ⟨y0, y1, y2, y3⟩ := hSw; go_simp; (try with_reducible rfl))
  try simp only [Act.put, List.setIfInBounds_toArray, List.set_cons_zero, List.set_cons_succ]
  refine takeE (i := 21) (d := some 62) (v := ?vT47) rfl rfl (by kernel_rfl) (by kernel_rfl) (by kernel_rfl) (by kernel_rfl) (fun _ _ _ h => h) (Or.inl ⟨by rfl, ?hyT47⟩) ⟨f3, f7, f4, g2⟩ ?rstT47
  case hyT47 => (intro w hSw; (try dsimp only at hSw); obtain ⟨y0, y1, y2, y3⟩ := hSw; go_simp; (try with_reducible rfl))
  try simp only [Act.put, List.setIfInBounds_toArray, List.set_cons_zero, List.set_cons_succ]
  refine takeE (i := 22) (d := some 63) (v := ?vT48) rfl rfl (by kernel_rfl) (by kernel_rfl) (by kernel_rfl) (by kernel_rfl) (fun _ _ _ h => h) (Or.inl ⟨by rfl, ?hyT48⟩) ⟨f3, f7, f4, g2⟩ ?rstT48
  case hyT48 => (intro w hSw; (try dsimp only at hSw); obtain ⟨y0, y1, y2, y3⟩ := hSw; go_simp; (try with_reducible rfl))
  try simp only [Act.put, List.setIfInBounds_toArray, List.set_cons_zero, List.set_cons_succ]
  refine oneE (i := 23) (by kernel_rfl) rfl (fun K hK => ?_)
  go_simp
  try simp only [hu1]
  refine hK.out _ _ ?hS49 ?rest49
  case hS49 => exact fun _ => ⟨f31, f71, f41, g21⟩
  clear hK K
  try simp only [Act.put, List.setIfInBounds_toArray, List.set_cons_zero, List.set_cons_succ]
  refine takeE (i := 24) (d := some 64) (v := ?vT50) rfl rfl (by kernel_rfl) (by kernel_rfl) (by kernel_rfl) (by kernel_rfl) (fun _ _ _ h => h) (Or.inl ⟨by rfl, ?hyT50⟩) ⟨f31, f71, f41, g21⟩ ?rstT50
  case hyT50 => (intro w hSw; (try dsimp only at hSw); obtain ⟨y0, y1, y2, y3⟩ := hSw; go_simp; (try with_reducible rfl))
  try simp only [Act.put, List.setIfInBounds_toArray, List.set_cons_zero, List.set_cons_succ]
  refine oneE (i := 25) (by kernel_rfl) rfl (fun K hK => ?_)
  go_simp
  try simp only [hu2]
  refine hK.out _ _ ?hS51 ?rest51
  case hS51 => exact fun _ => ⟨f32, f72, f42, g22⟩
  clear hK K
  try simp only [Act.put, List.setIfInBounds_toArray, List.set_cons_zero, List.set_cons_succ]
  refine takeE (i := 26) (d := some 65) (v := ?vT52) rfl rfl (by kernel_rfl) (by kernel_rfl) (by kernel_rfl) (by kernel_rfl) (fun _ _ _ h => h) (Or.inl ⟨by rfl, ?hyT52⟩) ⟨f32, f72, f42, g22⟩ ?rstT52
  case hyT52 => (intro w hSw; (try dsimp only at hSw); obtain ⟨y0, y1, y2, y3⟩ := hSw; go_simp; (try with_reducible rfl))
  try simp only [Act.put, List.setIfInBounds_toArray, List.set_cons_zero, List.set_cons_succ]
  refine takeE (i := 27) (d := some 66) (v := ?vT53) rfl rfl (by kernel_rfl) (by kernel_rfl) (by kernel_rfl) (by kernel_rfl) (fun _ _ _ h => h) (Or.inl ⟨by rfl, ?hyT53⟩) ⟨f32, f72, f42, g22⟩ ?rstT53
  case hyT53 => (intro w hSw; (try dsimp only at hSw); obtain ⟨y0, y1, y2, y3⟩ := hSw; go_simp; (try with_reducible rfl))
  try simp only [Act.put, List.setIfInBounds_toArray, List.set_cons_zero, List.set_cons_succ]
  refine oneE (i := 28) (by kernel_rfl) rfl (fun K hK => ?_)
  go_simp
  try simp only [hu3]
  refine hK.out _ _ ?hS54 ?rest54
  case hS54 => exact fun _ => ⟨f33, f73, f43, g23⟩
  clear hK K
  try simp only [Act.put, List.setIfInBounds_toArray, List.set_cons_zero, List.set_cons_succ]
  refine doneE (by kernel_rfl) ?_ _
  clear hu1 hu2 hu3 f3 f4 f7 g2 f31 f41 f71 g21 f32 f42 f72 g22 f33 f43 f73 g23 i1 j1 i5 j5 i2 j2 hwr
  obtain ⟨c0, c1, c2, c3, c4, c5, c6, c7, c8, c9, c10, c11, c12, c13⟩ := box14 mu3.box
  obtain ⟨z0, z1, z2, z3, z4, z5, z6, z7, z8, z9, z10, z11, z12, z13⟩ := wr14 mu3.box
  obtain ⟨d0, d1, d2, d3, d4, d5⟩ := box6 x3
  obtain ⟨u4, hu4, e4, k4⟩ := store6b mu3.box (.int .i64 whi) (.int .i64 hi) (.int .i64 (cols - wcols)) (.bool false) (.int .i64 wto) (.int .i64 tt)
  have M := mu3.setB k4 e4
  clear mu3 k4 e4 x3
  go_wp2_with fail
  try simp only [hu4]
  refine bodyPost_end (v := .tuple #[]) (by simp [results, Tryd.results50, go_sem]) rfl ?_
  exact ⟨_, rfl, M.box, M.own, M.chg⟩
set_option maxHeartbeats 16000000 in
theorem endRow_all {w : World} {b C : Nat} {fv : Value} {L : List R6} {W lo hi cols fr tt wlo whi wcols wfr wto : Int} (hbx : w.heap[b]? = some (.cells (FiC W fv lo hi cols false fr tt wlo whi wcols wfr wto) 79)) (ho : OwnF r6V 6 56 w C fv L) (hbC : b < C) (hC : C ≤ w.heap.size) (hl : L.length + 1 ≤ 1099511627777) (h : ¬ lo < whi) :
    Calls Tryd.prog 50 #[.pointer (some ⟨b, 0, none⟩)] w fun e w' => ∃ fv2, e = .returned (.tuple #[]) ∧ w'.heap[b]? = some (.cells (FiC W fv2 hi hi 0 false tt tt wlo whi wcols wfr wto) 79) ∧ OwnF r6V 6 56 w' C fv2 (L ++ [⟨lo, hi, cols, false, fr, tt⟩]) ∧ Chg (fun g => g = b ∨ C ≤ g) w w' := by
  unfold FiC at hbx
  have HM : Hid (∀ w1, w.alloc (.cells #[.int .i64 lo, .int .i64 hi, .int .i64 cols, .bool false, .int .i64 fr, .int .i64 tt] 56) = w1 → Mem w b C w.heap.size L w1 fv #[.int .i64 W, fv, .int .i64 lo, .int .i64 hi, .int .i64 cols, .bool false, .int .i64 fr, .int .i64 tt, .int .i64 wlo, .int .i64 whi, .int .i64 wcols, .bool false, .int .i64 wfr, .int .i64 wto] #[.int .i64 lo, .int .i64 hi, .int .i64 cols, .bool false, .int .i64 fr, .int .i64 tt]) := fun w1 h1 => by
    have hb : Below w.heap.size w w1 := by rw [← h1]; exact (Below.refl _ _).alloc (Nat.le_refl _) _
    exact ⟨(hb.block _ (Array.getElem?_eq_some_iff.1 hbx).1).trans hbx, by rw [← h1]; exact heap_alloc_new _ _, ho.below hb, Chg.of_below hb, hC, hbC, fun e => by have := ho.lt e; omega⟩
  have HL : Hid (L.length + 1 ≤ 1099511627777) := hl
  obtain ⟨c0, c1, c2, c3, c4, c5, c6, c7, c8, c9, c10, c11, c12, c13⟩ := box14 hbx
  have hgt : decide (whi > lo) = false := decide_eq_false h
  clear hbx ho hl hC hbC
  go_enter Tryd.func50, Tryd.ntmps50
  go_wp2_with fail
  obtain ⟨w1, hw1⟩ : ∃ V, w.alloc (.cells #[.int .i64 lo, .int .i64 hi, .int .i64 cols, .bool false, .int .i64 fr, .int .i64 tt] 56) = V := ⟨_, rfl⟩
  have m1 : Mem w b C w.heap.size L w1 fv _ #[.int .i64 lo, .int .i64 hi, .int .i64 cols, .bool false, .int .i64 fr, .int .i64 tt] := HM.out w1 hw1
  rw [hw1]
  clear hw1
  obtain ⟨c0, c1, c2, c3, c4, c5, c6, c7, c8, c9, c10, c11, c12, c13⟩ := box14 m1.box
  refine wp_region_held_drew (S := (fun w => w.cell? ⟨b, 2, none⟩ = some (.int .i64 lo) ∧ w.cell? ⟨b, 9, none⟩ = some (.int .i64 whi))) (by kernel_rfl) ?hS55 (fun hHeld => ?rest55)
  case hS55 => exact ⟨c2, c9⟩
  refine takeD (i := 0) (d := some 8) (v := ?vT56) rfl rfl (by kernel_rfl) (by kernel_rfl) (by kernel_rfl) (fun _ _ _ h => h) (Or.inl ⟨by rfl, ?hyT56⟩) (by assumption) ?rstT56
  case hyT56 => (intro w hSw; (try dsimp only at hSw); obtain ⟨s0, s1⟩ := hSw; go_simp; (try with_reducible rfl))
  try simp only [Act.put, List.setIfInBounds_toArray, List.set_cons_zero, List.set_cons_succ]
  refine takeD (i := 1) (d := some 9) (v := ?vT57) rfl rfl (by kernel_rfl) (by kernel_rfl) (by kernel_rfl) (fun _ _ _ h => h) (Or.inl ⟨by rfl, ?hyT57⟩) (by assumption) ?rstT57
  case hyT57 => (intro w hSw; (try dsimp only at hSw); obtain ⟨s0, s1⟩ := hSw; go_simp; (try with_reducible rfl))
  try simp only [Act.put, List.setIfInBounds_toArray, List.set_cons_zero, List.set_cons_succ]
  refine takeD (i := 2) (d := some 10) (v := ?vT58) rfl rfl (by kernel_rfl) (by kernel_rfl) (by kernel_rfl) (fun _ _ _ h => h) (Or.inl ⟨by rfl, ?hyT58⟩) (by assumption) ?rstT58
  case hyT58 => (intro w hSw; (try dsimp only at hSw); obtain ⟨s0, s1⟩ := hSw; go_simp; (try with_reducible rfl))
  try simp only [Act.put, List.setIfInBounds_toArray, List.set_cons_zero, List.set_cons_succ]
  refine takeD (i := 3) (d := some 11) (v := ?vT59) rfl rfl (by kernel_rfl) (by kernel_rfl) (by kernel_rfl) (fun _ _ _ h => h) (Or.inl ⟨by rfl, ?hyT59⟩) (by assumption) ?rstT59
  case hyT59 => (intro w hSw; (try dsimp only at hSw); obtain ⟨s0, s1⟩ := hSw; go_simp; (try with_reducible rfl))
  try simp only [Act.put, List.setIfInBounds_toArray, List.set_cons_zero, List.set_cons_succ]
  refine takeD (i := 4) (d := some 12) (v := ?vT60) rfl rfl (by kernel_rfl) (by kernel_rfl) (by kernel_rfl) (fun _ _ _ h => h) (Or.inl ⟨by rfl, ?hyT60⟩) (by assumption) ?rstT60
  case hyT60 => (intro w hSw; (try dsimp only at hSw); obtain ⟨s0, s1⟩ := hSw; go_simp; (try with_reducible rfl))
  try simp only [Act.put, List.setIfInBounds_toArray, List.set_cons_zero, List.set_cons_succ]
  refine takeD (i := 5) (d := some 13) (v := ?vT61) rfl rfl (by kernel_rfl) (by kernel_rfl) (by kernel_rfl) (fun _ _ _ h => h) (Or.inl ⟨by rfl, ?hyT61⟩) (by assumption) ?rstT61
  case hyT61 => (intro w hSw; (try dsimp only at hSw); obtain ⟨s0, s1⟩ := hSw; go_simp; (try with_reducible rfl))
  try simp only [Act.put, List.setIfInBounds_toArray, List.set_cons_zero, List.set_cons_succ]
  refine takeD (i := 6) (d := some 14) (v := ?vT62) rfl rfl (by kernel_rfl) (by kernel_rfl) (by kernel_rfl) (fun _ _ _ h => h) (Or.inl ⟨by rfl, ?hyT62⟩) (by assumption) ?rstT62
  case hyT62 => (intro w hSw; (try dsimp only at hSw); obtain ⟨s0, s1⟩ := hSw; go_simp; (try with_reducible rfl))
  try simp only [Act.put, List.setIfInBounds_toArray, List.set_cons_zero, List.set_cons_succ]
  refine takeD (i := 7) (d := some 15) (v := ?vT63) rfl rfl (by kernel_rfl) (by kernel_rfl) (by kernel_rfl) (fun _ _ _ h => h) (Or.inl ⟨by rfl, ?hyT63⟩) (by assumption) ?rstT63
  case hyT63 => (intro w hSw; (try dsimp only at hSw); obtain ⟨s0, s1⟩ := hSw; go_simp; (try with_reducible rfl))
  try simp only [Act.put, List.setIfInBounds_toArray, List.set_cons_zero, List.set_cons_succ]
  refine takeD (i := 8) (d := some 16) (v := ?vT64) rfl rfl (by kernel_rfl) (by kernel_rfl) (by kernel_rfl) (fun _ _ _ h => h) (Or.inl ⟨by rfl, ?hyT64⟩) (by assumption) ?rstT64
  case hyT64 => (intro w hSw; (try dsimp only at hSw); obtain ⟨s0, s1⟩ := hSw; go_simp; (try with_reducible rfl))
  try simp only [Act.put, List.setIfInBounds_toArray, List.set_cons_zero, List.set_cons_succ]
  refine takeD (i := 9) (d := some 17) (v := ?vT65) rfl rfl (by kernel_rfl) (by kernel_rfl) (by kernel_rfl) (fun _ _ _ h => h) (Or.inl ⟨by rfl, ?hyT65⟩) (by assumption) ?rstT65
  case hyT65 => (intro w hSw; (try dsimp only at hSw); obtain ⟨s0, s1⟩ := hSw; go_simp; (try with_reducible rfl))
  try simp only [Act.put, List.setIfInBounds_toArray, List.set_cons_zero, List.set_cons_succ]
  refine takeD (i := 10) (d := some 18) (v := ?vT66) rfl rfl (by kernel_rfl) (by kernel_rfl) (by kernel_rfl) (fun _ _ _ h => h) (Or.inl ⟨by rfl, ?hyT66⟩) (by assumption) ?rstT66
  case hyT66 => (intro w hSw; (try dsimp only at hSw); obtain ⟨s0, s1⟩ := hSw; go_simp; (try with_reducible rfl))
  try simp only [Act.put, List.setIfInBounds_toArray, List.set_cons_zero, List.set_cons_succ]
  refine takeD (i := 11) (d := some 19) (v := ?vT67) rfl rfl (by kernel_rfl) (by kernel_rfl) (by kernel_rfl) (fun _ _ _ h => h) (Or.inl ⟨by rfl, ?hyT67⟩) (by assumption) ?rstT67
  case hyT67 => (intro w hSw; (try dsimp only at hSw); obtain ⟨s0, s1⟩ := hSw; go_simp; (try with_reducible rfl))
  try simp only [Act.put, List.setIfInBounds_toArray, List.set_cons_zero, List.set_cons_succ]
  refine takeD (i := 12) (d := some 20) (v := ?vT68) rfl rfl (by kernel_rfl) (by kernel_rfl) (by kernel_rfl) (fun _ _ _ h => h) (Or.inl ⟨by rfl, ?hyT68⟩) (by assumption) ?rstT68
  case hyT68 => (intro w hSw; (try dsimp only at hSw); obtain ⟨s0, s1⟩ := hSw; go_simp; (try with_reducible rfl))
  try simp only [Act.put, List.setIfInBounds_toArray, List.set_cons_zero, List.set_cons_succ]
  refine wpAnyH_done (by kernel_rfl) ?_ _
  obtain ⟨w2, hw2⟩ : ∃ V, w1.drew = V := ⟨_, rfl⟩
  have m2 := m1.below (V' := w2) (by rw [← hw2]; exact (Below.refl _ _).drew)
  rw [hw2]
  clear hw2 c0 c1 c2 c3 c4 c5 c6 c7 c8 c9 c10 c11 c12 c13 m1
  have m3 := m2
  clear m2
  obtain ⟨w3, hw3⟩ : ∃ V, w2 = V := ⟨_, rfl⟩
  subst hw3
  obtain ⟨w3, hw3⟩ : ∃ V, w2 = V := ⟨_, rfl⟩
  rw [hw3] at m3 ⊢
  clear hw3
  go_wp2_with fail
  obtain ⟨w4, hw4⟩ : ∃ V, w3.drew = V := ⟨_, rfl⟩
  have m4 := m3.below (V' := w4) (by rw [← hw4]; exact (Below.refl _ _).drew)
  clear m3
  obtain ⟨g, cap, w5, hap, m5, hgt⟩ := m4.app HL.out ⟨lo, hi, cols, false, fr, tt⟩ #[.int .i64 lo, .int .i64 hi, .int .i64 cols, .bool false, .int .i64 fr, .int .i64 tt] rfl
  obtain ⟨fa, fc, efv⟩ := m4.own.shape
  obtain ⟨ln, hln⟩ : ∃ n, L.length = n := ⟨_, rfl⟩
  rw [hln] at efv hap m5
  obtain ⟨c0, c1, c2, c3, c4, c5, c6, c7, c8, c9, c10, c11, c12, c13⟩ := box14 m4.box
  obtain ⟨d0, d1, d2, d3, d4, d5⟩ := box6 m4.ebx
  rw [efv] at c1 hap
  have ma := m4.below (V' := w4.alloc (.cells #[.int .i64 lo, .int .i64 hi, .int .i64 cols, .bool false, .int .i64 fr, .int .i64 tt] 56)) ((Below.refl _ _).alloc (Nat.le_refl _) _)
  obtain ⟨-, a1, -⟩ := box14 ma.box
  obtain ⟨q0, q1, q2, q3, q4, q5⟩ := box6 ma.ebx
  rw [efv] at a1
  obtain ⟨-, p1, -⟩ := box14 m5.box
  obtain ⟨-, y1, -⟩ := wr14 m5.box
  obtain ⟨r0, r1, r2, r3, r4, r5⟩ := box6 m5.ebx
  rw [efv] at p1
  obtain ⟨w6, hw6, e6, k6⟩ := store1 m5.box 1 (.slice (some ⟨g, 0, none⟩) (ln + 1) cap)
  have m6 : Mem w b C w.heap.size (L ++ [⟨lo, hi, cols, false, fr, tt⟩]) w6 (.slice (some ⟨g, 0, none⟩) (ln + 1) cap) #[.int .i64 W, (.slice (some ⟨g, 0, none⟩) (ln + 1) cap), .int .i64 lo, .int .i64 hi, .int .i64 cols, .bool false, .int .i64 fr, .int .i64 tt, .int .i64 wlo, .int .i64 whi, .int .i64 wcols, .bool false, .int .i64 wfr, .int .i64 wto] #[.int .i64 lo, .int .i64 hi, .int .i64 cols, .bool false, .int .i64 fr, .int .i64 tt] := m5.setB k6 e6
  have M6 := m6
  clear m4 ma m5 m6 e6 k6 hgt
  refine wp_region_E (S := (fun v => v.cell? ⟨b, 1, none⟩ = some (.slice fa ln fc) ∧ v.cell? ⟨w.heap.size, 0, none⟩ = some (.int .i64 lo) ∧ v.cell? ⟨w.heap.size, 1, none⟩ = some (.int .i64 hi) ∧ v.cell? ⟨w.heap.size, 2, none⟩ = some (.int .i64 cols) ∧ v.cell? ⟨w.heap.size, 3, none⟩ = some (.bool false) ∧ v.cell? ⟨w.heap.size, 4, none⟩ = some (.int .i64 fr) ∧ v.cell? ⟨w.heap.size, 5, none⟩ = some (.int .i64 tt))) (E := [10]) (by kernel_rfl) ?_
  rw [hw4]
  clear hw4
  refine takeE (i := 0) (d := some 25) (v := ?vT69) rfl rfl (by kernel_rfl) (by kernel_rfl) (by kernel_rfl) (by kernel_rfl) (fun _ _ _ h => h) (Or.inl ⟨by rfl, ?hyT69⟩) ⟨c1, d0, d1, d2, d3, d4, d5⟩ ?rstT69
  case hyT69 => (intro w hSw; (try dsimp only at hSw); obtain ⟨y0, y1, y2, y3, y4, y5, y6⟩ := hSw; go_simp; (try with_reducible rfl))
  try simp only [Act.put, List.setIfInBounds_toArray, List.set_cons_zero, List.set_cons_succ]
  refine takeE (i := 1) (d := some 26) (v := ?vT70) rfl rfl (by kernel_rfl) (by kernel_rfl) (by kernel_rfl) (by kernel_rfl) (fun _ _ _ h => h) (Or.inl ⟨by rfl, ?hyT70⟩) ⟨c1, d0, d1, d2, d3, d4, d5⟩ ?rstT70
  case hyT70 => (intro w hSw; (try dsimp only at hSw); obtain ⟨y0, y1, y2, y3, y4, y5, y6⟩ := hSw; go_simp; (try with_reducible rfl))
  try simp only [Act.put, List.setIfInBounds_toArray, List.set_cons_zero, List.set_cons_succ]
  refine takeE (i := 2) (d := some 27) (v := ?vT71) rfl rfl (by kernel_rfl) (by kernel_rfl) (by kernel_rfl) (by kernel_rfl) (fun _ _ _ h => h) (Or.inl ⟨by rfl, ?hyT71⟩) ⟨c1, d0, d1, d2, d3, d4, d5⟩ ?rstT71
  case hyT71 => (intro w hSw; (try dsimp only at hSw); obtain ⟨y0, y1, y2, y3, y4, y5, y6⟩ := hSw; go_simp; (try with_reducible rfl))
  try simp only [Act.put, List.setIfInBounds_toArray, List.set_cons_zero, List.set_cons_succ]
  refine takeE (i := 3) (d := some 28) (v := ?vT72) rfl rfl (by kernel_rfl) (by kernel_rfl) (by kernel_rfl) (by kernel_rfl) (fun _ _ _ h => h) (Or.inl ⟨by rfl, ?hyT72⟩) ⟨c1, d0, d1, d2, d3, d4, d5⟩ ?rstT72
  case hyT72 => (intro w hSw; (try dsimp only at hSw); obtain ⟨y0, y1, y2, y3, y4, y5, y6⟩ := hSw; go_simp; (try with_reducible rfl))
  try simp only [Act.put, List.setIfInBounds_toArray, List.set_cons_zero, List.set_cons_succ]
  refine takeE (i := 4) (d := some 29) (v := ?vT73) rfl rfl (by kernel_rfl) (by kernel_rfl) (by kernel_rfl) (by kernel_rfl) (fun _ _ _ h => h) (Or.inl ⟨by rfl, ?hyT73⟩) ⟨c1, d0, d1, d2, d3, d4, d5⟩ ?rstT73
  case hyT73 => (intro w hSw; (try dsimp only at hSw); obtain ⟨y0, y1, y2, y3, y4, y5, y6⟩ := hSw; go_simp; (try with_reducible rfl))
  try simp only [Act.put, List.setIfInBounds_toArray, List.set_cons_zero, List.set_cons_succ]
  refine takeE (i := 5) (d := some 30) (v := ?vT74) rfl rfl (by kernel_rfl) (by kernel_rfl) (by kernel_rfl) (by kernel_rfl) (fun _ _ _ h => h) (Or.inl ⟨by rfl, ?hyT74⟩) ⟨c1, d0, d1, d2, d3, d4, d5⟩ ?rstT74
  case hyT74 => (intro w hSw; (try dsimp only at hSw); obtain ⟨y0, y1, y2, y3, y4, y5, y6⟩ := hSw; go_simp; (try with_reducible rfl))
  try simp only [Act.put, List.setIfInBounds_toArray, List.set_cons_zero, List.set_cons_succ]
  refine oneE (i := 6) (by kernel_rfl) rfl (fun K hK => ?_)
  go_simp
  refine hK.out _ _ ?hS75 ?rest75
  case hS75 => exact fun _ => ⟨a1, q0, q1, q2, q3, q4, q5⟩
  clear hK K
  try simp only [Act.put, List.setIfInBounds_toArray, List.set_cons_zero, List.set_cons_succ]
  refine oneE (i := 7) (by kernel_rfl) rfl (fun K hK => ?_)
  rw [if_pos (by rfl)]
  refine wp_append_hr (.tmp 29) (.tmp 31) 46 (some 32) rfl rfl _ _ rfl rfl hap ?_
  refine hK.out _ _ ?hS76 ?rest76
  case hS76 => exact fun _ => ⟨p1, r0, r1, r2, r3, r4, r5⟩
  clear hK K
  try simp only [Act.put, List.setIfInBounds_toArray, List.set_cons_zero, List.set_cons_succ]
  refine oneE (i := 8) (by kernel_rfl) rfl (fun K hK => ?_)
  go_simp
  refine hK.out _ _ ?hS77 ?rest77
  case hS77 => exact fun _ => ⟨p1, r0, r1, r2, r3, r4, r5⟩
  clear hK K
  try simp only [Act.put, List.setIfInBounds_toArray, List.set_cons_zero, List.set_cons_succ]
  refine oneE (i := 9) (by kernel_rfl) rfl (fun K hK => ?_)
  go_simp
  refine hK.out _ _ ?hS78 ?rest78
  case hS78 => exact fun _ => ⟨p1, r0, r1, r2, r3, r4, r5⟩
  clear hK K
  try simp only [Act.put, List.setIfInBounds_toArray, List.set_cons_zero, List.set_cons_succ]
  refine oneE (i := 10) (by kernel_rfl) rfl (fun K hK => ?_)
  go_simp
  refine hK.out _ _ ?hS79 ?rest79
  case hS79 => exact fun e => absurd e (by decide)
  clear hK K
  try simp only [Act.put, List.setIfInBounds_toArray, List.set_cons_zero, List.set_cons_succ]
  refine doneE (by kernel_rfl) ?_ _
  try simp only [hw6]
  skip
  clear hw6 hap c0 c1 c2 c3 c4 c5 c6 c7 c8 c9 c10 c11 c12 c13 d0 d1 d2 d3 d4 d5 a1 q0 q1 q2 q3 q4 q5 p1 y1 r0 r1 r2 r3 r4 r5 efv
  obtain ⟨d0, d1, d2, d3, d4, d5⟩ := box6 M6.ebx
  have HEm : Calls Tryd.prog 48 #[.int .i64 hi, .int .i64 tt] w6 fun e w' => e = .returned (rowVal hi hi 0 false tt tt) ∧ Below w6.heap.size w6 w' := empty_any _ _ _
  go_wp2_with fail
  refine HEm.mono ?_
  rintro e w7 ⟨rfl, hb7⟩
  clear HEm d0 d1 d2 d3 d4 d5
  have m7 := M6.below hb7
  clear M6 hb7
  unfold rowVal
  go_wp2_with fail
  obtain ⟨w8, hw8⟩ : ∃ V, w7.alloc (.cells #[.int .i64 hi, .int .i64 hi, .int .i64 0, .bool false, .int .i64 tt, .int .i64 tt] 56) = V := ⟨_, rfl⟩
  have b8 : Below w7.heap.size w7 w8 := by rw [← hw8]; exact (Below.refl _ _).alloc (Nat.le_refl _) _
  have n8 : w8.heap[w7.heap.size]? = some (.cells #[.int .i64 hi, .int .i64 hi, .int .i64 0, .bool false, .int .i64 tt, .int .i64 tt] 56) := by rw [← hw8]; exact heap_alloc_new _ _
  have hN1 : C ≤ w7.heap.size := m7.Cle
  have hN2 : w7.heap.size ≠ w.heap.size := by have := (Array.getElem?_eq_some_iff.1 m7.ebx).1; omega
  have hN3 : (Value.slice (some ⟨g, 0, none⟩) (ln + 1) cap).ownBlock ≠ some w7.heap.size := fun e => by have := m7.own.lt e; omega
  have hN4 : b ≠ w7.heap.size := by have := m7.bC; omega
  have m8 := m7.below b8
  rw [hw8]
  clear hw8 m7 b8
  obtain ⟨N, hN⟩ : ∃ N, w7.heap.size = N := ⟨_, rfl⟩
  rw [hN] at n8 hN1 hN2 hN3 hN4 ⊢
  clear hN
  obtain ⟨u0, hu0⟩ : ∃ V, w8.drew = V := ⟨_, rfl⟩
  have bu : Below w8.heap.size w8 u0 := by rw [← hu0]; exact (Below.refl _ _).drew
  have mu := m8.below bu
  have nu := (bu.block _ (Array.getElem?_eq_some_iff.1 n8).1).trans n8
  clear m8 n8 bu
  obtain ⟨u1, hu1, x1, k1⟩ := store1 nu 1 (.int .i64 hi)
  obtain ⟨u2, hu2, x2, k2⟩ := store1 x1 5 (.int .i64 tt)
  obtain ⟨u3, hu3, x3, k3⟩ := store1 x2 2 (.int .i64 0)
  have mu1 := mu.setN k1 hN1 hN2 hN3
  have mu2 := mu1.setN k2 hN1 hN2 hN3
  have mu3 := mu2.setN k3 hN1 hN2 hN3
  obtain ⟨-, -, -, f3, f4, -, -, f7, -⟩ := box14 mu.box
  obtain ⟨-, -, g2, -⟩ := box6 mu.ebx
  obtain ⟨-, -, -, f31, f41, -, -, f71, -⟩ := box14 mu1.box
  obtain ⟨-, -, g21, -⟩ := box6 mu1.ebx
  obtain ⟨-, -, -, f32, f42, -, -, f72, -⟩ := box14 mu2.box
  obtain ⟨-, -, g22, -⟩ := box6 mu2.ebx
  obtain ⟨-, -, -, f33, f43, -, -, f73, -⟩ := box14 mu3.box
  obtain ⟨-, -, g23, -⟩ := box6 mu3.ebx
  have x1 : u1.heap[N]? = some (.cells #[.int .i64 hi, .int .i64 hi, .int .i64 0, .bool false, .int .i64 tt, .int .i64 tt] 56) := x1
  have x2 : u2.heap[N]? = some (.cells #[.int .i64 hi, .int .i64 hi, .int .i64 0, .bool false, .int .i64 tt, .int .i64 tt] 56) := x2
  have x3 : u3.heap[N]? = some (.cells #[.int .i64 hi, .int .i64 hi, .int .i64 0, .bool false, .int .i64 tt, .int .i64 tt] 56) := x3
  obtain ⟨-, i1, -⟩ := box6 nu
  obtain ⟨-, j1, -⟩ := wr6 nu
  obtain ⟨-, -, -, -, -, i5⟩ := box6 x1
  obtain ⟨-, -, -, -, -, j5⟩ := wr6 x1
  obtain ⟨-, -, i2, -⟩ := box6 x2
  obtain ⟨-, -, j2, -⟩ := wr6 x2
  have hwr : IntKind.i64.wrap 0 = 0 := IntWalk.i64_in _ (by omega)
  clear mu mu1 mu2 nu x1 x2 k1 k2 k3
  refine wp_region_E (S := (fun v => v.cell? ⟨b, 3, none⟩ = some (.int .i64 hi) ∧ v.cell? ⟨b, 7, none⟩ = some (.int .i64 tt) ∧ v.cell? ⟨b, 4, none⟩ = some (.int .i64 cols) ∧ v.cell? ⟨w.heap.size, 2, none⟩ = some (.int .i64 cols))) (E := []) (by kernel_rfl) ?_
  rw [hu0]
  clear hu0
  refine takeE (i := 0) (d := some 41) (v := ?vT80) rfl rfl (by kernel_rfl) (by kernel_rfl) (by kernel_rfl) (by kernel_rfl) (fun _ _ _ h => h) (Or.inl ⟨by rfl, ?hyT80⟩) ⟨f3, f7, f4, g2⟩ ?rstT80
  case hyT80 => (intro w hSw; (try dsimp only at hSw); obtain ⟨y0, y1, y2, y3⟩ := hSw; go_simp; (try with_reducible rfl))
  try simp only [Act.put, List.setIfInBounds_toArray, List.set_cons_zero, List.set_cons_succ]
  refine takeE (i := 1) (d := some 42) (v := ?vT81) rfl rfl (by kernel_rfl) (by kernel_rfl) (by kernel_rfl) (by kernel_rfl) (fun _ _ _ h => h) (Or.inl ⟨by rfl, ?hyT81⟩) ⟨f3, f7, f4, g2⟩ ?rstT81
  case hyT81 => (intro w hSw; (try dsimp only at hSw); obtain ⟨y0, y1, y2, y3⟩ := hSw; go_simp; (try with_reducible rfl))
  try simp only [Act.put, List.setIfInBounds_toArray, List.set_cons_zero, List.set_cons_succ]
  refine takeE (i := 2) (d := some 43) (v := ?vT82) rfl rfl (by kernel_rfl) (by kernel_rfl) (by kernel_rfl) (by kernel_rfl) (fun _ _ _ h => h) (Or.inl ⟨by rfl, ?hyT82⟩) ⟨f3, f7, f4, g2⟩ ?rstT82
  case hyT82 => (intro w hSw; (try dsimp only at hSw); obtain ⟨y0, y1, y2, y3⟩ := hSw; go_simp; (try with_reducible rfl))
  try simp only [Act.put, List.setIfInBounds_toArray, List.set_cons_zero, List.set_cons_succ]
  refine takeE (i := 3) (d := some 44) (v := ?vT83) rfl rfl (by kernel_rfl) (by kernel_rfl) (by kernel_rfl) (by kernel_rfl) (fun _ _ _ h => h) (Or.inl ⟨by rfl, ?hyT83⟩) ⟨f3, f7, f4, g2⟩ ?rstT83
  case hyT83 => (intro w hSw; (try dsimp only at hSw); obtain ⟨y0, y1, y2, y3⟩ := hSw; go_simp; (try with_reducible rfl))
  try simp only [Act.put, List.setIfInBounds_toArray, List.set_cons_zero, List.set_cons_succ]
  refine takeE (i := 4) (d := some 45) (v := ?vT84) rfl rfl (by kernel_rfl) (by kernel_rfl) (by kernel_rfl) (by kernel_rfl) (fun _ _ _ h => h) (Or.inl ⟨by rfl, ?hyT84⟩) ⟨f3, f7, f4, g2⟩ ?rstT84
  case hyT84 => (intro w hSw; (try dsimp only at hSw); obtain ⟨y0, y1, y2, y3⟩ := hSw; go_simp; (try with_reducible rfl))
  try simp only [Act.put, List.setIfInBounds_toArray, List.set_cons_zero, List.set_cons_succ]
  refine takeE (i := 5) (d := some 46) (v := ?vT85) rfl rfl (by kernel_rfl) (by kernel_rfl) (by kernel_rfl) (by kernel_rfl) (fun _ _ _ h => h) (Or.inl ⟨by rfl, ?hyT85⟩) ⟨f3, f7, f4, g2⟩ ?rstT85
  case hyT85 => (intro w hSw; (try dsimp only at hSw); obtain ⟨y0, y1, y2, y3⟩ := hSw; go_simp; (try with_reducible rfl))
  try simp only [Act.put, List.setIfInBounds_toArray, List.set_cons_zero, List.set_cons_succ]
  refine takeE (i := 6) (d := some 47) (v := ?vT86) rfl rfl (by kernel_rfl) (by kernel_rfl) (by kernel_rfl) (by kernel_rfl) (fun _ _ _ h => h) (Or.inl ⟨by rfl, ?hyT86⟩) ⟨f3, f7, f4, g2⟩ ?rstT86
  case hyT86 => (intro w hSw; (try dsimp only at hSw); obtain ⟨y0, y1, y2, y3⟩ := hSw; go_simp; (try with_reducible rfl))
  try simp only [Act.put, List.setIfInBounds_toArray, List.set_cons_zero, List.set_cons_succ]
  refine takeE (i := 7) (d := some 48) (v := ?vT87) rfl rfl (by kernel_rfl) (by kernel_rfl) (by kernel_rfl) (by kernel_rfl) (fun _ _ _ h => h) (Or.inl ⟨by rfl, ?hyT87⟩) ⟨f3, f7, f4, g2⟩ ?rstT87
  case hyT87 => (intro w hSw; (try dsimp only at hSw); obtain ⟨y0, y1, y2, y3⟩ := hSw; go_simp; (try with_reducible rfl))
  try simp only [Act.put, List.setIfInBounds_toArray, List.set_cons_zero, List.set_cons_succ]
  refine takeE (i := 8) (d := some 49) (v := ?vT88) rfl rfl (by kernel_rfl) (by kernel_rfl) (by kernel_rfl) (by kernel_rfl) (fun _ _ _ h => h) (Or.inl ⟨by rfl, ?hyT88⟩) ⟨f3, f7, f4, g2⟩ ?rstT88
  case hyT88 => (intro w hSw; (try dsimp only at hSw); obtain ⟨y0, y1, y2, y3⟩ := hSw; go_simp; (try with_reducible rfl))
  try simp only [Act.put, List.setIfInBounds_toArray, List.set_cons_zero, List.set_cons_succ]
  refine takeE (i := 9) (d := some 50) (v := ?vT89) rfl rfl (by kernel_rfl) (by kernel_rfl) (by kernel_rfl) (by kernel_rfl) (fun _ _ _ h => h) (Or.inl ⟨by rfl, ?hyT89⟩) ⟨f3, f7, f4, g2⟩ ?rstT89
  case hyT89 => (intro w hSw; (try dsimp only at hSw); obtain ⟨y0, y1, y2, y3⟩ := hSw; go_simp; (try with_reducible rfl))
  try simp only [Act.put, List.setIfInBounds_toArray, List.set_cons_zero, List.set_cons_succ]
  refine takeE (i := 10) (d := some 51) (v := ?vT90) rfl rfl (by kernel_rfl) (by kernel_rfl) (by kernel_rfl) (by kernel_rfl) (fun _ _ _ h => h) (Or.inl ⟨by rfl, ?hyT90⟩) ⟨f3, f7, f4, g2⟩ ?rstT90
  case hyT90 => (intro w hSw; (try dsimp only at hSw); obtain ⟨y0, y1, y2, y3⟩ := hSw; go_simp; (try with_reducible rfl))
  try simp only [Act.put, List.setIfInBounds_toArray, List.set_cons_zero, List.set_cons_succ]
  refine takeE (i := 11) (d := some 52) (v := ?vT91) rfl rfl (by kernel_rfl) (by kernel_rfl) (by kernel_rfl) (by kernel_rfl) (fun _ _ _ h => h) (Or.inl ⟨by rfl, ?hyT91⟩) ⟨f3, f7, f4, g2⟩ ?rstT91
  case hyT91 => (intro w hSw; (try dsimp only at hSw); obtain ⟨y0, y1, y2, y3⟩ := hSw; go_simp; (try with_reducible rfl))
  try simp only [Act.put, List.setIfInBounds_toArray, List.set_cons_zero, List.set_cons_succ]
  refine takeE (i := 12) (d := some 53) (v := ?vT92) rfl rfl (by kernel_rfl) (by kernel_rfl) (by kernel_rfl) (by kernel_rfl) (fun _ _ _ h => h) (Or.inl ⟨by rfl, ?hyT92⟩) ⟨f3, f7, f4, g2⟩ ?rstT92
  case hyT92 => (intro w hSw; (try dsimp only at hSw); obtain ⟨y0, y1, y2, y3⟩ := hSw; go_simp; (try with_reducible rfl))
  try simp only [Act.put, List.setIfInBounds_toArray, List.set_cons_zero, List.set_cons_succ]
  refine takeE (i := 13) (d := some 54) (v := ?vT93) rfl rfl (by kernel_rfl) (by kernel_rfl) (by kernel_rfl) (by kernel_rfl) (fun _ _ _ h => h) (Or.inl ⟨by rfl, ?hyT93⟩) ⟨f3, f7, f4, g2⟩ ?rstT93
  case hyT93 => (intro w hSw; (try dsimp only at hSw); obtain ⟨y0, y1, y2, y3⟩ := hSw; go_simp; (try with_reducible rfl))
  try simp only [Act.put, List.setIfInBounds_toArray, List.set_cons_zero, List.set_cons_succ]
  refine takeE (i := 14) (d := some 55) (v := ?vT94) rfl rfl (by kernel_rfl) (by kernel_rfl) (by kernel_rfl) (by kernel_rfl) (fun _ _ _ h => h) (Or.inl ⟨by rfl, ?hyT94⟩) ⟨f3, f7, f4, g2⟩ ?rstT94
  case hyT94 => (intro w hSw; (try dsimp only at hSw); obtain ⟨y0, y1, y2, y3⟩ := hSw; go_simp; (try with_reducible rfl))
  try simp only [Act.put, List.setIfInBounds_toArray, List.set_cons_zero, List.set_cons_succ]
  refine takeE (i := 15) (d := some 56) (v := ?vT95) rfl rfl (by kernel_rfl) (by kernel_rfl) (by kernel_rfl) (by kernel_rfl) (fun _ _ _ h => h) (Or.inl ⟨by rfl, ?hyT95⟩) ⟨f3, f7, f4, g2⟩ ?rstT95
  case hyT95 => (intro w hSw; (try dsimp only at hSw); obtain ⟨y0, y1, y2, y3⟩ := hSw; go_simp; (try with_reducible rfl))
  try simp only [Act.put, List.setIfInBounds_toArray, List.set_cons_zero, List.set_cons_succ]
  refine takeE (i := 16) (d := some 57) (v := ?vT96) rfl rfl (by kernel_rfl) (by kernel_rfl) (by kernel_rfl) (by kernel_rfl) (fun _ _ _ h => h) (Or.inl ⟨by rfl, ?hyT96⟩) ⟨f3, f7, f4, g2⟩ ?rstT96
  case hyT96 => (intro w hSw; (try dsimp only at hSw); obtain ⟨y0, y1, y2, y3⟩ := hSw; go_simp; (try with_reducible rfl))
  try simp only [Act.put, List.setIfInBounds_toArray, List.set_cons_zero, List.set_cons_succ]
  refine takeE (i := 17) (d := some 58) (v := ?vT97) rfl rfl (by kernel_rfl) (by kernel_rfl) (by kernel_rfl) (by kernel_rfl) (fun _ _ _ h => h) (Or.inl ⟨by rfl, ?hyT97⟩) ⟨f3, f7, f4, g2⟩ ?rstT97
  case hyT97 => (intro w hSw; (try dsimp only at hSw); obtain ⟨y0, y1, y2, y3⟩ := hSw; go_simp; (try with_reducible rfl))
  try simp only [Act.put, List.setIfInBounds_toArray, List.set_cons_zero, List.set_cons_succ]
  refine takeE (i := 18) (d := some 59) (v := ?vT98) rfl rfl (by kernel_rfl) (by kernel_rfl) (by kernel_rfl) (by kernel_rfl) (fun _ _ _ h => h) (Or.inl ⟨by rfl, ?hyT98⟩) ⟨f3, f7, f4, g2⟩ ?rstT98
  case hyT98 => (intro w hSw; (try dsimp only at hSw); obtain ⟨y0, y1, y2, y3⟩ := hSw; go_simp; (try with_reducible rfl))
  try simp only [Act.put, List.setIfInBounds_toArray, List.set_cons_zero, List.set_cons_succ]
  refine takeE (i := 19) (d := some 60) (v := ?vT99) rfl rfl (by kernel_rfl) (by kernel_rfl) (by kernel_rfl) (by kernel_rfl) (fun _ _ _ h => h) (Or.inl ⟨by rfl, ?hyT99⟩) ⟨f3, f7, f4, g2⟩ ?rstT99
  case hyT99 => (intro w hSw; (try dsimp only at hSw); obtain ⟨y0, y1, y2, y3⟩ := hSw; go_simp; (try with_reducible rfl))
  try simp only [Act.put, List.setIfInBounds_toArray, List.set_cons_zero, List.set_cons_succ]
  refine takeE (i := 20) (d := some 61) (v := ?vT100) rfl rfl (by kernel_rfl) (by kernel_rfl) (by kernel_rfl) (by kernel_rfl) (fun _ _ _ h => h) (Or.inl ⟨by rfl, ?hyT100⟩) ⟨f3, f7, f4, g2⟩ ?rstT100
  case hyT100 => (intro w hSw; (try dsimp only at hSw); obtain ⟨y0, y1, y2, y3⟩ := hSw; go_simp; (try with_reducible rfl))
  try simp only [Act.put, List.setIfInBounds_toArray, List.set_cons_zero, List.set_cons_succ]
  refine takeE (i := 21) (d := some 62) (v := ?vT101) rfl rfl (by kernel_rfl) (by kernel_rfl) (by kernel_rfl) (by kernel_rfl) (fun _ _ _ h => h) (Or.inl ⟨by rfl, ?hyT101⟩) ⟨f3, f7, f4, g2⟩ ?rstT101
  case hyT101 => (intro w hSw; (try dsimp only at hSw); obtain ⟨y0, y1, y2, y3⟩ := hSw; go_simp; (try with_reducible rfl))
  try simp only [Act.put, List.setIfInBounds_toArray, List.set_cons_zero, List.set_cons_succ]
  refine takeE (i := 22) (d := some 63) (v := ?vT102) rfl rfl (by kernel_rfl) (by kernel_rfl) (by kernel_rfl) (by kernel_rfl) (fun _ _ _ h => h) (Or.inl ⟨by rfl, ?hyT102⟩) ⟨f3, f7, f4, g2⟩ ?rstT102
  case hyT102 => (intro w hSw; (try dsimp only at hSw); obtain ⟨y0, y1, y2, y3⟩ := hSw; go_simp; (try with_reducible rfl))
  try simp only [Act.put, List.setIfInBounds_toArray, List.set_cons_zero, List.set_cons_succ]
  refine oneE (i := 23) (by kernel_rfl) rfl (fun K hK => ?_)
  go_simp
  try simp only [hu1]
  refine hK.out _ _ ?hS103 ?rest103
  case hS103 => exact fun _ => ⟨f31, f71, f41, g21⟩
  clear hK K
  try simp only [Act.put, List.setIfInBounds_toArray, List.set_cons_zero, List.set_cons_succ]
  refine takeE (i := 24) (d := some 64) (v := ?vT104) rfl rfl (by kernel_rfl) (by kernel_rfl) (by kernel_rfl) (by kernel_rfl) (fun _ _ _ h => h) (Or.inl ⟨by rfl, ?hyT104⟩) ⟨f31, f71, f41, g21⟩ ?rstT104
  case hyT104 => (intro w hSw; (try dsimp only at hSw); obtain ⟨y0, y1, y2, y3⟩ := hSw; go_simp; (try with_reducible rfl))
  try simp only [Act.put, List.setIfInBounds_toArray, List.set_cons_zero, List.set_cons_succ]
  refine oneE (i := 25) (by kernel_rfl) rfl (fun K hK => ?_)
  go_simp
  try simp only [hu2]
  refine hK.out _ _ ?hS105 ?rest105
  case hS105 => exact fun _ => ⟨f32, f72, f42, g22⟩
  clear hK K
  try simp only [Act.put, List.setIfInBounds_toArray, List.set_cons_zero, List.set_cons_succ]
  refine takeE (i := 26) (d := some 65) (v := ?vT106) rfl rfl (by kernel_rfl) (by kernel_rfl) (by kernel_rfl) (by kernel_rfl) (fun _ _ _ h => h) (Or.inl ⟨by rfl, ?hyT106⟩) ⟨f32, f72, f42, g22⟩ ?rstT106
  case hyT106 => (intro w hSw; (try dsimp only at hSw); obtain ⟨y0, y1, y2, y3⟩ := hSw; go_simp; (try with_reducible rfl))
  try simp only [Act.put, List.setIfInBounds_toArray, List.set_cons_zero, List.set_cons_succ]
  refine takeE (i := 27) (d := some 66) (v := ?vT107) rfl rfl (by kernel_rfl) (by kernel_rfl) (by kernel_rfl) (by kernel_rfl) (fun _ _ _ h => h) (Or.inl ⟨by rfl, ?hyT107⟩) ⟨f32, f72, f42, g22⟩ ?rstT107
  case hyT107 => (intro w hSw; (try dsimp only at hSw); obtain ⟨y0, y1, y2, y3⟩ := hSw; go_simp; (try with_reducible rfl))
  try simp only [Act.put, List.setIfInBounds_toArray, List.set_cons_zero, List.set_cons_succ]
  refine oneE (i := 28) (by kernel_rfl) rfl (fun K hK => ?_)
  go_simp
  try simp only [hu3]
  refine hK.out _ _ ?hS108 ?rest108
  case hS108 => exact fun _ => ⟨f33, f73, f43, g23⟩
  clear hK K
  try simp only [Act.put, List.setIfInBounds_toArray, List.set_cons_zero, List.set_cons_succ]
  refine doneE (by kernel_rfl) ?_ _
  clear hu1 hu2 hu3 f3 f4 f7 g2 f31 f41 f71 g21 f32 f42 f72 g22 f33 f43 f73 g23 i1 j1 i5 j5 i2 j2 hwr
  obtain ⟨c0, c1, c2, c3, c4, c5, c6, c7, c8, c9, c10, c11, c12, c13⟩ := box14 mu3.box
  obtain ⟨z0, z1, z2, z3, z4, z5, z6, z7, z8, z9, z10, z11, z12, z13⟩ := wr14 mu3.box
  obtain ⟨d0, d1, d2, d3, d4, d5⟩ := box6 x3
  obtain ⟨u4, hu4, e4, k4⟩ := store6b mu3.box (.int .i64 hi) (.int .i64 hi) (.int .i64 0) (.bool false) (.int .i64 tt) (.int .i64 tt)
  have M := mu3.setB k4 e4
  clear mu3 k4 e4 x3
  go_wp2_with fail
  try simp only [hu4]
  refine bodyPost_end (v := .tuple #[]) (by simp [results, Tryd.results50, go_sem]) rfl ?_
  exact ⟨_, rfl, M.box, M.own, M.chg⟩
end Go.Proofs.YtfnpmncmceocdaaDoor
