import Derived.Test.YtfnpmncmceocdaaDoorPgE
/-! endLine; put. -/
namespace Go.Proofs.YtfnpmncmceocdaaDoor
open Go.RowKit Go.Lib
set_option maxRecDepth 100000

/-- As Mem, without a box of its own. -/
structure Mem0 (w : World) (b C : Nat) (L : List R6) (V : World) (fv : Value) (cb : Array Value) : Prop where
  box : V.heap[b]? = some (.cells cb 79)
  own : OwnF r6V 6 56 V C fv L
  chg : Chg (fun g => g = b ∨ C ≤ g) w V
  bC : b < C
  Cle : C ≤ V.heap.size
section
variable {w : World} {b C : Nat} {L : List R6} {V V' : World} {fv : Value} {cb : Array Value}
theorem Mem0.below (h : Mem0 w b C L V fv cb) (hb : Below V.heap.size V V') : Mem0 w b C L V' fv cb :=
  ⟨(hb.block _ (Array.getElem?_eq_some_iff.1 h.box).1).trans h.box, h.own.below hb, h.chg.trans (Chg.of_below hb), h.bC, Nat.le_trans h.Cle hb.size⟩
theorem Mem0.setB (h : Mem0 w b C L V fv cb) (hk : But b V V') {cb' : Array Value} (he : V'.heap[b]? = some (.cells cb' 79)) : Mem0 w b C L V' fv cb' := by
  have h2 := h.bC
  exact ⟨he, h.own.chg (hk.chg (D := fun g => g = b) rfl) (fun g hg e => by have := h.own.ge hg; omega), h.chg.trans (hk.chg (.inl rfl)), h2, by rw [hk.2.1]; exact h.Cle⟩
theorem Mem0.app (h : Mem0 w b C L V fv cb) (hl : L.length + 1 ≤ 1099511627777) (x : R6) (cs : Array Value) (hcs : r6V x = cs.toList) : ∃ g cap V', (Builtin.append_ #[46, 46] 46 #[fv, .slice (some ⟨V.heap.size, 0, none⟩) 1 1]).run Tryd.prog (V.alloc (.cells cs 56)) = .ok (.slice (some ⟨g, 0, none⟩) (L.length + 1) cap) V' ∧ Mem0 w b C (L ++ [x]) V' (.slice (some ⟨g, 0, none⟩) (L.length + 1) cap) cb ∧ V.heap.size < V'.heap.size := by
  obtain ⟨g, cap, V', hr, ho, hb, hk, hgt, hat⟩ := appendF_one kindR6 layR6 h.own h.Cle x cs hcs 56 (by omega) (by omega) 46
  exact ⟨g, cap, V', hr, ⟨(hb.block b h.bC).trans h.box, ho, h.chg.trans ⟨hb.mono (Nat.zero_le _), fun k hk1 hk2 => hb.block k (by omega)⟩, h.bC, by have := h.Cle; omega⟩, hgt⟩
end
set_option maxHeartbeats 16000000 in
theorem endLine_any {w : World} {b C : Nat} {fv : Value} {L : List R6} {W lo hi cols fr tt wlo whi wcols wfr wto : Int} (hbx : w.heap[b]? = some (.cells (FiC W fv lo hi cols false fr tt wlo whi wcols wfr wto) 79)) (ho : OwnF r6V 6 56 w C fv L) (hbC : b < C) (hC : C ≤ w.heap.size) (hl : L.length + 1 ≤ 1099511627777) (hw : 0 ≤ hi ∧ hi ≤ 1099511627776 ∧ 0 ≤ tt ∧ tt ≤ 4398046511104) :
    Calls Tryd.prog 35 #[.pointer (some ⟨b, 0, none⟩)] w fun e w' => ∃ fv2, e = .returned (.tuple #[]) ∧ w'.heap[b]? = some (.cells (FiC W fv2 (hi + 1) (hi + 1) 0 false (tt + 1) (tt + 1) wlo whi wcols wfr wto) 79) ∧ OwnF r6V 6 56 w' C fv2 (L ++ [⟨lo, hi, cols, true, fr, tt⟩]) ∧ Chg (fun g => g = b ∨ C ≤ g) w w' := by
  unfold FiC at hbx
  have HM : Hid (Mem0 w b C L w fv #[.int .i64 W, fv, .int .i64 lo, .int .i64 hi, .int .i64 cols, .bool false, .int .i64 fr, .int .i64 tt, .int .i64 wlo, .int .i64 whi, .int .i64 wcols, .bool false, .int .i64 wfr, .int .i64 wto]) := ⟨hbx, ho, Chg.refl _ _, hbC, hC⟩
  have HL : Hid (L.length + 1 ≤ 1099511627777) := hl
  clear hbx ho hl hC hbC
  go_enter Tryd.func35, Tryd.ntmps35
  obtain ⟨c0, c1, c2, c3, c4, c5, c6, c7, c8, c9, c10, c11, c12, c13⟩ := box14 HM.out.box
  obtain ⟨z0, z1, z2, z3, z4, z5, z6, z7, z8, z9, z10, z11, z12, z13⟩ := wr14 HM.out.box
  obtain ⟨w1, hw1, e1, k1⟩ := store1 HM.out.box 5 (.bool true)
  have m1 : Mem0 w b C L w1 fv #[.int .i64 W, fv, .int .i64 lo, .int .i64 hi, .int .i64 cols, .bool true, .int .i64 fr, .int .i64 tt, .int .i64 wlo, .int .i64 whi, .int .i64 wcols, .bool false, .int .i64 wfr, .int .i64 wto] := HM.out.setB k1 e1
  clear e1 k1
  go_wp2_with fail
  try simp only [hw1]
  clear hw1 c0 c1 c2 c3 c4 c5 c6 c7 c8 c9 c10 c11 c12 c13 z0 z1 z2 z3 z4 z5 z6 z7 z8 z9 z10 z11 z12 z13
  obtain ⟨w4, hw4⟩ : ∃ V, w1.drew = V := ⟨_, rfl⟩
  have m4 := m1.below (V' := w4) (by rw [← hw4]; exact (Below.refl _ _).drew)
  clear m1
  obtain ⟨g, cap, w5, hap, m5, hgt⟩ := m4.app HL.out ⟨lo, hi, cols, true, fr, tt⟩ #[.int .i64 lo, .int .i64 hi, .int .i64 cols, .bool true, .int .i64 fr, .int .i64 tt] rfl
  obtain ⟨fa, fc, efv⟩ := m4.own.shape
  obtain ⟨ln, hln⟩ : ∃ n, L.length = n := ⟨_, rfl⟩
  rw [hln] at efv hap m5
  obtain ⟨-, c1, c2, c3, c4, c5, c6, c7, -⟩ := box14 m4.box
  rw [efv] at c1 hap
  have ma := m4.below (V' := w4.alloc (.cells #[.int .i64 lo, .int .i64 hi, .int .i64 cols, .bool true, .int .i64 fr, .int .i64 tt] 56)) ((Below.refl _ _).alloc (Nat.le_refl _) _)
  obtain ⟨-, a1, a2, a3, a4, a5, a6, a7, -⟩ := box14 ma.box
  rw [efv] at a1
  obtain ⟨-, p1, p2, p3, p4, p5, p6, p7, -⟩ := box14 m5.box
  obtain ⟨-, y1, -⟩ := wr14 m5.box
  rw [efv] at p1
  obtain ⟨w6, hw6, e6, k6⟩ := store1 m5.box 1 (.slice (some ⟨g, 0, none⟩) (ln + 1) cap)
  have m6 : Mem0 w b C (L ++ [⟨lo, hi, cols, true, fr, tt⟩]) w6 (.slice (some ⟨g, 0, none⟩) (ln + 1) cap) #[.int .i64 W, (.slice (some ⟨g, 0, none⟩) (ln + 1) cap), .int .i64 lo, .int .i64 hi, .int .i64 cols, .bool true, .int .i64 fr, .int .i64 tt, .int .i64 wlo, .int .i64 whi, .int .i64 wcols, .bool false, .int .i64 wfr, .int .i64 wto] := m5.setB k6 e6
  clear m4 ma m5 e6 k6 hgt
  refine wp_region_E (S := (fun v => v.cell? ⟨b, 1, none⟩ = some (.slice fa ln fc) ∧ v.cell? ⟨b, 2, none⟩ = some (.int .i64 lo) ∧ v.cell? ⟨b, 3, none⟩ = some (.int .i64 hi) ∧ v.cell? ⟨b, 4, none⟩ = some (.int .i64 cols) ∧ v.cell? ⟨b, 5, none⟩ = some (.bool true) ∧ v.cell? ⟨b, 6, none⟩ = some (.int .i64 fr) ∧ v.cell? ⟨b, 7, none⟩ = some (.int .i64 tt))) (E := [13]) (by kernel_rfl) ?_
  rw [hw4]
  clear hw4
  refine takeE (i := 0) (d := some 7) (v := ?vT1) rfl rfl (by kernel_rfl) (by kernel_rfl) (by kernel_rfl) (by kernel_rfl) (fun _ _ _ h => h) (Or.inl ⟨by rfl, ?hyT1⟩) ⟨c1, c2, c3, c4, c5, c6, c7⟩ ?rstT1
  case hyT1 => (intro w hSw; (try dsimp only at hSw); obtain ⟨y0, y1, y2, y3, y4, y5, y6⟩ := hSw; go_simp; (try with_reducible rfl))
  try simp only [Act.put, List.setIfInBounds_toArray, List.set_cons_zero, List.set_cons_succ]
  refine takeE (i := 1) (d := some 8) (v := ?vT2) rfl rfl (by kernel_rfl) (by kernel_rfl) (by kernel_rfl) (by kernel_rfl) (fun _ _ _ h => h) (Or.inl ⟨by rfl, ?hyT2⟩) ⟨c1, c2, c3, c4, c5, c6, c7⟩ ?rstT2
  case hyT2 => (intro w hSw; (try dsimp only at hSw); obtain ⟨y0, y1, y2, y3, y4, y5, y6⟩ := hSw; go_simp; (try with_reducible rfl))
  try simp only [Act.put, List.setIfInBounds_toArray, List.set_cons_zero, List.set_cons_succ]
  refine takeE (i := 2) (d := some 9) (v := ?vT3) rfl rfl (by kernel_rfl) (by kernel_rfl) (by kernel_rfl) (by kernel_rfl) (fun _ _ _ h => h) (Or.inl ⟨by rfl, ?hyT3⟩) ⟨c1, c2, c3, c4, c5, c6, c7⟩ ?rstT3
  case hyT3 => (intro w hSw; (try dsimp only at hSw); obtain ⟨y0, y1, y2, y3, y4, y5, y6⟩ := hSw; go_simp; (try with_reducible rfl))
  try simp only [Act.put, List.setIfInBounds_toArray, List.set_cons_zero, List.set_cons_succ]
  refine takeE (i := 3) (d := some 10) (v := ?vT4) rfl rfl (by kernel_rfl) (by kernel_rfl) (by kernel_rfl) (by kernel_rfl) (fun _ _ _ h => h) (Or.inl ⟨by rfl, ?hyT4⟩) ⟨c1, c2, c3, c4, c5, c6, c7⟩ ?rstT4
  case hyT4 => (intro w hSw; (try dsimp only at hSw); obtain ⟨y0, y1, y2, y3, y4, y5, y6⟩ := hSw; go_simp; (try with_reducible rfl))
  try simp only [Act.put, List.setIfInBounds_toArray, List.set_cons_zero, List.set_cons_succ]
  refine takeE (i := 4) (d := some 11) (v := ?vT5) rfl rfl (by kernel_rfl) (by kernel_rfl) (by kernel_rfl) (by kernel_rfl) (fun _ _ _ h => h) (Or.inl ⟨by rfl, ?hyT5⟩) ⟨c1, c2, c3, c4, c5, c6, c7⟩ ?rstT5
  case hyT5 => (intro w hSw; (try dsimp only at hSw); obtain ⟨y0, y1, y2, y3, y4, y5, y6⟩ := hSw; go_simp; (try with_reducible rfl))
  try simp only [Act.put, List.setIfInBounds_toArray, List.set_cons_zero, List.set_cons_succ]
  refine takeE (i := 5) (d := some 12) (v := ?vT6) rfl rfl (by kernel_rfl) (by kernel_rfl) (by kernel_rfl) (by kernel_rfl) (fun _ _ _ h => h) (Or.inl ⟨by rfl, ?hyT6⟩) ⟨c1, c2, c3, c4, c5, c6, c7⟩ ?rstT6
  case hyT6 => (intro w hSw; (try dsimp only at hSw); obtain ⟨y0, y1, y2, y3, y4, y5, y6⟩ := hSw; go_simp; (try with_reducible rfl))
  try simp only [Act.put, List.setIfInBounds_toArray, List.set_cons_zero, List.set_cons_succ]
  refine takeE (i := 6) (d := some 13) (v := ?vT7) rfl rfl (by kernel_rfl) (by kernel_rfl) (by kernel_rfl) (by kernel_rfl) (fun _ _ _ h => h) (Or.inl ⟨by rfl, ?hyT7⟩) ⟨c1, c2, c3, c4, c5, c6, c7⟩ ?rstT7
  case hyT7 => (intro w hSw; (try dsimp only at hSw); obtain ⟨y0, y1, y2, y3, y4, y5, y6⟩ := hSw; go_simp; (try with_reducible rfl))
  try simp only [Act.put, List.setIfInBounds_toArray, List.set_cons_zero, List.set_cons_succ]
  refine takeE (i := 7) (d := some 14) (v := ?vT8) rfl rfl (by kernel_rfl) (by kernel_rfl) (by kernel_rfl) (by kernel_rfl) (fun _ _ _ h => h) (Or.inl ⟨by rfl, ?hyT8⟩) ⟨c1, c2, c3, c4, c5, c6, c7⟩ ?rstT8
  case hyT8 => (intro w hSw; (try dsimp only at hSw); obtain ⟨y0, y1, y2, y3, y4, y5, y6⟩ := hSw; go_simp; (try with_reducible rfl))
  try simp only [Act.put, List.setIfInBounds_toArray, List.set_cons_zero, List.set_cons_succ]
  refine takeE (i := 8) (d := some 15) (v := ?vT9) rfl rfl (by kernel_rfl) (by kernel_rfl) (by kernel_rfl) (by kernel_rfl) (fun _ _ _ h => h) (Or.inl ⟨by rfl, ?hyT9⟩) ⟨c1, c2, c3, c4, c5, c6, c7⟩ ?rstT9
  case hyT9 => (intro w hSw; (try dsimp only at hSw); obtain ⟨y0, y1, y2, y3, y4, y5, y6⟩ := hSw; go_simp; (try with_reducible rfl))
  try simp only [Act.put, List.setIfInBounds_toArray, List.set_cons_zero, List.set_cons_succ]
  refine oneE (i := 9) (by kernel_rfl) rfl (fun K hK => ?_)
  go_simp
  refine hK.out _ _ ?hS10 ?rest10
  case hS10 => exact fun _ => ⟨a1, a2, a3, a4, a5, a6, a7⟩
  clear hK K
  try simp only [Act.put, List.setIfInBounds_toArray, List.set_cons_zero, List.set_cons_succ]
  refine oneE (i := 10) (by kernel_rfl) rfl (fun K hK => ?_)
  rw [if_pos (by rfl)]
  refine wp_append_hr (.tmp 11) (.tmp 16) 46 (some 17) rfl rfl _ _ rfl rfl hap ?_
  refine hK.out _ _ ?hS11 ?rest11
  case hS11 => exact fun _ => ⟨p1, p2, p3, p4, p5, p6, p7⟩
  clear hK K
  try simp only [Act.put, List.setIfInBounds_toArray, List.set_cons_zero, List.set_cons_succ]
  refine oneE (i := 11) (by kernel_rfl) rfl (fun K hK => ?_)
  go_simp
  refine hK.out _ _ ?hS12 ?rest12
  case hS12 => exact fun _ => ⟨p1, p2, p3, p4, p5, p6, p7⟩
  clear hK K
  try simp only [Act.put, List.setIfInBounds_toArray, List.set_cons_zero, List.set_cons_succ]
  refine oneE (i := 12) (by kernel_rfl) rfl (fun K hK => ?_)
  go_simp
  refine hK.out _ _ ?hS13 ?rest13
  case hS13 => exact fun _ => ⟨p1, p2, p3, p4, p5, p6, p7⟩
  clear hK K
  try simp only [Act.put, List.setIfInBounds_toArray, List.set_cons_zero, List.set_cons_succ]
  refine oneE (i := 13) (by kernel_rfl) rfl (fun K hK => ?_)
  go_simp
  refine hK.out _ _ ?hS14 ?rest14
  case hS14 => exact fun e => absurd e (by decide)
  clear hK K
  try simp only [Act.put, List.setIfInBounds_toArray, List.set_cons_zero, List.set_cons_succ]
  refine doneE (by kernel_rfl) ?_ _
  try simp only [hw6]
  clear hw6 hap c1 c2 c3 c4 c5 c6 c7 a1 a2 a3 a4 a5 a6 a7 p1 p2 p3 p4 p5 p6 p7 y1 efv
  go_wp2_with fail
  obtain ⟨w7, hw7⟩ : ∃ V, w6.drew = V := ⟨_, rfl⟩
  have m7 := m6.below (V' := w7) (by rw [← hw7]; exact (Below.refl _ _).drew)
  clear m6
  obtain ⟨-, c1, c2, c3, c4, c5, c6, c7, -⟩ := box14 m7.box
  have HEm : Calls Tryd.prog 48 #[.int .i64 (hi + 1), .int .i64 (tt + 1)] w7 fun e w' => e = .returned (rowVal (hi + 1) (hi + 1) 0 false (tt + 1) (tt + 1)) ∧ Below w7.heap.size w7 w' := empty_any _ _ _
  have q1 : IntKind.i64.wrap (hi + 1) = hi + 1 := IntWalk.i64_in _ (by omega)
  have q2 : IntKind.i64.wrap (tt + 1) = tt + 1 := IntWalk.i64_in _ (by omega)
  refine wp_region_E (S := (fun v => v.cell? ⟨b, 3, none⟩ = some (.int .i64 hi) ∧ v.cell? ⟨b, 7, none⟩ = some (.int .i64 tt))) (E := [17]) (by kernel_rfl) ?_
  rw [hw7]
  clear hw7
  refine takeE (i := 0) (d := some 20) (v := ?vT15) rfl rfl (by kernel_rfl) (by kernel_rfl) (by kernel_rfl) (by kernel_rfl) (fun _ _ _ h => h) (Or.inl ⟨by rfl, ?hyT15⟩) ⟨c3, c7⟩ ?rstT15
  case hyT15 => (intro w hSw; (try dsimp only at hSw); obtain ⟨y0, y1⟩ := hSw; go_simp; (try with_reducible rfl))
  try simp only [Act.put, List.setIfInBounds_toArray, List.set_cons_zero, List.set_cons_succ]
  refine takeE (i := 1) (d := some 21) (v := ?vT16) rfl rfl (by kernel_rfl) (by kernel_rfl) (by kernel_rfl) (by kernel_rfl) (fun _ _ _ h => h) (Or.inl ⟨by rfl, ?hyT16⟩) ⟨c3, c7⟩ ?rstT16
  case hyT16 => (intro w hSw; (try dsimp only at hSw); obtain ⟨y0, y1⟩ := hSw; go_simp; (try with_reducible rfl))
  try simp only [Act.put, List.setIfInBounds_toArray, List.set_cons_zero, List.set_cons_succ]
  refine takeE (i := 2) (d := some 22) (v := ?vT17) rfl rfl (by kernel_rfl) (by kernel_rfl) (by kernel_rfl) (by kernel_rfl) (fun _ _ _ h => h) (Or.inl ⟨by rfl, ?hyT17⟩) ⟨c3, c7⟩ ?rstT17
  case hyT17 => (intro w hSw; (try dsimp only at hSw); obtain ⟨y0, y1⟩ := hSw; go_simp; (try with_reducible rfl))
  try simp only [Act.put, List.setIfInBounds_toArray, List.set_cons_zero, List.set_cons_succ]
  refine takeE (i := 3) (d := some 23) (v := ?vT18) rfl rfl (by kernel_rfl) (by kernel_rfl) (by kernel_rfl) (by kernel_rfl) (fun _ _ _ h => h) (Or.inl ⟨by rfl, ?hyT18⟩) ⟨c3, c7⟩ ?rstT18
  case hyT18 => (intro w hSw; (try dsimp only at hSw); obtain ⟨y0, y1⟩ := hSw; go_simp; (try with_reducible rfl))
  try simp only [Act.put, List.setIfInBounds_toArray, List.set_cons_zero, List.set_cons_succ]
  refine takeE (i := 4) (d := some 24) (v := ?vT19) rfl rfl (by kernel_rfl) (by kernel_rfl) (by kernel_rfl) (by kernel_rfl) (fun _ _ _ h => h) (Or.inl ⟨by rfl, ?hyT19⟩) ⟨c3, c7⟩ ?rstT19
  case hyT19 => (intro w hSw; (try dsimp only at hSw); obtain ⟨y0, y1⟩ := hSw; go_simp; (try with_reducible rfl))
  try simp only [Act.put, List.setIfInBounds_toArray, List.set_cons_zero, List.set_cons_succ]
  refine takeE (i := 5) (d := some 25) (v := ?vT20) rfl rfl (by kernel_rfl) (by kernel_rfl) (by kernel_rfl) (by kernel_rfl) (fun _ _ _ h => h) (Or.inl ⟨by rfl, ?hyT20⟩) ⟨c3, c7⟩ ?rstT20
  case hyT20 => (intro w hSw; (try dsimp only at hSw); obtain ⟨y0, y1⟩ := hSw; go_simp; (try with_reducible rfl))
  try simp only [Act.put, List.setIfInBounds_toArray, List.set_cons_zero, List.set_cons_succ]
  refine takeE (i := 6) (d := some 26) (v := ?vT21) rfl rfl (by kernel_rfl) (by kernel_rfl) (by kernel_rfl) (by kernel_rfl) (fun _ _ _ h => h) (Or.inl ⟨by rfl, ?hyT21⟩) ⟨c3, c7⟩ ?rstT21
  case hyT21 => (intro w hSw; (try dsimp only at hSw); obtain ⟨y0, y1⟩ := hSw; go_simp; (try with_reducible rfl))
  try simp only [Act.put, List.setIfInBounds_toArray, List.set_cons_zero, List.set_cons_succ]
  refine takeE (i := 7) (d := some 27) (v := ?vT22) rfl rfl (by kernel_rfl) (by kernel_rfl) (by kernel_rfl) (by kernel_rfl) (fun _ _ _ h => h) (Or.inl ⟨by rfl, ?hyT22⟩) ⟨c3, c7⟩ ?rstT22
  case hyT22 => (intro w hSw; (try dsimp only at hSw); obtain ⟨y0, y1⟩ := hSw; go_simp; (try with_reducible rfl))
  try simp only [Act.put, List.setIfInBounds_toArray, List.set_cons_zero, List.set_cons_succ]
  refine takeE (i := 8) (d := some 28) (v := ?vT23) rfl rfl (by kernel_rfl) (by kernel_rfl) (by kernel_rfl) (by kernel_rfl) (fun _ _ _ h => h) (Or.inl ⟨by rfl, ?hyT23⟩) ⟨c3, c7⟩ ?rstT23
  case hyT23 => (intro w hSw; (try dsimp only at hSw); obtain ⟨y0, y1⟩ := hSw; go_simp; (try with_reducible rfl))
  try simp only [Act.put, List.setIfInBounds_toArray, List.set_cons_zero, List.set_cons_succ]
  refine takeE (i := 9) (d := some 29) (v := ?vT24) rfl rfl (by kernel_rfl) (by kernel_rfl) (by kernel_rfl) (by kernel_rfl) (fun _ _ _ h => h) (Or.inl ⟨by rfl, ?hyT24⟩) ⟨c3, c7⟩ ?rstT24
  case hyT24 => (intro w hSw; (try dsimp only at hSw); obtain ⟨y0, y1⟩ := hSw; go_simp; (try with_reducible rfl))
  try simp only [Act.put, List.setIfInBounds_toArray, List.set_cons_zero, List.set_cons_succ]
  refine takeE (i := 10) (d := some 30) (v := ?vT25) rfl rfl (by kernel_rfl) (by kernel_rfl) (by kernel_rfl) (by kernel_rfl) (fun _ _ _ h => h) (Or.inl ⟨by rfl, ?hyT25⟩) ⟨c3, c7⟩ ?rstT25
  case hyT25 => (intro w hSw; (try dsimp only at hSw); obtain ⟨y0, y1⟩ := hSw; go_simp; (try with_reducible rfl))
  try simp only [Act.put, List.setIfInBounds_toArray, List.set_cons_zero, List.set_cons_succ]
  refine takeE (i := 11) (d := some 31) (v := ?vT26) rfl rfl (by kernel_rfl) (by kernel_rfl) (by kernel_rfl) (by kernel_rfl) (fun _ _ _ h => h) (Or.inl ⟨by rfl, ?hyT26⟩) ⟨c3, c7⟩ ?rstT26
  case hyT26 => (intro w hSw; (try dsimp only at hSw); obtain ⟨y0, y1⟩ := hSw; go_simp; (try with_reducible rfl))
  try simp only [Act.put, List.setIfInBounds_toArray, List.set_cons_zero, List.set_cons_succ]
  refine takeE (i := 12) (d := some 32) (v := ?vT27) rfl rfl (by kernel_rfl) (by kernel_rfl) (by kernel_rfl) (by kernel_rfl) (fun _ _ _ h => h) (Or.inl ⟨by rfl, ?hyT27⟩) ⟨c3, c7⟩ ?rstT27
  case hyT27 => (intro w hSw; (try dsimp only at hSw); obtain ⟨y0, y1⟩ := hSw; go_simp; (try with_reducible rfl))
  try simp only [Act.put, List.setIfInBounds_toArray, List.set_cons_zero, List.set_cons_succ]
  refine takeE (i := 13) (d := some 33) (v := ?vT28) rfl rfl (by kernel_rfl) (by kernel_rfl) (by kernel_rfl) (by kernel_rfl) (fun _ _ _ h => h) (Or.inl ⟨by rfl, ?hyT28⟩) ⟨c3, c7⟩ ?rstT28
  case hyT28 => (intro w hSw; (try dsimp only at hSw); obtain ⟨y0, y1⟩ := hSw; go_simp; (try with_reducible rfl))
  try simp only [Act.put, List.setIfInBounds_toArray, List.set_cons_zero, List.set_cons_succ]
  refine oneE (i := 14) (by kernel_rfl) rfl (fun K hK => ?_)
  go_simp
  refine HEm.mono ?_
  rintro e w8 ⟨rfl, hb8⟩
  clear HEm
  have m8 := m7.below hb8
  clear hb8 m7
  obtain ⟨d0, d1, d2, d3, d4, d5, d6, d7, d8, d9, d10, d11, d12, d13⟩ := box14 m8.box
  obtain ⟨z0, z1, z2, z3, z4, z5, z6, z7, z8, z9, z10, z11, z12, z13⟩ := wr14 m8.box
  obtain ⟨u4, hu4, e4, k4⟩ := store6b m8.box (.int .i64 (hi + 1)) (.int .i64 (hi + 1)) (.int .i64 0) (.bool false) (.int .i64 (tt + 1)) (.int .i64 (tt + 1))
  have M : Mem0 w b C _ u4 (.slice (some ⟨g, 0, none⟩) (ln + 1) cap) #[.int .i64 W, (.slice (some ⟨g, 0, none⟩) (ln + 1) cap), .int .i64 (hi + 1), .int .i64 (hi + 1), .int .i64 0, .bool false, .int .i64 (tt + 1), .int .i64 (tt + 1), .int .i64 wlo, .int .i64 whi, .int .i64 wcols, .bool false, .int .i64 wfr, .int .i64 wto] := m8.setB k4 e4
  clear m8 k4 e4
  unfold rowVal
  dsimp only
  refine hK.out _ _ ?hS29 ?rest29
  case hS29 => exact fun _ => ⟨d3, d7⟩
  clear hK K
  try simp only [Act.put, List.setIfInBounds_toArray, List.set_cons_zero, List.set_cons_succ]
  refine oneE (i := 15) (by kernel_rfl) rfl (fun K hK => ?_)
  go_simp
  refine hK.out _ _ ?hS30 ?rest30
  case hS30 => exact fun _ => ⟨d3, d7⟩
  clear hK K
  try simp only [Act.put, List.setIfInBounds_toArray, List.set_cons_zero, List.set_cons_succ]
  refine oneE (i := 16) (by kernel_rfl) rfl (fun K hK => ?_)
  go_simp
  refine hK.out _ _ ?hS31 ?rest31
  case hS31 => exact fun _ => ⟨d3, d7⟩
  clear hK K
  try simp only [Act.put, List.setIfInBounds_toArray, List.set_cons_zero, List.set_cons_succ]
  refine oneE (i := 17) (by kernel_rfl) rfl (fun K hK => ?_)
  go_simp
  refine hK.out _ _ ?hS32 ?rest32
  case hS32 => exact fun e => absurd e (by decide)
  clear hK K
  try simp only [Act.put, List.setIfInBounds_toArray, List.set_cons_zero, List.set_cons_succ]
  refine doneE (by kernel_rfl) ?_ _
  try simp only [hu4]
  go_wp2_with fail
  refine bodyPost_end (v := .tuple #[]) (by simp [results, Tryd.results35, go_sem]) rfl ?_
  exact ⟨_, rfl, M.box, M.own, M.chg⟩
end Go.Proofs.YtfnpmncmceocdaaDoor
