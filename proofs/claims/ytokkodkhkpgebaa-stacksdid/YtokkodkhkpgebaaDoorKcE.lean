import Derived.Test.YtokkodkhkpgebaaDoorKcM
/-! Put of the first insert. -/
namespace Go.Proofs.YtokkodkhkpgebaaDoor
open Go.RowKit Go.Lib
set_option maxRecDepth 100000

def putP (w : World) (h r : Nat) (c n : Int) (e : Ending) (w' : World) : Prop := ∃ xa xc oa oc na nc pa pc, e = .returned (.tuple #[opVal (oX 0 0) (.slice xa 0 xc), .int .i64 0]) ∧ HisR w' h r (some ⟨oa, 0, none⟩) 1 oc (some ⟨na, 0, none⟩) 1 nc 1 [((c, n), 0)] [⟨(c, n), 1, true, pa, 1, pc, [(0, 1)]⟩] ∧ PlsOk w' [⟨(c, n), 1, true, pa, 1, pc, [(0, 1)]⟩] ∧ w.heap.size ≤ oa ∧ w.heap.size ≤ na ∧ (∀ ad, pa = some ad → w.heap.size ≤ ad.block) ∧ Chg (fun g => g = h ∨ g = r) w w'

set_option maxHeartbeats 16000000 in
theorem putX {w : World} {h r : Nat} (H : HisB w h r none 0 0 none 0 0 0 []) {c n : Int} (hid : isIdP c n = true) (hw : Bar w) :
    Calls Tryd.prog 26 #[.pointer (some ⟨h, 0, none⟩), .int .i64 0, opVal (oX c n) (.slice none 0 0)] w fun e w' => putP w h r c n e w' := by
  obtain ⟨wa, hwa⟩ : ∃ wa, w.alloc (.cells #[.int .i64 c, .int .i64 n, .int .i64 1, .int .i64 0, .string xB, .slice none 0 0, .int .i64 0, .int .i64 0, .bool false] 70) = wa := ⟨_, rfl⟩
  obtain ⟨w2, hw2⟩ : ∃ w2, wa.alloc (.cells #[.int .i64 0, .int .i64 0, .int .i64 0, .int .i64 0, .string ⟨#[]⟩, .slice none 0 0, .int .i64 0, .int .i64 0, .bool false] 70) = w2 := ⟨_, rfl⟩
  have hza : wa.heap.size = w.heap.size + 1 := by rw [← hwa]; simp
  have hz2 : w2.heap.size = w.heap.size + 2 := by rw [← hw2, World.size_alloc, hza]
  have ka : Below w.heap.size w wa := by rw [← hwa]; exact (Below.refl _ _).alloc (Nat.le_refl _) _
  have k2 : Below w.heap.size w w2 := by rw [← hw2]; exact ka.alloc ka.size _
  have hqa : wa.heap[w.heap.size]? = some (.cells #[.int .i64 c, .int .i64 n, .int .i64 1, .int .i64 0, .string xB, .slice none 0 0, .int .i64 0, .int .i64 0, .bool false] 70) := by rw [← hwa]; exact heap_alloc_new _ _
  have hq2 : w2.heap[w.heap.size]? = some (.cells #[.int .i64 c, .int .i64 n, .int .i64 1, .int .i64 0, .string xB, .slice none 0 0, .int .i64 0, .int .i64 0, .bool false] 70) := by rw [← hw2, Below.heap_alloc _ _ _ (by omega)]; exact hqa
  have hs2 : w2.heap[wa.heap.size]? = some (.cells #[.int .i64 0, .int .i64 0, .int .i64 0, .int .i64 0, .string ⟨#[]⟩, .slice none 0 0, .int .i64 0, .int .i64 0, .bool false] 70) := by rw [← hw2]; exact heap_alloc_new _ _
  have H2 := H.below k2
  have hlh : h < w.heap.size := (Array.getElem?_eq_some_iff.1 H.box).1
  obtain ⟨es, ck, hr0, hE⟩ := H.map
  have hlr : r < w.heap.size := (Array.getElem?_eq_some_iff.1 hr0).1
  have hhr : h ≠ r := fun e => by have hb := H.box; rw [e, hr0] at hb; cases hb
  have hbh : h ≠ 0 := bar_ne_box hw H.box
  have hbr : r ≠ 0 := bar_ne_map hw hr0
  have HBar : Hid (∀ W, Below w2.heap.size w2 W → Bar W) := fun W hb => (hw.below k2).below hb
  have HCK := checkX H2 hid (hw.below k2)
  have HX : Hid (∀ W g, W.heap[g]? = some (.cells #[.int .i64 c, .int .i64 n, .int .i64 1, .int .i64 0, .string xB, .slice none 0 0, .int .i64 0, .int .i64 0, .bool false] 70) → Below w2.heap.size w2 W → Calls Tryd.prog 33 #[.slice (some ⟨g, 0, none⟩) 1 1, .slice none 0 0] W fun e w' => ∃ a1 c1 a2 c2 x', e = .returned (.tuple #[.slice a1 1 c1, .slice a2 0 c2, .int .i64 0]) ∧ OwnF opF 9 70 w' W.heap.size (.slice a1 1 c1) [x'] ∧ x'.1 = oX c n ∧ OwnF opF 9 70 w' W.heap.size (.slice a2 0 c2) [] ∧ OwnF rangeV 2 132 w' W.heap.size (.slice x'.2.1 x'.2.2.1 x'.2.2.2) x'.1.l ∧ Below W.heap.size W w') := fun W g hg hb => crossEnd_any (own_litO (x := (oX c n, (none, 0, 0))) hg) (b := none) (c := 0) (by decide) (fun _ => rfl) ⟨rng_of_rw (rw_nil W), by simp [oX], show xB.size ≤ _ by decide⟩ (oX_own (.inr hid)) (HBar.out W hb)
  have HWD : Hid (∀ W, Below w2.heap.size w2 W → Calls Tryd.prog 34 #[.agg #[.int .i64 c, .int .i64 n, .int .i64 1, .int .i64 0, .string xB, .slice none 0 0, .int .i64 0, .int .i64 0, .bool false]] W fun e w' => e = .returned (.int .i64 1) ∧ Below W.heap.size W w') := fun W hb => by
    have := width_any (o := oX c n) (v := .slice none 0 0) (w := W) (show xB.size ≤ _ by decide) (HBar.out W hb)
    rw [oX_width] at this
    exact this
  have HOV : Hid (∀ W, Below w2.heap.size w2 W → Calls Tryd.prog 35 #[.pointer (some ⟨h, 0, none⟩), .int .i64 0, .int .i64 1] W fun e w' => e = .returned (.bool false) ∧ Below W.heap.size W w') := fun W hb => overfull0 (H2.below hb) 0 1
  have HCA : Hid (∀ W, Below w2.heap.size w2 W → Calls Tryd.prog 36 #[.pointer (some ⟨h, 0, none⟩), .int .i64 0, .int .i64 1] W fun e w' => e = .returned (.tuple #[]) ∧ Below W.heap.size W w') := fun W hb => carry0 (H2.below hb) 0 1
  have HWB : Hid (Bar w) := hw
  have HH2 : Hid (HisB w2 h r none 0 0 none 0 0 0 []) := H2
  have HHR : Hid (w.heap[r]? = some (.map es ck) ∧ Ents es.toList []) := ⟨hr0, hE⟩
  clear H H2 hw hr0 hE hqa ka
  obtain ⟨q0, q1, q2, q3, q4, q5, q6, q7, q8⟩ := box9 hq2
  obtain ⟨b0, b1, b2, b3⟩ := box4 HH2.out.box
  have lq : w.heap.size < w2.heap.size := by omega
  have lh : h < w2.heap.size := by omega
  have lsa : wa.heap.size < w2.heap.size := by omega
  have lwa : w.heap.size < wa.heap.size := by omega
  clear hza hz2
  simp only [opVal, oX] at HCK ⊢
  go_enter Tryd.func26, Tryd.ntmps26
  go_wp2_with fail
  refine HCK.mono ?_
  rintro e w3 ⟨rfl, hb3⟩
  have hcur : Below w2.heap.size w2 w3 := hb3
  clear HCK hb3 hwa hw2
  go_wp2_with fail
  refine wp_region_held_drew (S := (fun W => ∀ p : Addr, p.block < w2.heap.size → W.cell? p = w2.cell? p)) (by kernel_rfl) ?hS1 (fun hHeld => ?rest1)
  case hS1 => (intro p hp; refine Below.cell (B := w2.heap.size) ?_ hp; (repeat (first | with_reducible exact hcur | (with_reducible refine Below.drew ?_))))
  refine takeD (i := 0) (d := some 24) (v := ?vT2) rfl rfl (by kernel_rfl) (by kernel_rfl) (by kernel_rfl) (fun _ _ _ h => h) (Or.inl ⟨by rfl, ?hyT2⟩) (by assumption) ?rstT2
  case hyT2 => (intro w hSw; (try dsimp only at hSw); go_simp; (try with_reducible rfl))
  try simp only [Act.put, List.setIfInBounds_toArray, List.set_cons_zero, List.set_cons_succ]
  refine takeD (i := 2) (d := some 26) (v := ?vT3) rfl rfl (by kernel_rfl) (by kernel_rfl) (by kernel_rfl) (fun _ _ _ h => h) (Or.inl ⟨by rfl, ?hyT3⟩) (by assumption) ?rstT3
  case hyT3 => (intro w hSw; (try dsimp only at hSw); go_simp; (try with_reducible rfl))
  try simp only [Act.put, List.setIfInBounds_toArray, List.set_cons_zero, List.set_cons_succ]
  refine takeD (i := 3) (d := some 27) (v := ?vT4) rfl rfl (by kernel_rfl) (by kernel_rfl) (by kernel_rfl) (fun _ _ _ h => h) (Or.inl ⟨by rfl, ?hyT4⟩) (by assumption) ?rstT4
  case hyT4 => (intro w hSw; (try dsimp only at hSw); go_simp; (try with_reducible rfl))
  try simp only [Act.put, List.setIfInBounds_toArray, List.set_cons_zero, List.set_cons_succ]
  refine takeD (i := 4) (d := some 28) (v := ?vT5) rfl rfl (by kernel_rfl) (by kernel_rfl) (by kernel_rfl) (fun _ _ _ h => h) (Or.inl ⟨by rfl, ?hyT5⟩) (by assumption) ?rstT5
  case hyT5 => (intro w hSw; (try dsimp only at hSw); go_simp; (try with_reducible rfl))
  try simp only [Act.put, List.setIfInBounds_toArray, List.set_cons_zero, List.set_cons_succ]
  refine takeD (i := 5) (d := some 29) (v := ?vT6) rfl rfl (by kernel_rfl) (by kernel_rfl) (by kernel_rfl) (fun _ _ _ h => h) (Or.inl ⟨by rfl, ?hyT6⟩) (by assumption) ?rstT6
  case hyT6 => (intro w hSw; (try dsimp only at hSw); go_simp; (try with_reducible rfl))
  try simp only [Act.put, List.setIfInBounds_toArray, List.set_cons_zero, List.set_cons_succ]
  refine takeD (i := 6) (d := some 30) (v := ?vT7) rfl rfl (by kernel_rfl) (by kernel_rfl) (by kernel_rfl) (fun _ _ _ h => h) (Or.inl ⟨by rfl, ?hyT7⟩) (by assumption) ?rstT7
  case hyT7 => (intro w hSw; (try dsimp only at hSw); go_simp; (try with_reducible rfl))
  try simp only [Act.put, List.setIfInBounds_toArray, List.set_cons_zero, List.set_cons_succ]
  refine takeD (i := 7) (d := some 31) (v := ?vT8) rfl rfl (by kernel_rfl) (by kernel_rfl) (by kernel_rfl) (fun _ _ _ h => h) (Or.inl ⟨by rfl, ?hyT8⟩) (by assumption) ?rstT8
  case hyT8 => (intro w hSw; (try dsimp only at hSw); go_simp; (try with_reducible rfl))
  try simp only [Act.put, List.setIfInBounds_toArray, List.set_cons_zero, List.set_cons_succ]
  refine wpAnyH_ready (rs := [1]) (by kernel_rfl) (by simp) ?_
  refine AllReadyH.cons rfl (fun K hK => ?_) AllReadyH.nil
  go_simp
  obtain ⟨wz, hwz⟩ : ∃ wz, (w3.alloc (.cells #[.int .i64 c, .int .i64 n, .int .i64 1, .int .i64 0, .string xB, .slice none 0 0, .int .i64 0, .int .i64 0, .bool false] 70)).drew = wz := ⟨_, rfl⟩
  rw [hwz]
  have hb2 : Below w3.heap.size w3 wz := by rw [← hwz]; exact ((Below.refl _ _).alloc (Nat.le_refl _) _).drew
  have hz : wz.heap[w3.heap.size]? = some (.cells #[.int .i64 c, .int .i64 n, .int .i64 1, .int .i64 0, .string xB, .slice none 0 0, .int .i64 0, .int .i64 0, .bool false] 70) := by rw [← hwz]; exact heap_alloc_new w3 _
  clear hwz
  have hcur2 : Below w2.heap.size w2 wz := by first | exact hcur.trans (hb2.mono hcur.size) | exact hcur.drew.trans (hb2.mono hcur.drew.size)
  clear hcur hb2
  have hcur := hcur2
  clear hcur2
  clear hHeld
  refine hK.out _ _ ?hS9 (fun hHeld => ?rest9)
  case hS9 => (intro p hp; refine Below.cell (B := w2.heap.size) ?_ hp; (repeat (first | with_reducible exact hcur | (with_reducible refine Below.drew ?_))))
  clear hK K
  try simp only [Act.put, List.setIfInBounds_toArray, List.set_cons_zero, List.set_cons_succ]
  refine wpAnyH_ready (rs := [8]) (by kernel_rfl) (by simp) ?_
  refine AllReadyH.cons rfl (fun K hK => ?_) AllReadyH.nil
  go_simp
  refine (HX.out _ _ hz ?_).mono ?_
  · first | exact hcur | exact hcur.drew
  rintro e2 w5 ⟨a1, c1, a2, c2, ⟨xo, xa, xm, xc⟩, rfl, ho1, hxo, ho2, hr5, hb2⟩
  simp only at hxo hr5
  subst hxo
  have ho1s := hcur.size
  have hcur2 : Below w2.heap.size w2 w5 := by first | exact hcur.trans (hb2.mono hcur.size) | exact hcur.drew.trans (hb2.mono hcur.drew.size)
  clear hcur hb2
  have hcur := hcur2
  clear hcur2
  clear hHeld
  refine hK.out _ _ ?hS10 (fun hHeld => ?rest10)
  case hS10 => (intro p hp; refine Below.cell (B := w2.heap.size) ?_ hp; (repeat (first | with_reducible exact hcur | (with_reducible refine Below.drew ?_))))
  clear hK K
  try simp only [Act.put, List.setIfInBounds_toArray, List.set_cons_zero, List.set_cons_succ]
  refine takeD (i := 9) (d := some 23) (v := ?vT11) rfl rfl (by kernel_rfl) (by kernel_rfl) (by kernel_rfl) (fun _ _ _ h => h) (Or.inl ⟨by rfl, ?hyT11⟩) (by assumption) ?rstT11
  case hyT11 => (intro w hSw; (try dsimp only at hSw); go_simp; (try with_reducible rfl))
  try simp only [Act.put, List.setIfInBounds_toArray, List.set_cons_zero, List.set_cons_succ]
  refine takeD (i := 10) (d := some 33) (v := ?vT12) rfl rfl (by kernel_rfl) (by kernel_rfl) (by kernel_rfl) (fun _ _ _ h => h) (Or.inl ⟨by rfl, ?hyT12⟩) (by assumption) ?rstT12
  case hyT12 => (intro w hSw; (try dsimp only at hSw); go_simp; (try with_reducible rfl))
  try simp only [Act.put, List.setIfInBounds_toArray, List.set_cons_zero, List.set_cons_succ]
  refine takeD (i := 11) (d := some 34) (v := ?vT13) rfl rfl (by kernel_rfl) (by kernel_rfl) (by kernel_rfl) (fun _ _ _ h => h) (Or.inl ⟨by rfl, ?hyT13⟩) (by assumption) ?rstT13
  case hyT13 => (intro w hSw; (try dsimp only at hSw); go_simp; (try with_reducible rfl))
  try simp only [Act.put, List.setIfInBounds_toArray, List.set_cons_zero, List.set_cons_succ]
  refine takeD (i := 12) (d := some 35) (v := ?vT14) rfl rfl (by kernel_rfl) (by kernel_rfl) (by kernel_rfl) (fun _ _ _ h => h) (Or.inl ⟨by rfl, ?hyT14⟩) (by assumption) ?rstT14
  case hyT14 => (intro w hSw; (try dsimp only at hSw); go_simp; (try with_reducible rfl))
  try simp only [Act.put, List.setIfInBounds_toArray, List.set_cons_zero, List.set_cons_succ]
  refine takeD (i := 13) (d := some 9) (v := ?vT15) rfl rfl (by kernel_rfl) (by kernel_rfl) (by kernel_rfl) (fun _ _ _ h => h) (Or.inl ⟨by rfl, ?hyT15⟩) (by assumption) ?rstT15
  case hyT15 => (intro w hSw; (try dsimp only at hSw); go_simp; (try with_reducible rfl))
  try simp only [Act.put, List.setIfInBounds_toArray, List.set_cons_zero, List.set_cons_succ]
  refine takeD (i := 14) (d := some 10) (v := ?vT16) rfl rfl (by kernel_rfl) (by kernel_rfl) (by kernel_rfl) (fun _ _ _ h => h) (Or.inl ⟨by rfl, ?hyT16⟩) (by assumption) ?rstT16
  case hyT16 => (intro w hSw; (try dsimp only at hSw); go_simp; (try with_reducible rfl))
  try simp only [Act.put, List.setIfInBounds_toArray, List.set_cons_zero, List.set_cons_succ]
  refine takeD (i := 15) (d := some 11) (v := ?vT17) rfl rfl (by kernel_rfl) (by kernel_rfl) (by kernel_rfl) (fun _ _ _ h => h) (Or.inl ⟨by rfl, ?hyT17⟩) (by assumption) ?rstT17
  case hyT17 => (intro w hSw; (try dsimp only at hSw); go_simp; (try with_reducible rfl))
  try simp only [Act.put, List.setIfInBounds_toArray, List.set_cons_zero, List.set_cons_succ]
  refine wpAnyH_done (by kernel_rfl) ?_ _
  obtain ⟨ra0, rc0, hxm⟩ := hr5.shape
  simp only [oX, List.length_nil, Value.slice.injEq] at hxm
  obtain ⟨-, rfl, -⟩ := hxm
  have hxc : xc ≤ maxLen := (hr5.rw_ layG).room.2
  have hc2 : c2 ≤ maxLen := (ho2.rw_ layO).room.2
  obtain ⟨g1, cp1, e1, -⟩ := ho1.ptr (by simp)
  simp only [List.length_cons, List.length_nil, Value.slice.injEq] at e1
  obtain ⟨rfl, -, rfl⟩ := e1
  obtain ⟨g', off, x0, ha0, _, hx0, p0, p1, p2, p3, p4, p5, p6, p7, p8⟩ := (ho1.rw_ layO).at9 (Below.refl _ _) 0 (by omega)
  cases ha0
  simp only [List.getElem?_cons_zero, Option.some.injEq] at hx0
  subst hx0
  simp only [oX, Nat.zero_mul, Nat.zero_add, Nat.add_zero] at p0 p1 p2 p3 p4 p5 p6 p7 p8
  clear hr5 ho2 ho1 q0 q1 q2 q3 q4 q5 q6 q7 q8 b0 b1 b2 b3 HX
  have hs5 := hcur.size
  obtain ⟨wf, hwf⟩ : ∃ wf, w5.alloc (.cells #[.int .i64 0, .int .i64 0, .int .i64 0, .int .i64 0, .string ⟨#[]⟩, .slice none 0 0, .int .i64 0, .int .i64 0, .bool false] 70) = wf := ⟨_, rfl⟩
  have hf0 : wf.heap[w5.heap.size]? = some (.cells #[.int .i64 0, .int .i64 0, .int .i64 0, .int .i64 0, .string ⟨#[]⟩, .slice none 0 0, .int .i64 0, .int .i64 0, .bool false] 70) := by rw [← hwf]; exact heap_alloc_new _ _
  have kf : Below w5.heap.size w5 wf := by rw [← hwf]; exact (Below.refl _ _).alloc (Nat.le_refl _) _
  obtain ⟨W7, e7, hf7, B7, K7⟩ := store9 hf0 kf (Nat.le_refl _) (.int .i64 c) (.int .i64 n) (.int .i64 1) (.int .i64 0) (.string xB) (.slice xa 0 xc) (.int .i64 0) (.int .i64 0) (.bool false)
  obtain ⟨W8, e8, hf8, hC8⟩ := set01 (v0 := .int .i64 0) (v1 := .int .i64 0) hf7
  have hP8 : Below w2.heap.size w2 W8 := (hcur.trans (B7.mono hs5)).trans (hC8.below (fun g hg => by omega) (by have := (hcur.trans (B7.mono hs5)).size; omega))
  have hq8 := (hP8.block w.heap.size lq).trans hq2
  obtain ⟨q0, q1, q2, q3, q4, q5, q6, q7, q8⟩ := box9 hq8
  obtain ⟨z0, z1, z2, z3, z4, z5, z6, z7, z8⟩ := box9 hf0
  obtain ⟨y0, y1, y2, y3, y4, y5, y6, y7, y8⟩ := wr9 hf0
  obtain ⟨t0, t1, -⟩ := box9 hf7
  obtain ⟨v0, v1, -⟩ := wr9 hf7
  clear kf B7 K7 hC8 hcur hf7 hf0 hq8
  go_wp2_with fail
  refine (HWD.out _ hP8).mono ?_
  rintro e w10 ⟨rfl, hb10⟩
  have hP10 := hP8.trans (hb10.mono hP8.size)
  have hf10 := (hb10.block w5.heap.size (Array.getElem?_eq_some_iff.1 hf8).1).trans hf8
  clear hf8 hb10 hP8 q0 q1 q2 q3 q4 q5 q6 q7 q8 z0 z1 z2 z3 z4 z5 z6 z7 z8 y0 y1 y2 y3 y4 y5 y6 y7 y8 t0 t1 v0 v1 e7 e8 hwf
  obtain ⟨z0, z1, z2, z3, z4, z5, z6, z7, z8⟩ := box9 hf10
  go_wp2_with fail
  refine (HOV.out _ hP10).mono ?_
  rintro e w11 ⟨rfl, hb11⟩
  have hP11 := hP10.trans (hb11.mono hP10.size)
  have hf11 := (hb11.block w5.heap.size (Array.getElem?_eq_some_iff.1 hf10).1).trans hf10
  clear hf10 hb11 hP10 z0 z1 z2 z3 z4 z5 z6 z7 z8
  obtain ⟨z0, z1, z2, z3, z4, z5, z6, z7, z8⟩ := box9 hf11
  go_wp2_with fail
  refine (HCA.out _ hP11).mono ?_
  rintro e w13 ⟨rfl, hb13⟩
  have hP13 := hP11.trans (hb13.mono hP11.size)
  have hf13 := (hb13.block w5.heap.size (Array.getElem?_eq_some_iff.1 hf11).1).trans hf11
  clear hf11 hb13 hP11 z0 z1 z2 z3 z4 z5 z6 z7 z8
  have hh13 := (hP13.block h lh).trans HH2.out.box
  obtain ⟨b0, b1, b2, b3⟩ := box4 hh13
  have fb := Lib.frozen_of_heap hh13 3
  obtain ⟨X, eX, hhX, hCX⟩ := setBox4 hh13 3 (.int .i64 1) #[.slice none 0 0, .slice none 0 0, .map (some r), .int .i64 1] rfl
  have hfl := (Array.getElem?_eq_some_iff.1 hf13).1
  have hsz13 := hP13.size
  have hfh : ¬ w5.heap.size = h := by omega
  have hqh : ¬ w.heap.size = h := by omega
  have hqX := hCX.block ((hP13.block w.heap.size lq).trans hq2) hqh
  have hfX := hCX.block hf13 hfh
  go_wp2_with fail
  try rw [eX]
  clear b0 b1 b2 b3 fb eX
  obtain ⟨q0, q1, q2, q3, q4, q5, q6, q7, q8⟩ := box9 hqX
  obtain ⟨z0, z1, z2, z3, z4, z5, z6, z7, z8⟩ := box9 hfX
  have lqX := (Array.getElem?_eq_some_iff.1 hqX).1
  have lfX := (Array.getElem?_eq_some_iff.1 hfX).1
  have lhX := (Array.getElem?_eq_some_iff.1 hhX).1
  have HBX : Hid (∀ W, Below X.heap.size X W → Bar W) := fun W hb => ((HBar.out _ hP13).chg hCX (fun e => hbh e.symm)).below hb
  have HCV : Hid (∀ W, Below X.heap.size X W → Calls Tryd.prog 38 #[.agg #[.int .i64 0, .int .i64 0, .int .i64 1, .int .i64 0, .string xB, .slice xa 0 xc, .int .i64 0, .int .i64 0, .bool false]] W fun e w' => ∃ v, e = .returned v ∧ OwnF rangeV 2 132 w' W.heap.size v [(0, 1)] ∧ Below W.heap.size W w') := fun W hb => coversX (HBX.out W hb) xa hxc
  have hcur : Below X.heap.size X X := Below.refl _ _
  go_cut [89] (fun _ wx => ∃ (pa : Option Addr) (pc gn nc : Nat), wx.heap[h]? = some (.cells #[.slice none 0 0, .slice (some ⟨gn, 0, none⟩) 1 nc, .map (some r), .int .i64 1] 78) ∧ OwnF nsF 2 92 wx X.heap.size (.slice (some ⟨gn, 0, none⟩) 1 nc) [(true, (pa, 1, pc))] ∧ OwnF rangeV 2 132 wx X.heap.size (.slice pa 1 pc) [(0, 1)] ∧ X.heap.size ≤ gn ∧ Chg (fun g => g = h) X wx)
  case first =>
    refine wp_region_held_drew (S := (fun W => ∀ p : Addr, p.block < X.heap.size → p.block ≠ h → W.cell? p = X.cell? p)) (by kernel_rfl) ?hS34 (fun hHeld => ?rest34)
    case hS34 => (intro p hp hne; refine Below.cell (B := X.heap.size) ?_ hp; (repeat (first | with_reducible exact hcur | (with_reducible refine Below.drew ?_))))
    refine takeD (i := 0) (d := some 71) (v := ?vT35) rfl rfl (by kernel_rfl) (by kernel_rfl) (by kernel_rfl) (fun _ _ _ h => h) (Or.inl ⟨by rfl, ?hyT35⟩) (by assumption) ?rstT35
    case hyT35 => (intro w hSw; (try dsimp only at hSw); go_simp; (try with_reducible rfl))
    try simp only [Act.put, List.setIfInBounds_toArray, List.set_cons_zero, List.set_cons_succ]
    refine takeD (i := 1) (d := some 72) (v := ?vT36) rfl rfl (by kernel_rfl) (by kernel_rfl) (by kernel_rfl) (fun _ _ _ h => h) (Or.inl ⟨by rfl, ?hyT36⟩) (by assumption) ?rstT36
    case hyT36 => (intro w hSw; (try dsimp only at hSw); go_simp; (try with_reducible rfl))
    try simp only [Act.put, List.setIfInBounds_toArray, List.set_cons_zero, List.set_cons_succ]
    refine takeD (i := 2) (d := some 73) (v := ?vT37) rfl rfl (by kernel_rfl) (by kernel_rfl) (by kernel_rfl) (fun _ _ _ h => h) (Or.inl ⟨by rfl, ?hyT37⟩) (by assumption) ?rstT37
    case hyT37 => (intro w hSw; (try dsimp only at hSw); go_simp; (try with_reducible rfl))
    try simp only [Act.put, List.setIfInBounds_toArray, List.set_cons_zero, List.set_cons_succ]
    refine takeD (i := 3) (d := some 74) (v := ?vT38) rfl rfl (by kernel_rfl) (by kernel_rfl) (by kernel_rfl) (fun _ _ _ h => h) (Or.inl ⟨by rfl, ?hyT38⟩) (by assumption) ?rstT38
    case hyT38 => (intro w hSw; (try dsimp only at hSw); go_simp; (try with_reducible rfl))
    try simp only [Act.put, List.setIfInBounds_toArray, List.set_cons_zero, List.set_cons_succ]
    refine takeD (i := 5) (d := some 76) (v := ?vT39) rfl rfl (by kernel_rfl) (by kernel_rfl) (by kernel_rfl) (fun _ _ _ h => h) (Or.inl ⟨by rfl, ?hyT39⟩) (by assumption) ?rstT39
    case hyT39 => (intro w hSw; (try dsimp only at hSw); go_simp; (try with_reducible rfl))
    try simp only [Act.put, List.setIfInBounds_toArray, List.set_cons_zero, List.set_cons_succ]
    refine takeD (i := 6) (d := some 77) (v := ?vT40) rfl rfl (by kernel_rfl) (by kernel_rfl) (by kernel_rfl) (fun _ _ _ h => h) (Or.inl ⟨by rfl, ?hyT40⟩) (by assumption) ?rstT40
    case hyT40 => (intro w hSw; (try dsimp only at hSw); go_simp; (try with_reducible rfl))
    try simp only [Act.put, List.setIfInBounds_toArray, List.set_cons_zero, List.set_cons_succ]
    refine takeD (i := 7) (d := some 78) (v := ?vT41) rfl rfl (by kernel_rfl) (by kernel_rfl) (by kernel_rfl) (fun _ _ _ h => h) (Or.inl ⟨by rfl, ?hyT41⟩) (by assumption) ?rstT41
    case hyT41 => (intro w hSw; (try dsimp only at hSw); go_simp; (try with_reducible rfl))
    try simp only [Act.put, List.setIfInBounds_toArray, List.set_cons_zero, List.set_cons_succ]
    refine takeD (i := 8) (d := some 79) (v := ?vT42) rfl rfl (by kernel_rfl) (by kernel_rfl) (by kernel_rfl) (fun _ _ _ h => h) (Or.inl ⟨by rfl, ?hyT42⟩) (by assumption) ?rstT42
    case hyT42 => (intro w hSw; (try dsimp only at hSw); go_simp; (try with_reducible rfl))
    try simp only [Act.put, List.setIfInBounds_toArray, List.set_cons_zero, List.set_cons_succ]
    refine takeD (i := 9) (d := some 80) (v := ?vT43) rfl rfl (by kernel_rfl) (by kernel_rfl) (by kernel_rfl) (fun _ _ _ h => h) (Or.inl ⟨by rfl, ?hyT43⟩) (by assumption) ?rstT43
    case hyT43 => (intro w hSw; (try dsimp only at hSw); go_simp; (try with_reducible rfl))
    try simp only [Act.put, List.setIfInBounds_toArray, List.set_cons_zero, List.set_cons_succ]
    refine takeD (i := 10) (d := some 81) (v := ?vT44) rfl rfl (by kernel_rfl) (by kernel_rfl) (by kernel_rfl) (fun _ _ _ h => h) (Or.inl ⟨by rfl, ?hyT44⟩) (by assumption) ?rstT44
    case hyT44 => (intro w hSw; (try dsimp only at hSw); go_simp; (try with_reducible rfl))
    try simp only [Act.put, List.setIfInBounds_toArray, List.set_cons_zero, List.set_cons_succ]
    refine takeD (i := 11) (d := some 82) (v := ?vT45) rfl rfl (by kernel_rfl) (by kernel_rfl) (by kernel_rfl) (fun _ _ _ h => h) (Or.inl ⟨by rfl, ?hyT45⟩) (by assumption) ?rstT45
    case hyT45 => (intro w hSw; (try dsimp only at hSw); go_simp; (try with_reducible rfl))
    try simp only [Act.put, List.setIfInBounds_toArray, List.set_cons_zero, List.set_cons_succ]
    refine takeD (i := 12) (d := some 83) (v := ?vT46) rfl rfl (by kernel_rfl) (by kernel_rfl) (by kernel_rfl) (fun _ _ _ h => h) (Or.inl ⟨by rfl, ?hyT46⟩) (by assumption) ?rstT46
    case hyT46 => (intro w hSw; (try dsimp only at hSw); go_simp; (try with_reducible rfl))
    try simp only [Act.put, List.setIfInBounds_toArray, List.set_cons_zero, List.set_cons_succ]
    refine takeD (i := 13) (d := some 84) (v := ?vT47) rfl rfl (by kernel_rfl) (by kernel_rfl) (by kernel_rfl) (fun _ _ _ h => h) (Or.inl ⟨by rfl, ?hyT47⟩) (by assumption) ?rstT47
    case hyT47 => (intro w hSw; (try dsimp only at hSw); go_simp; (try with_reducible rfl))
    try simp only [Act.put, List.setIfInBounds_toArray, List.set_cons_zero, List.set_cons_succ]
    refine takeD (i := 14) (d := some 85) (v := ?vT48) rfl rfl (by kernel_rfl) (by kernel_rfl) (by kernel_rfl) (fun _ _ _ h => h) (Or.inl ⟨by rfl, ?hyT48⟩) (by assumption) ?rstT48
    case hyT48 => (intro w hSw; (try dsimp only at hSw); go_simp; (try with_reducible rfl))
    try simp only [Act.put, List.setIfInBounds_toArray, List.set_cons_zero, List.set_cons_succ]
    refine wpAnyH_ready (rs := [4, 15]) (by kernel_rfl) (by simp) (AllReadyH.cons rfl (fun K hK => ?b81) (AllReadyH.cons rfl (fun K hK => ?b82) AllReadyH.nil))
    case b81 =>
      have hl1 := (box4 ((hcur.block h lhX).trans hhX)).2.1
      go_simp
      clear hHeld
      refine hK.out _ _ ?hS83 (fun hHeld => ?rest83)
      case hS83 => (intro p hp hne; refine Below.cell (B := X.heap.size) ?_ hp; (repeat (first | with_reducible exact hcur | (with_reducible refine Below.drew ?_))))
      clear hK K
      try simp only [Act.put, List.setIfInBounds_toArray, List.set_cons_zero, List.set_cons_succ]
      refine wpAnyH_ready (rs := [15]) (by kernel_rfl) (by simp) (AllReadyH.cons rfl (fun K hK => ?b58) AllReadyH.nil)
      case b58 =>
        go_simp
        refine (HCV.out _ ?_).mono ?_
        · first | exact hcur | exact hcur.drew
        rintro e2 wc ⟨pv, rfl, hpo, hb2⟩
        obtain ⟨pa, pc, hpv⟩ := hpo.shape
        simp only [List.length_cons, List.length_nil, Nat.zero_add] at hpv
        subst hpv
        have hpo2 := hpo.mono (C := X.heap.size) (by have := hcur.size; exact this)
        clear hpo
        have hcur2 : Below X.heap.size X wc := by first | exact hcur.trans (hb2.mono hcur.size) | exact hcur.drew.trans (hb2.mono hcur.drew.size)
        clear hcur hb2
        have hcur := hcur2
        clear hcur2
        clear hHeld
        refine hK.out _ _ ?hS59 (fun hHeld => ?rest59)
        case hS59 => (intro p hp hne; refine Below.cell (B := X.heap.size) ?_ hp; (repeat (first | with_reducible exact hcur | (with_reducible refine Below.drew ?_))))
        clear hK K
        try simp only [Act.put, List.setIfInBounds_toArray, List.set_cons_zero, List.set_cons_succ]
        refine takeD (i := 16) (d := some 87) (v := ?vT49) rfl rfl (by kernel_rfl) (by kernel_rfl) (by kernel_rfl) (fun _ _ _ h => h) (Or.inl ⟨by rfl, ?hyT49⟩) (by assumption) ?rstT49
        case hyT49 => (intro w hSw; (try dsimp only at hSw); go_simp; (try with_reducible rfl))
        try simp only [Act.put, List.setIfInBounds_toArray, List.set_cons_zero, List.set_cons_succ]
        refine wpAnyH_ready (rs := [17]) (by kernel_rfl) (by simp) (AllReadyH.cons rfl (fun K hK => ?b56) AllReadyH.nil)
        case b56 =>
          go_simp
          obtain ⟨wz, hwz⟩ : ∃ wz, wc.alloc (.cells #[.bool true, .slice pa 1 pc] 92) = wz := ⟨_, rfl⟩
          rw [hwz]
          have hb2 : Below wc.heap.size wc wz := by rw [← hwz]; exact (Below.refl _ _).alloc (Nat.le_refl _) _
          have hzr : Rw nsF 2 wz (some ⟨wc.heap.size, 0, none⟩) 1 1 [(true, (pa, 1, pc))] := by rw [← hwz]; exact rw_lit wc (true, (pa, 1, pc)) _ rfl _
          have hpo3 := hpo2.below hb2
          clear hwz hpo2
          have hcur2 : Below X.heap.size X wz := by first | exact hcur.trans (hb2.mono hcur.size) | exact hcur.drew.trans (hb2.mono hcur.drew.size)
          clear hcur hb2
          have hcur := hcur2
          clear hcur2
          clear hHeld
          refine hK.out _ _ ?hS57 (fun hHeld => ?rest57)
          case hS57 => (intro p hp hne; refine Below.cell (B := X.heap.size) ?_ hp; (repeat (first | with_reducible exact hcur | (with_reducible refine Below.drew ?_))))
          clear hK K
          try simp only [Act.put, List.setIfInBounds_toArray, List.set_cons_zero, List.set_cons_succ]
          refine wpAnyH_ready (rs := [18]) (by kernel_rfl) (by simp) (AllReadyH.cons rfl (fun K hK => ?b54) AllReadyH.nil)
          case b54 =>
            go_simp
            refine (insert0 hzr).mono ?_
            rintro e2 wi ⟨gn, nc, rfl, hno, hb2⟩
            have hpo4 := hpo3.below hb2
            have hno2 := hno.mono (C := X.heap.size) (by have := hcur.size; exact this)
            clear hzr hpo3 hno
            have hcur2 : Below X.heap.size X wi := by first | exact hcur.trans (hb2.mono hcur.size) | exact hcur.drew.trans (hb2.mono hcur.drew.size)
            clear hcur hb2
            have hcur := hcur2
            clear hcur2
            clear hHeld
            refine hK.out _ _ ?hS55 (fun hHeld => ?rest55)
            case hS55 => (intro p hp hne; refine Below.cell (B := X.heap.size) ?_ hp; (repeat (first | with_reducible exact hcur | (with_reducible refine Below.drew ?_))))
            clear hK K
            try simp only [Act.put, List.setIfInBounds_toArray, List.set_cons_zero, List.set_cons_succ]
            refine takeD (i := 19) (d := some 90) (v := ?vT50) rfl rfl (by kernel_rfl) (by kernel_rfl) (by kernel_rfl) (fun _ _ _ h => h) (Or.inl ⟨by rfl, ?hyT50⟩) (by assumption) ?rstT50
            case hyT50 => (intro w hSw; (try dsimp only at hSw); go_simp; (try with_reducible rfl))
            try simp only [Act.put, List.setIfInBounds_toArray, List.set_cons_zero, List.set_cons_succ]
            refine takeD (i := 20) (d := some 91) (v := ?vT51) rfl rfl (by kernel_rfl) (by kernel_rfl) (by kernel_rfl) (fun _ _ _ h => h) (Or.inl ⟨by rfl, ?hyT51⟩) (by assumption) ?rstT51
            case hyT51 => (intro w hSw; (try dsimp only at hSw); go_simp; (try with_reducible rfl))
            try simp only [Act.put, List.setIfInBounds_toArray, List.set_cons_zero, List.set_cons_succ]
            refine wpAnyH_ready (rs := [21]) (by kernel_rfl) (by simp) (AllReadyH.cons rfl (fun K hK => ?b52) AllReadyH.nil)
            case b52 =>
              have hhi := ((hcur.block h lhX).trans hhX)
              obtain ⟨e0', e1', e2', e3'⟩ := box4 hhi
              have ff := Lib.frozen_of_heap hhi 1
              obtain ⟨W9, e9, hh9, hC9⟩ := setBox4 hhi 1 (.slice (some ⟨gn, 0, none⟩) 1 nc) #[.slice none 0 0, .slice (some ⟨gn, 0, none⟩) 1 nc, .map (some r), .int .i64 1] rfl
              go_simp
              try rw [e9]
              clear hHeld
              refine hK.out _ _ ?hS53 (fun hHeld => ?rest53)
              case hS53 => (intro p hp hne; exact (Chg.cell hC9 (by have := hcur.size; omega) hne).trans (hcur.cell hp))
              clear hK K
              try simp only [Act.put, List.setIfInBounds_toArray, List.set_cons_zero, List.set_cons_succ]
              refine wpAnyH_done (by kernel_rfl) ?_ _
              go_wp2_with fail
              go_meet
              case rel => exact ⟨pa, pc, gn, nc, hh9, hC9.own hno2 (fun g hg => by have := hno2.ge hg; omega), hC9.own hpo4 (fun g hg => by have := hpo4.ge hg; omega), hno2.ge rfl, (Chg.of_below hcur).trans hC9⟩
    case b82 =>
      go_simp
      refine (HCV.out _ ?_).mono ?_
      · first | exact hcur | exact hcur.drew
      rintro e2 wc ⟨pv, rfl, hpo, hb2⟩
      obtain ⟨pa, pc, hpv⟩ := hpo.shape
      simp only [List.length_cons, List.length_nil, Nat.zero_add] at hpv
      subst hpv
      have hpo2 := hpo.mono (C := X.heap.size) (by have := hcur.size; exact this)
      clear hpo
      have hcur2 : Below X.heap.size X wc := by first | exact hcur.trans (hb2.mono hcur.size) | exact hcur.drew.trans (hb2.mono hcur.drew.size)
      clear hcur hb2
      have hcur := hcur2
      clear hcur2
      clear hHeld
      refine hK.out _ _ ?hS84 (fun hHeld => ?rest84)
      case hS84 => (intro p hp hne; refine Below.cell (B := X.heap.size) ?_ hp; (repeat (first | with_reducible exact hcur | (with_reducible refine Below.drew ?_))))
      clear hK K
      try simp only [Act.put, List.setIfInBounds_toArray, List.set_cons_zero, List.set_cons_succ]
      refine takeD (i := 16) (d := some 87) (v := ?vT60) rfl rfl (by kernel_rfl) (by kernel_rfl) (by kernel_rfl) (fun _ _ _ h => h) (Or.inl ⟨by rfl, ?hyT60⟩) (by assumption) ?rstT60
      case hyT60 => (intro w hSw; (try dsimp only at hSw); go_simp; (try with_reducible rfl))
      try simp only [Act.put, List.setIfInBounds_toArray, List.set_cons_zero, List.set_cons_succ]
      refine wpAnyH_ready (rs := [4, 17]) (by kernel_rfl) (by simp) (AllReadyH.cons rfl (fun K hK => ?b77) (AllReadyH.cons rfl (fun K hK => ?b78) AllReadyH.nil))
      case b77 =>
        have hl1 := (box4 ((hcur.block h lhX).trans hhX)).2.1
        go_simp
        clear hHeld
        refine hK.out _ _ ?hS79 (fun hHeld => ?rest79)
        case hS79 => (intro p hp hne; refine Below.cell (B := X.heap.size) ?_ hp; (repeat (first | with_reducible exact hcur | (with_reducible refine Below.drew ?_))))
        clear hK K
        try simp only [Act.put, List.setIfInBounds_toArray, List.set_cons_zero, List.set_cons_succ]
        refine wpAnyH_ready (rs := [17]) (by kernel_rfl) (by simp) (AllReadyH.cons rfl (fun K hK => ?b67) AllReadyH.nil)
        case b67 =>
          go_simp
          obtain ⟨wz, hwz⟩ : ∃ wz, wc.alloc (.cells #[.bool true, .slice pa 1 pc] 92) = wz := ⟨_, rfl⟩
          rw [hwz]
          have hb2 : Below wc.heap.size wc wz := by rw [← hwz]; exact (Below.refl _ _).alloc (Nat.le_refl _) _
          have hzr : Rw nsF 2 wz (some ⟨wc.heap.size, 0, none⟩) 1 1 [(true, (pa, 1, pc))] := by rw [← hwz]; exact rw_lit wc (true, (pa, 1, pc)) _ rfl _
          have hpo3 := hpo2.below hb2
          clear hwz hpo2
          have hcur2 : Below X.heap.size X wz := by first | exact hcur.trans (hb2.mono hcur.size) | exact hcur.drew.trans (hb2.mono hcur.drew.size)
          clear hcur hb2
          have hcur := hcur2
          clear hcur2
          clear hHeld
          refine hK.out _ _ ?hS68 (fun hHeld => ?rest68)
          case hS68 => (intro p hp hne; refine Below.cell (B := X.heap.size) ?_ hp; (repeat (first | with_reducible exact hcur | (with_reducible refine Below.drew ?_))))
          clear hK K
          try simp only [Act.put, List.setIfInBounds_toArray, List.set_cons_zero, List.set_cons_succ]
          refine wpAnyH_ready (rs := [18]) (by kernel_rfl) (by simp) (AllReadyH.cons rfl (fun K hK => ?b65) AllReadyH.nil)
          case b65 =>
            go_simp
            refine (insert0 hzr).mono ?_
            rintro e2 wi ⟨gn, nc, rfl, hno, hb2⟩
            have hpo4 := hpo3.below hb2
            have hno2 := hno.mono (C := X.heap.size) (by have := hcur.size; exact this)
            clear hzr hpo3 hno
            have hcur2 : Below X.heap.size X wi := by first | exact hcur.trans (hb2.mono hcur.size) | exact hcur.drew.trans (hb2.mono hcur.drew.size)
            clear hcur hb2
            have hcur := hcur2
            clear hcur2
            clear hHeld
            refine hK.out _ _ ?hS66 (fun hHeld => ?rest66)
            case hS66 => (intro p hp hne; refine Below.cell (B := X.heap.size) ?_ hp; (repeat (first | with_reducible exact hcur | (with_reducible refine Below.drew ?_))))
            clear hK K
            try simp only [Act.put, List.setIfInBounds_toArray, List.set_cons_zero, List.set_cons_succ]
            refine takeD (i := 19) (d := some 90) (v := ?vT61) rfl rfl (by kernel_rfl) (by kernel_rfl) (by kernel_rfl) (fun _ _ _ h => h) (Or.inl ⟨by rfl, ?hyT61⟩) (by assumption) ?rstT61
            case hyT61 => (intro w hSw; (try dsimp only at hSw); go_simp; (try with_reducible rfl))
            try simp only [Act.put, List.setIfInBounds_toArray, List.set_cons_zero, List.set_cons_succ]
            refine takeD (i := 20) (d := some 91) (v := ?vT62) rfl rfl (by kernel_rfl) (by kernel_rfl) (by kernel_rfl) (fun _ _ _ h => h) (Or.inl ⟨by rfl, ?hyT62⟩) (by assumption) ?rstT62
            case hyT62 => (intro w hSw; (try dsimp only at hSw); go_simp; (try with_reducible rfl))
            try simp only [Act.put, List.setIfInBounds_toArray, List.set_cons_zero, List.set_cons_succ]
            refine wpAnyH_ready (rs := [21]) (by kernel_rfl) (by simp) (AllReadyH.cons rfl (fun K hK => ?b63) AllReadyH.nil)
            case b63 =>
              have hhi := ((hcur.block h lhX).trans hhX)
              obtain ⟨e0', e1', e2', e3'⟩ := box4 hhi
              have ff := Lib.frozen_of_heap hhi 1
              obtain ⟨W9, e9, hh9, hC9⟩ := setBox4 hhi 1 (.slice (some ⟨gn, 0, none⟩) 1 nc) #[.slice none 0 0, .slice (some ⟨gn, 0, none⟩) 1 nc, .map (some r), .int .i64 1] rfl
              go_simp
              try rw [e9]
              clear hHeld
              refine hK.out _ _ ?hS64 (fun hHeld => ?rest64)
              case hS64 => (intro p hp hne; exact (Chg.cell hC9 (by have := hcur.size; omega) hne).trans (hcur.cell hp))
              clear hK K
              try simp only [Act.put, List.setIfInBounds_toArray, List.set_cons_zero, List.set_cons_succ]
              refine wpAnyH_done (by kernel_rfl) ?_ _
              go_wp2_with fail
              go_meet
              case rel => exact ⟨pa, pc, gn, nc, hh9, hC9.own hno2 (fun g hg => by have := hno2.ge hg; omega), hC9.own hpo4 (fun g hg => by have := hpo4.ge hg; omega), hno2.ge rfl, (Chg.of_below hcur).trans hC9⟩
      case b78 =>
        go_simp
        obtain ⟨wz, hwz⟩ : ∃ wz, wc.alloc (.cells #[.bool true, .slice pa 1 pc] 92) = wz := ⟨_, rfl⟩
        rw [hwz]
        have hb2 : Below wc.heap.size wc wz := by rw [← hwz]; exact (Below.refl _ _).alloc (Nat.le_refl _) _
        have hzr : Rw nsF 2 wz (some ⟨wc.heap.size, 0, none⟩) 1 1 [(true, (pa, 1, pc))] := by rw [← hwz]; exact rw_lit wc (true, (pa, 1, pc)) _ rfl _
        have hpo3 := hpo2.below hb2
        clear hwz hpo2
        have hcur2 : Below X.heap.size X wz := by first | exact hcur.trans (hb2.mono hcur.size) | exact hcur.drew.trans (hb2.mono hcur.drew.size)
        clear hcur hb2
        have hcur := hcur2
        clear hcur2
        clear hHeld
        refine hK.out _ _ ?hS80 (fun hHeld => ?rest80)
        case hS80 => (intro p hp hne; refine Below.cell (B := X.heap.size) ?_ hp; (repeat (first | with_reducible exact hcur | (with_reducible refine Below.drew ?_))))
        clear hK K
        try simp only [Act.put, List.setIfInBounds_toArray, List.set_cons_zero, List.set_cons_succ]
        refine wpAnyH_ready (rs := [4]) (by kernel_rfl) (by simp) (AllReadyH.cons rfl (fun K hK => ?b75) AllReadyH.nil)
        case b75 =>
          have hl1 := (box4 ((hcur.block h lhX).trans hhX)).2.1
          go_simp
          clear hHeld
          refine hK.out _ _ ?hS76 (fun hHeld => ?rest76)
          case hS76 => (intro p hp hne; refine Below.cell (B := X.heap.size) ?_ hp; (repeat (first | with_reducible exact hcur | (with_reducible refine Below.drew ?_))))
          clear hK K
          try simp only [Act.put, List.setIfInBounds_toArray, List.set_cons_zero, List.set_cons_succ]
          refine wpAnyH_ready (rs := [18]) (by kernel_rfl) (by simp) (AllReadyH.cons rfl (fun K hK => ?b73) AllReadyH.nil)
          case b73 =>
            go_simp
            refine (insert0 hzr).mono ?_
            rintro e2 wi ⟨gn, nc, rfl, hno, hb2⟩
            have hpo4 := hpo3.below hb2
            have hno2 := hno.mono (C := X.heap.size) (by have := hcur.size; exact this)
            clear hzr hpo3 hno
            have hcur2 : Below X.heap.size X wi := by first | exact hcur.trans (hb2.mono hcur.size) | exact hcur.drew.trans (hb2.mono hcur.drew.size)
            clear hcur hb2
            have hcur := hcur2
            clear hcur2
            clear hHeld
            refine hK.out _ _ ?hS74 (fun hHeld => ?rest74)
            case hS74 => (intro p hp hne; refine Below.cell (B := X.heap.size) ?_ hp; (repeat (first | with_reducible exact hcur | (with_reducible refine Below.drew ?_))))
            clear hK K
            try simp only [Act.put, List.setIfInBounds_toArray, List.set_cons_zero, List.set_cons_succ]
            refine takeD (i := 19) (d := some 90) (v := ?vT69) rfl rfl (by kernel_rfl) (by kernel_rfl) (by kernel_rfl) (fun _ _ _ h => h) (Or.inl ⟨by rfl, ?hyT69⟩) (by assumption) ?rstT69
            case hyT69 => (intro w hSw; (try dsimp only at hSw); go_simp; (try with_reducible rfl))
            try simp only [Act.put, List.setIfInBounds_toArray, List.set_cons_zero, List.set_cons_succ]
            refine takeD (i := 20) (d := some 91) (v := ?vT70) rfl rfl (by kernel_rfl) (by kernel_rfl) (by kernel_rfl) (fun _ _ _ h => h) (Or.inl ⟨by rfl, ?hyT70⟩) (by assumption) ?rstT70
            case hyT70 => (intro w hSw; (try dsimp only at hSw); go_simp; (try with_reducible rfl))
            try simp only [Act.put, List.setIfInBounds_toArray, List.set_cons_zero, List.set_cons_succ]
            refine wpAnyH_ready (rs := [21]) (by kernel_rfl) (by simp) (AllReadyH.cons rfl (fun K hK => ?b71) AllReadyH.nil)
            case b71 =>
              have hhi := ((hcur.block h lhX).trans hhX)
              obtain ⟨e0', e1', e2', e3'⟩ := box4 hhi
              have ff := Lib.frozen_of_heap hhi 1
              obtain ⟨W9, e9, hh9, hC9⟩ := setBox4 hhi 1 (.slice (some ⟨gn, 0, none⟩) 1 nc) #[.slice none 0 0, .slice (some ⟨gn, 0, none⟩) 1 nc, .map (some r), .int .i64 1] rfl
              go_simp
              try rw [e9]
              clear hHeld
              refine hK.out _ _ ?hS72 (fun hHeld => ?rest72)
              case hS72 => (intro p hp hne; exact (Chg.cell hC9 (by have := hcur.size; omega) hne).trans (hcur.cell hp))
              clear hK K
              try simp only [Act.put, List.setIfInBounds_toArray, List.set_cons_zero, List.set_cons_succ]
              refine wpAnyH_done (by kernel_rfl) ?_ _
              go_wp2_with fail
              go_meet
              case rel => exact ⟨pa, pc, gn, nc, hh9, hC9.own hno2 (fun g hg => by have := hno2.ge hg; omega), hC9.own hpo4 (fun g hg => by have := hpo4.ge hg; omega), hno2.ge rfl, (Chg.of_below hcur).trans hC9⟩
  case rest =>
    obtain ⟨X2, rfl⟩ : ∃ x, x = wc := ⟨_, rfl⟩
    obtain ⟨pa, pc, gn, nc, hh2, hno, hpo, hgn, hCX2⟩ := hcut
    clear q0 q1 q2 q3 q4 q5 q6 q7 q8 z0 z1 z2 z3 z4 z5 z6 z7 z8 HCV hcur
    have hqX2 := hCX2.block hqX hqh
    have hfX2 := hCX2.block hfX hfh
    have HBX2 : Hid (∀ W, Below X2.heap.size X2 W → Bar W) := fun W hb => ((HBX.out _ (Below.refl _ _)).chg hCX2 (fun e => hbh e.symm)).below hb
    have hszX := hCX.size
    have hszX2 := hCX2.size
    have HSET : Hid (Chg (fun g => g = h) w13 X2) := hCX.trans hCX2
    clear hhX lqX lfX lhX HBX hCX hCX2 hqX hfX
    obtain ⟨X, rfl⟩ : ∃ x, x = X2 := ⟨_, rfl⟩
    have hhX := hh2
    obtain ⟨q0, q1, q2, q3, q4, q5, q6, q7, q8⟩ := box9 hqX2
    have lqX := (Array.getElem?_eq_some_iff.1 hqX2).1
    have lhX := (Array.getElem?_eq_some_iff.1 hhX).1
    have HCL : Hid (∀ W, Below X.heap.size X W → Calls Tryd.prog 39 #[.agg #[.int .i64 c, .int .i64 n, .int .i64 1, .int .i64 0, .string xB, .slice none 0 0, .int .i64 0, .int .i64 0, .bool false]] W fun e w' => ∃ ra rc, e = .returned (.agg #[.int .i64 c, .int .i64 n, .int .i64 1, .int .i64 0, .string xB, .slice ra 0 rc, .int .i64 0, .int .i64 0, .bool false]) ∧ OwnF rangeV 2 132 w' W.heap.size (.slice ra 0 rc) [] ∧ Below W.heap.size W w') := fun W hb => (opClone_any (o := oX c n) (a := none) (m := 0) (cap := 0) (rng_of_rw (rw_nil W)) (by omega) (show xB.size ≤ _ by decide)).mono fun e2 w5 ⟨a', cap', he, ho5, hb5⟩ => ⟨a', cap', he, ho5.mono (by omega), hb5⟩
    have hcur : Below X.heap.size X X := Below.refl _ _
    go_wp2_with fail
    go_cut [104] (fun _ wx => ∃ (ra : Option Addr) (rc : Nat) (a7 : Option Addr) (cap7 : Nat), wx.heap[h]? = some (.cells #[.slice a7 1 cap7, .slice (some ⟨gn, 0, none⟩) 1 nc, .map (some r), .int .i64 1] 78) ∧ OwnF opF 9 70 wx X.heap.size (.slice a7 1 cap7) [(oX c n, (ra, 0, rc))] ∧ Chg (fun g => g = h) X wx)
    case first =>
      refine wp_region_held_drew (S := (fun W => ∀ p : Addr, p.block < X.heap.size → p.block ≠ h → W.cell? p = X.cell? p)) (by kernel_rfl) ?hS85 (fun hHeld => ?rest85)
      case hS85 => (intro p hp hne; refine Below.cell (B := X.heap.size) ?_ hp; (repeat (first | with_reducible exact hcur | (with_reducible refine Below.drew ?_))))
      refine takeD (i := 0) (d := some 92) (v := ?vT86) rfl rfl (by kernel_rfl) (by kernel_rfl) (by kernel_rfl) (fun _ _ _ h => h) (Or.inl ⟨by rfl, ?hyT86⟩) (by assumption) ?rstT86
      case hyT86 => (intro w hSw; (try dsimp only at hSw); go_simp; (try with_reducible rfl))
      try simp only [Act.put, List.setIfInBounds_toArray, List.set_cons_zero, List.set_cons_succ]
      refine takeD (i := 1) (d := some 93) (v := ?vT87) rfl rfl (by kernel_rfl) (by kernel_rfl) (by kernel_rfl) (fun _ _ _ h => h) (Or.inl ⟨by rfl, ?hyT87⟩) (by assumption) ?rstT87
      case hyT87 => (intro w hSw; (try dsimp only at hSw); go_simp; (try with_reducible rfl))
      try simp only [Act.put, List.setIfInBounds_toArray, List.set_cons_zero, List.set_cons_succ]
      refine takeD (i := 2) (d := some 94) (v := ?vT88) rfl rfl (by kernel_rfl) (by kernel_rfl) (by kernel_rfl) (fun _ _ _ h => h) (Or.inl ⟨by rfl, ?hyT88⟩) (by assumption) ?rstT88
      case hyT88 => (intro w hSw; (try dsimp only at hSw); go_simp; (try with_reducible rfl))
      try simp only [Act.put, List.setIfInBounds_toArray, List.set_cons_zero, List.set_cons_succ]
      refine takeD (i := 3) (d := some 95) (v := ?vT89) rfl rfl (by kernel_rfl) (by kernel_rfl) (by kernel_rfl) (fun _ _ _ h => h) (Or.inl ⟨by rfl, ?hyT89⟩) (by assumption) ?rstT89
      case hyT89 => (intro w hSw; (try dsimp only at hSw); go_simp; (try with_reducible rfl))
      try simp only [Act.put, List.setIfInBounds_toArray, List.set_cons_zero, List.set_cons_succ]
      refine takeD (i := 5) (d := some 97) (v := ?vT90) rfl rfl (by kernel_rfl) (by kernel_rfl) (by kernel_rfl) (fun _ _ _ h => h) (Or.inl ⟨by rfl, ?hyT90⟩) (by assumption) ?rstT90
      case hyT90 => (intro w hSw; (try dsimp only at hSw); go_simp; (try with_reducible rfl))
      try simp only [Act.put, List.setIfInBounds_toArray, List.set_cons_zero, List.set_cons_succ]
      refine takeD (i := 7) (d := some 99) (v := ?vT91) rfl rfl (by kernel_rfl) (by kernel_rfl) (by kernel_rfl) (fun _ _ _ h => h) (Or.inl ⟨by rfl, ?hyT91⟩) (by assumption) ?rstT91
      case hyT91 => (intro w hSw; (try dsimp only at hSw); go_simp; (try with_reducible rfl))
      try simp only [Act.put, List.setIfInBounds_toArray, List.set_cons_zero, List.set_cons_succ]
      refine takeD (i := 11) (d := some 103) (v := ?vT92) rfl rfl (by kernel_rfl) (by kernel_rfl) (by kernel_rfl) (fun _ _ _ h => h) (Or.inl ⟨by rfl, ?hyT92⟩) (by assumption) ?rstT92
      case hyT92 => (intro w hSw; (try dsimp only at hSw); go_simp; (try with_reducible rfl))
      try simp only [Act.put, List.setIfInBounds_toArray, List.set_cons_zero, List.set_cons_succ]
      refine wpAnyH_ready (rs := [4, 8]) (by kernel_rfl) (by simp) (AllReadyH.cons rfl (fun K hK => ?b132) (AllReadyH.cons rfl (fun K hK => ?b133) AllReadyH.nil))
      case b132 =>
        have hl1 := (box4 ((hcur.block h lhX).trans hhX)).1
        go_simp
        clear hHeld
        refine hK.out _ _ ?hS134 (fun hHeld => ?rest134)
        case hS134 => (intro p hp hne; refine Below.cell (B := X.heap.size) ?_ hp; (repeat (first | with_reducible exact hcur | (with_reducible refine Below.drew ?_))))
        clear hK K
        try simp only [Act.put, List.setIfInBounds_toArray, List.set_cons_zero, List.set_cons_succ]
        refine takeD (i := 6) (d := some 98) (v := ?vT93) rfl rfl (by kernel_rfl) (by kernel_rfl) (by kernel_rfl) (fun _ _ _ h => h) (Or.inl ⟨by rfl, ?hyT93⟩) (by assumption) ?rstT93
        case hyT93 => (intro w hSw; (try dsimp only at hSw); go_simp; (try with_reducible rfl))
        try simp only [Act.put, List.setIfInBounds_toArray, List.set_cons_zero, List.set_cons_succ]
        refine wpAnyH_ready (rs := [8]) (by kernel_rfl) (by simp) (AllReadyH.cons rfl (fun K hK => ?b104) AllReadyH.nil)
        case b104 =>
          go_simp
          refine (HCL.out _ ?_).mono ?_
          · first | exact hcur | exact hcur.drew
          rintro e2 wc ⟨ra, rc, rfl, hro, hb2⟩
          clear hro
          have hcur2 : Below X.heap.size X wc := by first | exact hcur.trans (hb2.mono hcur.size) | exact hcur.drew.trans (hb2.mono hcur.drew.size)
          clear hcur hb2
          have hcur := hcur2
          clear hcur2
          clear hHeld
          refine hK.out _ _ ?hS105 (fun hHeld => ?rest105)
          case hS105 => (intro p hp hne; refine Below.cell (B := X.heap.size) ?_ hp; (repeat (first | with_reducible exact hcur | (with_reducible refine Below.drew ?_))))
          clear hK K
          try simp only [Act.put, List.setIfInBounds_toArray, List.set_cons_zero, List.set_cons_succ]
          refine wpAnyH_ready (rs := [9]) (by kernel_rfl) (by simp) (AllReadyH.cons rfl (fun K hK => ?b102) AllReadyH.nil)
          case b102 =>
            go_simp
            obtain ⟨wz, hwz⟩ : ∃ wz, wc.alloc (.cells #[.int .i64 c, .int .i64 n, .int .i64 1, .int .i64 0, .string xB, .slice ra 0 rc, .int .i64 0, .int .i64 0, .bool false] 70) = wz := ⟨_, rfl⟩
            rw [hwz]
            have hb2 : Below wc.heap.size wc wz := by rw [← hwz]; exact (Below.refl _ _).alloc (Nat.le_refl _) _
            have hzr : Rw opF 9 wz (some ⟨wc.heap.size, 0, none⟩) 1 1 [(oX c n, (ra, 0, rc))] := by rw [← hwz]; exact rw_lit wc (oX c n, (ra, 0, rc)) _ rfl _
            clear hwz
            have hcur2 : Below X.heap.size X wz := by first | exact hcur.trans (hb2.mono hcur.size) | exact hcur.drew.trans (hb2.mono hcur.drew.size)
            clear hcur hb2
            have hcur := hcur2
            clear hcur2
            clear hHeld
            refine hK.out _ _ ?hS103 (fun hHeld => ?rest103)
            case hS103 => (intro p hp hne; refine Below.cell (B := X.heap.size) ?_ hp; (repeat (first | with_reducible exact hcur | (with_reducible refine Below.drew ?_))))
            clear hK K
            try simp only [Act.put, List.setIfInBounds_toArray, List.set_cons_zero, List.set_cons_succ]
            refine wpAnyH_ready (rs := [10]) (by kernel_rfl) (by simp) (AllReadyH.cons rfl (fun K hK => ?b100) AllReadyH.nil)
            case b100 =>
              obtain ⟨g6, cap6, w6, hr6, ho6, hb6, _⟩ := appendF kindO layO (ownF_nil wz X.heap.size) hcur.size hzr (by omega) (by simp) (by simp) 75
              simp only [List.length_nil, List.nil_append, Nat.zero_add] at hr6 ho6
              rw [if_pos (by rfl)]
              refine wp_append_hr (.tmp 98) (.tmp 101) 75 (some 102) rfl rfl _ _ rfl rfl hr6 ?_
              have hcur2 : Below X.heap.size X w6 := hcur.trans hb6
              clear hcur hb6 hr6 hzr
              have hcur := hcur2
              clear hcur2
              clear hHeld
              refine hK.out _ _ ?hS101 (fun hHeld => ?rest101)
              case hS101 => (intro p hp hne; refine Below.cell (B := X.heap.size) ?_ hp; (repeat (first | with_reducible exact hcur | (with_reducible refine Below.drew ?_))))
              clear hK K
              try simp only [Act.put, List.setIfInBounds_toArray, List.set_cons_zero, List.set_cons_succ]
              refine wpAnyH_ready (rs := [12]) (by kernel_rfl) (by simp) (AllReadyH.cons rfl (fun K hK => ?b98) AllReadyH.nil)
              case b98 =>
                obtain ⟨a7, cap7, w7, hr7, ho7, hb7, _⟩ := appendF_all kindO layO ho6 hcur.size (rw_empty a2 hc2) (by simp) (by simp) 75
                simp only [List.length_cons, List.length_nil, Nat.zero_add, Nat.add_zero, List.append_nil] at hr7 ho7
                rw [if_pos (by rfl)]
                refine wp_append_hr (.tmp 102) (.tmp 103) 75 (some 104) rfl rfl _ _ rfl rfl hr7 ?_
                have hcur2 : Below X.heap.size X w7 := hcur.trans hb7
                clear hcur hb7 hr7 ho6
                have hcur := hcur2
                clear hcur2
                clear hHeld
                refine hK.out _ _ ?hS99 (fun hHeld => ?rest99)
                case hS99 => (intro p hp hne; refine Below.cell (B := X.heap.size) ?_ hp; (repeat (first | with_reducible exact hcur | (with_reducible refine Below.drew ?_))))
                clear hK K
                try simp only [Act.put, List.setIfInBounds_toArray, List.set_cons_zero, List.set_cons_succ]
                refine takeD (i := 13) (d := some 105) (v := ?vT94) rfl rfl (by kernel_rfl) (by kernel_rfl) (by kernel_rfl) (fun _ _ _ h => h) (Or.inl ⟨by rfl, ?hyT94⟩) (by assumption) ?rstT94
                case hyT94 => (intro w hSw; (try dsimp only at hSw); go_simp; (try with_reducible rfl))
                try simp only [Act.put, List.setIfInBounds_toArray, List.set_cons_zero, List.set_cons_succ]
                refine takeD (i := 14) (d := some 106) (v := ?vT95) rfl rfl (by kernel_rfl) (by kernel_rfl) (by kernel_rfl) (fun _ _ _ h => h) (Or.inl ⟨by rfl, ?hyT95⟩) (by assumption) ?rstT95
                case hyT95 => (intro w hSw; (try dsimp only at hSw); go_simp; (try with_reducible rfl))
                try simp only [Act.put, List.setIfInBounds_toArray, List.set_cons_zero, List.set_cons_succ]
                refine wpAnyH_ready (rs := [15]) (by kernel_rfl) (by simp) (AllReadyH.cons rfl (fun K hK => ?b96) AllReadyH.nil)
                case b96 =>
                  have hhi := ((hcur.block h lhX).trans hhX)
                  obtain ⟨e0', e1', e2', e3'⟩ := box4 hhi
                  have ff := Lib.frozen_of_heap hhi 0
                  obtain ⟨W9, e9, hh9, hC9⟩ := setBox4 hhi 0 (.slice a7 1 cap7) #[.slice a7 1 cap7, .slice (some ⟨gn, 0, none⟩) 1 nc, .map (some r), .int .i64 1] rfl
                  go_simp
                  try rw [e9]
                  clear hHeld
                  refine hK.out _ _ ?hS97 (fun hHeld => ?rest97)
                  case hS97 => (intro p hp hne; exact (Chg.cell hC9 (by have := hcur.size; omega) hne).trans (hcur.cell hp))
                  clear hK K
                  try simp only [Act.put, List.setIfInBounds_toArray, List.set_cons_zero, List.set_cons_succ]
                  refine wpAnyH_done (by kernel_rfl) ?_ _
                  go_wp2_with fail
                  go_meet
                  case rel => exact ⟨ra, rc, a7, cap7, hh9, hC9.own ho7 (fun g hg => by have := ho7.ge hg; omega), (Chg.of_below hcur).trans hC9⟩
      case b133 =>
        go_simp
        refine (HCL.out _ ?_).mono ?_
        · first | exact hcur | exact hcur.drew
        rintro e2 wc ⟨ra, rc, rfl, hro, hb2⟩
        clear hro
        have hcur2 : Below X.heap.size X wc := by first | exact hcur.trans (hb2.mono hcur.size) | exact hcur.drew.trans (hb2.mono hcur.drew.size)
        clear hcur hb2
        have hcur := hcur2
        clear hcur2
        clear hHeld
        refine hK.out _ _ ?hS135 (fun hHeld => ?rest135)
        case hS135 => (intro p hp hne; refine Below.cell (B := X.heap.size) ?_ hp; (repeat (first | with_reducible exact hcur | (with_reducible refine Below.drew ?_))))
        clear hK K
        try simp only [Act.put, List.setIfInBounds_toArray, List.set_cons_zero, List.set_cons_succ]
        refine wpAnyH_ready (rs := [4, 9]) (by kernel_rfl) (by simp) (AllReadyH.cons rfl (fun K hK => ?b128) (AllReadyH.cons rfl (fun K hK => ?b129) AllReadyH.nil))
        case b128 =>
          have hl1 := (box4 ((hcur.block h lhX).trans hhX)).1
          go_simp
          clear hHeld
          refine hK.out _ _ ?hS130 (fun hHeld => ?rest130)
          case hS130 => (intro p hp hne; refine Below.cell (B := X.heap.size) ?_ hp; (repeat (first | with_reducible exact hcur | (with_reducible refine Below.drew ?_))))
          clear hK K
          try simp only [Act.put, List.setIfInBounds_toArray, List.set_cons_zero, List.set_cons_succ]
          refine takeD (i := 6) (d := some 98) (v := ?vT106) rfl rfl (by kernel_rfl) (by kernel_rfl) (by kernel_rfl) (fun _ _ _ h => h) (Or.inl ⟨by rfl, ?hyT106⟩) (by assumption) ?rstT106
          case hyT106 => (intro w hSw; (try dsimp only at hSw); go_simp; (try with_reducible rfl))
          try simp only [Act.put, List.setIfInBounds_toArray, List.set_cons_zero, List.set_cons_succ]
          refine wpAnyH_ready (rs := [9]) (by kernel_rfl) (by simp) (AllReadyH.cons rfl (fun K hK => ?b115) AllReadyH.nil)
          case b115 =>
            go_simp
            obtain ⟨wz, hwz⟩ : ∃ wz, wc.alloc (.cells #[.int .i64 c, .int .i64 n, .int .i64 1, .int .i64 0, .string xB, .slice ra 0 rc, .int .i64 0, .int .i64 0, .bool false] 70) = wz := ⟨_, rfl⟩
            rw [hwz]
            have hb2 : Below wc.heap.size wc wz := by rw [← hwz]; exact (Below.refl _ _).alloc (Nat.le_refl _) _
            have hzr : Rw opF 9 wz (some ⟨wc.heap.size, 0, none⟩) 1 1 [(oX c n, (ra, 0, rc))] := by rw [← hwz]; exact rw_lit wc (oX c n, (ra, 0, rc)) _ rfl _
            clear hwz
            have hcur2 : Below X.heap.size X wz := by first | exact hcur.trans (hb2.mono hcur.size) | exact hcur.drew.trans (hb2.mono hcur.drew.size)
            clear hcur hb2
            have hcur := hcur2
            clear hcur2
            clear hHeld
            refine hK.out _ _ ?hS116 (fun hHeld => ?rest116)
            case hS116 => (intro p hp hne; refine Below.cell (B := X.heap.size) ?_ hp; (repeat (first | with_reducible exact hcur | (with_reducible refine Below.drew ?_))))
            clear hK K
            try simp only [Act.put, List.setIfInBounds_toArray, List.set_cons_zero, List.set_cons_succ]
            refine wpAnyH_ready (rs := [10]) (by kernel_rfl) (by simp) (AllReadyH.cons rfl (fun K hK => ?b113) AllReadyH.nil)
            case b113 =>
              obtain ⟨g6, cap6, w6, hr6, ho6, hb6, _⟩ := appendF kindO layO (ownF_nil wz X.heap.size) hcur.size hzr (by omega) (by simp) (by simp) 75
              simp only [List.length_nil, List.nil_append, Nat.zero_add] at hr6 ho6
              rw [if_pos (by rfl)]
              refine wp_append_hr (.tmp 98) (.tmp 101) 75 (some 102) rfl rfl _ _ rfl rfl hr6 ?_
              have hcur2 : Below X.heap.size X w6 := hcur.trans hb6
              clear hcur hb6 hr6 hzr
              have hcur := hcur2
              clear hcur2
              clear hHeld
              refine hK.out _ _ ?hS114 (fun hHeld => ?rest114)
              case hS114 => (intro p hp hne; refine Below.cell (B := X.heap.size) ?_ hp; (repeat (first | with_reducible exact hcur | (with_reducible refine Below.drew ?_))))
              clear hK K
              try simp only [Act.put, List.setIfInBounds_toArray, List.set_cons_zero, List.set_cons_succ]
              refine wpAnyH_ready (rs := [12]) (by kernel_rfl) (by simp) (AllReadyH.cons rfl (fun K hK => ?b111) AllReadyH.nil)
              case b111 =>
                obtain ⟨a7, cap7, w7, hr7, ho7, hb7, _⟩ := appendF_all kindO layO ho6 hcur.size (rw_empty a2 hc2) (by simp) (by simp) 75
                simp only [List.length_cons, List.length_nil, Nat.zero_add, Nat.add_zero, List.append_nil] at hr7 ho7
                rw [if_pos (by rfl)]
                refine wp_append_hr (.tmp 102) (.tmp 103) 75 (some 104) rfl rfl _ _ rfl rfl hr7 ?_
                have hcur2 : Below X.heap.size X w7 := hcur.trans hb7
                clear hcur hb7 hr7 ho6
                have hcur := hcur2
                clear hcur2
                clear hHeld
                refine hK.out _ _ ?hS112 (fun hHeld => ?rest112)
                case hS112 => (intro p hp hne; refine Below.cell (B := X.heap.size) ?_ hp; (repeat (first | with_reducible exact hcur | (with_reducible refine Below.drew ?_))))
                clear hK K
                try simp only [Act.put, List.setIfInBounds_toArray, List.set_cons_zero, List.set_cons_succ]
                refine takeD (i := 13) (d := some 105) (v := ?vT107) rfl rfl (by kernel_rfl) (by kernel_rfl) (by kernel_rfl) (fun _ _ _ h => h) (Or.inl ⟨by rfl, ?hyT107⟩) (by assumption) ?rstT107
                case hyT107 => (intro w hSw; (try dsimp only at hSw); go_simp; (try with_reducible rfl))
                try simp only [Act.put, List.setIfInBounds_toArray, List.set_cons_zero, List.set_cons_succ]
                refine takeD (i := 14) (d := some 106) (v := ?vT108) rfl rfl (by kernel_rfl) (by kernel_rfl) (by kernel_rfl) (fun _ _ _ h => h) (Or.inl ⟨by rfl, ?hyT108⟩) (by assumption) ?rstT108
                case hyT108 => (intro w hSw; (try dsimp only at hSw); go_simp; (try with_reducible rfl))
                try simp only [Act.put, List.setIfInBounds_toArray, List.set_cons_zero, List.set_cons_succ]
                refine wpAnyH_ready (rs := [15]) (by kernel_rfl) (by simp) (AllReadyH.cons rfl (fun K hK => ?b109) AllReadyH.nil)
                case b109 =>
                  have hhi := ((hcur.block h lhX).trans hhX)
                  obtain ⟨e0', e1', e2', e3'⟩ := box4 hhi
                  have ff := Lib.frozen_of_heap hhi 0
                  obtain ⟨W9, e9, hh9, hC9⟩ := setBox4 hhi 0 (.slice a7 1 cap7) #[.slice a7 1 cap7, .slice (some ⟨gn, 0, none⟩) 1 nc, .map (some r), .int .i64 1] rfl
                  go_simp
                  try rw [e9]
                  clear hHeld
                  refine hK.out _ _ ?hS110 (fun hHeld => ?rest110)
                  case hS110 => (intro p hp hne; exact (Chg.cell hC9 (by have := hcur.size; omega) hne).trans (hcur.cell hp))
                  clear hK K
                  try simp only [Act.put, List.setIfInBounds_toArray, List.set_cons_zero, List.set_cons_succ]
                  refine wpAnyH_done (by kernel_rfl) ?_ _
                  go_wp2_with fail
                  go_meet
                  case rel => exact ⟨ra, rc, a7, cap7, hh9, hC9.own ho7 (fun g hg => by have := ho7.ge hg; omega), (Chg.of_below hcur).trans hC9⟩
        case b129 =>
          go_simp
          obtain ⟨wz, hwz⟩ : ∃ wz, wc.alloc (.cells #[.int .i64 c, .int .i64 n, .int .i64 1, .int .i64 0, .string xB, .slice ra 0 rc, .int .i64 0, .int .i64 0, .bool false] 70) = wz := ⟨_, rfl⟩
          rw [hwz]
          have hb2 : Below wc.heap.size wc wz := by rw [← hwz]; exact (Below.refl _ _).alloc (Nat.le_refl _) _
          have hzr : Rw opF 9 wz (some ⟨wc.heap.size, 0, none⟩) 1 1 [(oX c n, (ra, 0, rc))] := by rw [← hwz]; exact rw_lit wc (oX c n, (ra, 0, rc)) _ rfl _
          clear hwz
          have hcur2 : Below X.heap.size X wz := by first | exact hcur.trans (hb2.mono hcur.size) | exact hcur.drew.trans (hb2.mono hcur.drew.size)
          clear hcur hb2
          have hcur := hcur2
          clear hcur2
          clear hHeld
          refine hK.out _ _ ?hS131 (fun hHeld => ?rest131)
          case hS131 => (intro p hp hne; refine Below.cell (B := X.heap.size) ?_ hp; (repeat (first | with_reducible exact hcur | (with_reducible refine Below.drew ?_))))
          clear hK K
          try simp only [Act.put, List.setIfInBounds_toArray, List.set_cons_zero, List.set_cons_succ]
          refine wpAnyH_ready (rs := [4]) (by kernel_rfl) (by simp) (AllReadyH.cons rfl (fun K hK => ?b126) AllReadyH.nil)
          case b126 =>
            have hl1 := (box4 ((hcur.block h lhX).trans hhX)).1
            go_simp
            clear hHeld
            refine hK.out _ _ ?hS127 (fun hHeld => ?rest127)
            case hS127 => (intro p hp hne; refine Below.cell (B := X.heap.size) ?_ hp; (repeat (first | with_reducible exact hcur | (with_reducible refine Below.drew ?_))))
            clear hK K
            try simp only [Act.put, List.setIfInBounds_toArray, List.set_cons_zero, List.set_cons_succ]
            refine takeD (i := 6) (d := some 98) (v := ?vT117) rfl rfl (by kernel_rfl) (by kernel_rfl) (by kernel_rfl) (fun _ _ _ h => h) (Or.inl ⟨by rfl, ?hyT117⟩) (by assumption) ?rstT117
            case hyT117 => (intro w hSw; (try dsimp only at hSw); go_simp; (try with_reducible rfl))
            try simp only [Act.put, List.setIfInBounds_toArray, List.set_cons_zero, List.set_cons_succ]
            refine wpAnyH_ready (rs := [10]) (by kernel_rfl) (by simp) (AllReadyH.cons rfl (fun K hK => ?b124) AllReadyH.nil)
            case b124 =>
              obtain ⟨g6, cap6, w6, hr6, ho6, hb6, _⟩ := appendF kindO layO (ownF_nil wz X.heap.size) hcur.size hzr (by omega) (by simp) (by simp) 75
              simp only [List.length_nil, List.nil_append, Nat.zero_add] at hr6 ho6
              rw [if_pos (by rfl)]
              refine wp_append_hr (.tmp 98) (.tmp 101) 75 (some 102) rfl rfl _ _ rfl rfl hr6 ?_
              have hcur2 : Below X.heap.size X w6 := hcur.trans hb6
              clear hcur hb6 hr6 hzr
              have hcur := hcur2
              clear hcur2
              clear hHeld
              refine hK.out _ _ ?hS125 (fun hHeld => ?rest125)
              case hS125 => (intro p hp hne; refine Below.cell (B := X.heap.size) ?_ hp; (repeat (first | with_reducible exact hcur | (with_reducible refine Below.drew ?_))))
              clear hK K
              try simp only [Act.put, List.setIfInBounds_toArray, List.set_cons_zero, List.set_cons_succ]
              refine wpAnyH_ready (rs := [12]) (by kernel_rfl) (by simp) (AllReadyH.cons rfl (fun K hK => ?b122) AllReadyH.nil)
              case b122 =>
                obtain ⟨a7, cap7, w7, hr7, ho7, hb7, _⟩ := appendF_all kindO layO ho6 hcur.size (rw_empty a2 hc2) (by simp) (by simp) 75
                simp only [List.length_cons, List.length_nil, Nat.zero_add, Nat.add_zero, List.append_nil] at hr7 ho7
                rw [if_pos (by rfl)]
                refine wp_append_hr (.tmp 102) (.tmp 103) 75 (some 104) rfl rfl _ _ rfl rfl hr7 ?_
                have hcur2 : Below X.heap.size X w7 := hcur.trans hb7
                clear hcur hb7 hr7 ho6
                have hcur := hcur2
                clear hcur2
                clear hHeld
                refine hK.out _ _ ?hS123 (fun hHeld => ?rest123)
                case hS123 => (intro p hp hne; refine Below.cell (B := X.heap.size) ?_ hp; (repeat (first | with_reducible exact hcur | (with_reducible refine Below.drew ?_))))
                clear hK K
                try simp only [Act.put, List.setIfInBounds_toArray, List.set_cons_zero, List.set_cons_succ]
                refine takeD (i := 13) (d := some 105) (v := ?vT118) rfl rfl (by kernel_rfl) (by kernel_rfl) (by kernel_rfl) (fun _ _ _ h => h) (Or.inl ⟨by rfl, ?hyT118⟩) (by assumption) ?rstT118
                case hyT118 => (intro w hSw; (try dsimp only at hSw); go_simp; (try with_reducible rfl))
                try simp only [Act.put, List.setIfInBounds_toArray, List.set_cons_zero, List.set_cons_succ]
                refine takeD (i := 14) (d := some 106) (v := ?vT119) rfl rfl (by kernel_rfl) (by kernel_rfl) (by kernel_rfl) (fun _ _ _ h => h) (Or.inl ⟨by rfl, ?hyT119⟩) (by assumption) ?rstT119
                case hyT119 => (intro w hSw; (try dsimp only at hSw); go_simp; (try with_reducible rfl))
                try simp only [Act.put, List.setIfInBounds_toArray, List.set_cons_zero, List.set_cons_succ]
                refine wpAnyH_ready (rs := [15]) (by kernel_rfl) (by simp) (AllReadyH.cons rfl (fun K hK => ?b120) AllReadyH.nil)
                case b120 =>
                  have hhi := ((hcur.block h lhX).trans hhX)
                  obtain ⟨e0', e1', e2', e3'⟩ := box4 hhi
                  have ff := Lib.frozen_of_heap hhi 0
                  obtain ⟨W9, e9, hh9, hC9⟩ := setBox4 hhi 0 (.slice a7 1 cap7) #[.slice a7 1 cap7, .slice (some ⟨gn, 0, none⟩) 1 nc, .map (some r), .int .i64 1] rfl
                  go_simp
                  try rw [e9]
                  clear hHeld
                  refine hK.out _ _ ?hS121 (fun hHeld => ?rest121)
                  case hS121 => (intro p hp hne; exact (Chg.cell hC9 (by have := hcur.size; omega) hne).trans (hcur.cell hp))
                  clear hK K
                  try simp only [Act.put, List.setIfInBounds_toArray, List.set_cons_zero, List.set_cons_succ]
                  refine wpAnyH_done (by kernel_rfl) ?_ _
                  go_wp2_with fail
                  go_meet
                  case rel => exact ⟨ra, rc, a7, cap7, hh9, hC9.own ho7 (fun g hg => by have := ho7.ge hg; omega), (Chg.of_below hcur).trans hC9⟩
    case rest =>
      obtain ⟨Y, rfl⟩ : ∃ x, x = wc := ⟨_, rfl⟩
      obtain ⟨ra, rc, a7, cap7, hhY, hoY, hCY⟩ := hcut
      clear q0 q1 q2 q3 q4 q5 q6 q7 q8 HCL hcur
      have hqY := hCY.block hqX2 hqh
      have hfY := hCY.block hfX2 hfh
      have hnoY := hCY.own hno (fun g hg => by have := hno.ge hg; omega)
      have hpoY := hCY.own hpo (fun g hg => by have := hpo.ge hg; omega)
      have hszY := hCY.size
      have HCW : Hid (Chg (fun g => g = h) w13 Y) := HSET.out.trans hCY
      obtain ⟨go, oc, e1, hgo, hgol, -⟩ := hoY.ptr (by simp)
      simp only [List.length_cons, List.length_nil, Value.slice.injEq] at e1
      obtain ⟨rfl, -, rfl⟩ := e1
      obtain ⟨g', off, x0, ha0, _, hx0, p0, p1, p2, -⟩ := (hoY.rw_ layO).at9 (Below.refl _ _) 0 (by omega)
      cases ha0
      simp only [List.getElem?_cons_zero, Option.some.injEq] at hx0
      subst hx0
      simp only [oX, Nat.zero_mul, Nat.zero_add, Nat.add_zero] at p0 p1 p2
      have hr13 : w13.heap[r]? = some (.map es ck) := (hP13.block r (by omega)).trans ((k2.block r hlr).trans HHR.out.1)
      have hrY : Y.heap[r]? = some (.map es ck) := HCW.out.block hr13 (fun e => hhr e.symm)
      have hE := HHR.out.2
      have HGO : Hid (X.heap.size ≤ go) := hgo
      clear hh2 hqX2 hfX2 hno hpo hhX lqX lhX HSET HBX2 hCY
      go_wp2_with fail
      go_loopw [14] (fun v14 W => (v14 = .int .i64 0 ∧ W = Y) ∨ (v14 = .int .i64 1 ∧ (∃ es' ck', W.heap[r]? = some (.map es' ck') ∧ Ents es'.toList [((c, n), 0)]) ∧ Chg (fun g => g = r) Y W)) (fun v14 _ => 1 - (RowKit.intOf v14).toNat)
      case atStart => exact .inl ⟨rfl, rfl⟩
      case round =>
        rcases hrel with ⟨rfl, rfl⟩ | ⟨rfl, hmY, hCr⟩
        · obtain ⟨Y, rfl⟩ : ∃ x, x = wr := ⟨_, rfl⟩
          obtain ⟨b0, b1, b2, b3⟩ := box4 hhY
          have lhY := (Array.getElem?_eq_some_iff.1 hhY).1
          have hgr : ¬ go = r := by have := HGO.out; omega
          go_wp2_with fail
          refine wp_region_held_drew (S := (fun W => ∀ p : Addr, p.block < Y.heap.size → p.block ≠ r → W.cell? p = Y.cell? p)) (by kernel_rfl) ?hS18 (fun hHeld => ?rest18)
          case hS18 => (intro p hp hne; rfl)
          refine takeD (i := 0) (d := some 117) (v := ?vT19) rfl rfl (by kernel_rfl) (by kernel_rfl) (by kernel_rfl) (fun _ _ _ h => h) (Or.inl ⟨by rfl, ?hyT19⟩) (by assumption) ?rstT19
          case hyT19 => (intro w hSw; (try dsimp only at hSw); go_simp; (try with_reducible rfl))
          try simp only [Act.put, List.setIfInBounds_toArray, List.set_cons_zero, List.set_cons_succ]
          refine takeD (i := 1) (d := some 118) (v := ?vT20) rfl rfl (by kernel_rfl) (by kernel_rfl) (by kernel_rfl) (fun _ _ _ h => h) (Or.inl ⟨by rfl, ?hyT20⟩) (by assumption) ?rstT20
          case hyT20 => (intro w hSw; (try dsimp only at hSw); go_simp; (try with_reducible rfl))
          try simp only [Act.put, List.setIfInBounds_toArray, List.set_cons_zero, List.set_cons_succ]
          refine takeD (i := 2) (d := some 119) (v := ?vT21) rfl rfl (by kernel_rfl) (by kernel_rfl) (by kernel_rfl) (fun _ _ _ h => h) (Or.inl ⟨by rfl, ?hyT21⟩) (by assumption) ?rstT21
          case hyT21 => (intro w hSw; (try dsimp only at hSw); go_simp; (try with_reducible rfl))
          try simp only [Act.put, List.setIfInBounds_toArray, List.set_cons_zero, List.set_cons_succ]
          refine takeD (i := 3) (d := some 120) (v := ?vT22) rfl rfl (by kernel_rfl) (by kernel_rfl) (by kernel_rfl) (fun _ _ _ h => h) (Or.inl ⟨by rfl, ?hyT22⟩) (by assumption) ?rstT22
          case hyT22 => (intro w hSw; (try dsimp only at hSw); go_simp; (try with_reducible rfl))
          try simp only [Act.put, List.setIfInBounds_toArray, List.set_cons_zero, List.set_cons_succ]
          refine takeD (i := 4) (d := some 121) (v := ?vT23) rfl rfl (by kernel_rfl) (by kernel_rfl) (by kernel_rfl) (fun _ _ _ h => h) (Or.inl ⟨by rfl, ?hyT23⟩) (by assumption) ?rstT23
          case hyT23 => (intro w hSw; (try dsimp only at hSw); go_simp; (try with_reducible rfl))
          try simp only [Act.put, List.setIfInBounds_toArray, List.set_cons_zero, List.set_cons_succ]
          refine takeD (i := 5) (d := some 122) (v := ?vT24) rfl rfl (by kernel_rfl) (by kernel_rfl) (by kernel_rfl) (fun _ _ _ h => h) (Or.inl ⟨by rfl, ?hyT24⟩) (by assumption) ?rstT24
          case hyT24 => (intro w hSw; (try dsimp only at hSw); go_simp; (try with_reducible rfl))
          try simp only [Act.put, List.setIfInBounds_toArray, List.set_cons_zero, List.set_cons_succ]
          refine takeD (i := 6) (d := some 123) (v := ?vT25) rfl rfl (by kernel_rfl) (by kernel_rfl) (by kernel_rfl) (fun _ _ _ h => h) (Or.inl ⟨by rfl, ?hyT25⟩) (by assumption) ?rstT25
          case hyT25 => (intro w hSw; (try dsimp only at hSw); go_simp; (try with_reducible rfl))
          try simp only [Act.put, List.setIfInBounds_toArray, List.set_cons_zero, List.set_cons_succ]
          refine takeD (i := 7) (d := some 124) (v := ?vT26) rfl rfl (by kernel_rfl) (by kernel_rfl) (by kernel_rfl) (fun _ _ _ h => h) (Or.inl ⟨by rfl, ?hyT26⟩) (by assumption) ?rstT26
          case hyT26 => (intro w hSw; (try dsimp only at hSw); go_simp; (try with_reducible rfl))
          try simp only [Act.put, List.setIfInBounds_toArray, List.set_cons_zero, List.set_cons_succ]
          refine takeD (i := 8) (d := some 125) (v := ?vT27) rfl rfl (by kernel_rfl) (by kernel_rfl) (by kernel_rfl) (fun _ _ _ h => h) (Or.inl ⟨by rfl, ?hyT27⟩) (by assumption) ?rstT27
          case hyT27 => (intro w hSw; (try dsimp only at hSw); go_simp; (try with_reducible rfl))
          try simp only [Act.put, List.setIfInBounds_toArray, List.set_cons_zero, List.set_cons_succ]
          refine takeD (i := 9) (d := some 126) (v := ?vT28) rfl rfl (by kernel_rfl) (by kernel_rfl) (by kernel_rfl) (fun _ _ _ h => h) (Or.inl ⟨by rfl, ?hyT28⟩) (by assumption) ?rstT28
          case hyT28 => (intro w hSw; (try dsimp only at hSw); go_simp; (try with_reducible rfl))
          try simp only [Act.put, List.setIfInBounds_toArray, List.set_cons_zero, List.set_cons_succ]
          refine takeD (i := 10) (d := some 127) (v := ?vT29) rfl rfl (by kernel_rfl) (by kernel_rfl) (by kernel_rfl) (fun _ _ _ h => h) (Or.inl ⟨by rfl, ?hyT29⟩) (by assumption) ?rstT29
          case hyT29 => (intro w hSw; (try dsimp only at hSw); go_simp; (try with_reducible rfl))
          try simp only [Act.put, List.setIfInBounds_toArray, List.set_cons_zero, List.set_cons_succ]
          refine takeD (i := 11) (d := some 128) (v := ?vT30) rfl rfl (by kernel_rfl) (by kernel_rfl) (by kernel_rfl) (fun _ _ _ h => h) (Or.inl ⟨by rfl, ?hyT30⟩) (by assumption) ?rstT30
          case hyT30 => (intro w hSw; (try dsimp only at hSw); go_simp; (try with_reducible rfl))
          try simp only [Act.put, List.setIfInBounds_toArray, List.set_cons_zero, List.set_cons_succ]
          refine takeD (i := 12) (d := some 129) (v := ?vT31) rfl rfl (by kernel_rfl) (by kernel_rfl) (by kernel_rfl) (fun _ _ _ h => h) (Or.inl ⟨by rfl, ?hyT31⟩) (by assumption) ?rstT31
          case hyT31 => (intro w hSw; (try dsimp only at hSw); go_simp; (try with_reducible rfl))
          try simp only [Act.put, List.setIfInBounds_toArray, List.set_cons_zero, List.set_cons_succ]
          refine takeD (i := 13) (d := some 130) (v := ?vT32) rfl rfl (by kernel_rfl) (by kernel_rfl) (by kernel_rfl) (fun _ _ _ h => h) (Or.inl ⟨by rfl, ?hyT32⟩) (by assumption) ?rstT32
          case hyT32 => (intro w hSw; (try dsimp only at hSw); go_simp; (try with_reducible rfl))
          try simp only [Act.put, List.setIfInBounds_toArray, List.set_cons_zero, List.set_cons_succ]
          refine wpAnyH_ready (rs := [14]) (by kernel_rfl) (by simp) ?_
          refine AllReadyH.cons rfl (fun K hK => ?_) AllReadyH.nil
          obtain ⟨wu, hru, hmu, hCu, hsu⟩ := run_update Y.drew (c, n) 0 r es ck [] hrY hE rfl
          simp only [idA] at hru
          go_simp
          clear hHeld
          refine hK.out _ _ ?hS33 (fun hHeld => ?rest33)
          case hS33 => (intro p hp hne; exact Chg.cell hCu hp hne)
          clear hK K
          try simp only [Act.put, List.setIfInBounds_toArray, List.set_cons_zero, List.set_cons_succ]
          refine wpAnyH_done (by kernel_rfl) ?_ _
          go_wp2_with fail
          go_roundw
          case rel => exact .inr ⟨rfl, hmu, (Chg.of_below (Below.refl _ _).drew).trans hCu⟩
          case measure => simp [RowKit.intOf]
        · have hhW := hCr.block hhY hhr
          obtain ⟨b0, b1, b2, b3⟩ := box4 hhW
          have hqr : ¬ w.heap.size = r := by omega
          have hfr : ¬ w5.heap.size = r := by omega
          have hsr : ¬ wa.heap.size = r := by omega
          have hsh : ¬ wa.heap.size = h := by omega
          have hqW := hCr.block hqY hqr
          have hfW := hCr.block hfY hfr
          have hsW := hCr.block (HCW.out.block ((hP13.block wa.heap.size (by omega)).trans hs2) hsh) hsr
          obtain ⟨q0, q1, q2, q3, q4, q5, q6, q7, q8⟩ := box9 hqW
          obtain ⟨z0, z1, z2, z3, z4, z5, z6, z7, z8⟩ := box9 hfW
          obtain ⟨s0, s1, s2, s3, s4, s5, s6, s7, s8⟩ := box9 hsW
          obtain ⟨y0, y1, y2, y3, y4, y5, y6, y7, y8⟩ := wr9 hsW
          obtain ⟨W9, e9, hs9, B9, K9⟩ := store9 hsW (Below.refl wa.heap.size wr) (Nat.le_refl _) (.int .i64 0) (.int .i64 0) (.int .i64 1) (.int .i64 0) (.string xB) (.slice xa 0 xc) (.int .i64 0) (.int .i64 0) (.bool false)
          obtain ⟨r0, r1, r2, r3, r4, r5, r6, r7, r8⟩ := box9 hs9
          go_wp2_with fail
          try rw [e9]
          refine bodyPost_ret (v := .tuple #[opVal (oX 0 0) (.slice xa 0 xc), .int .i64 0]) (by simp [results, Tryd.results26, go_sem, opVal, oX, r0, r1, r2, r3, r4, r5, r6, r7, r8]) rfl ?_
          have hC9 : Chg (fun g => g = wa.heap.size) wr W9 := K9.chg (B9.mono (Nat.zero_le _))
          have hgo := HGO.out
          have hcR := hCr.size
          have hnoW := hC9.own (hCr.own hnoY (fun g hg => by have := hnoY.ge hg; omega)) (fun g hg => by have := hnoY.ge hg; omega)
          have hpoW := hC9.own (hCr.own hpoY (fun g hg => by have := hpoY.ge hg; omega)) (fun g hg => by have := hpoY.ge hg; omega)
          have hoW := hC9.own (hCr.own hoY (fun g hg => by have := hoY.ge hg; omega)) (fun g hg => by have := hoY.ge hg; omega)
          obtain ⟨es', ck', hm', hE'⟩ := hmY
          refine ⟨xa, xc, go, cap7, gn, nc, pa, pc, rfl, ⟨⟨hC9.block hhW (fun e => hsh e.symm), es', ck', hC9.block hm' (fun e => hsr e.symm), hE'⟩, rfl, rfl, by simp, fun x => ?_, fun i e he => ?_, fun i e he => ?_⟩, fun e he => ?_, by omega, by omega, fun ad e => by subst e; have := hpoY.ge rfl; omega, ?_⟩
          · simp only [findP, lookM, List.zipIdx_cons, List.zipIdx_nil, List.find?_cons, List.find?_nil, List.findIdx?_cons, List.findIdx?_nil]
            by_cases hx : ((c, n) == x) = true
            · simp [hx]
            · simp [hx]
          · obtain ⟨rfl, rfl⟩ : i = 0 ∧ e = ⟨(c, n), 1, true, pa, 1, pc, [(0, 1)]⟩ := by
              cases i with
              | zero => exact ⟨rfl, by simpa using he.symm⟩
              | succ i => simp at he
            obtain ⟨g', off, x0, ha0, hgl, hx0, -, -, p2, -⟩ := (hoW.rw_ layO).at9 (Below.refl _ _) 0 (by omega)
            cases ha0
            simp only [List.getElem?_cons_zero, Option.some.injEq] at hx0
            subst hx0
            exact ⟨_, _, rfl, hgl, p2⟩
          · obtain ⟨rfl, rfl⟩ : i = 0 ∧ e = ⟨(c, n), 1, true, pa, 1, pc, [(0, 1)]⟩ := by
              cases i with
              | zero => exact ⟨rfl, by simpa using he.symm⟩
              | succ i => simp at he
            obtain ⟨g', off, ha0, hgl, hcl⟩ := (hnoW.rw_ layN).cells (by omega)
            cases ha0
            exact ⟨_, _, rfl, hgl, hcl 0 _ rfl 0 _ rfl, hcl 0 _ rfl 1 _ rfl⟩
          · obtain rfl := List.mem_singleton.1 he
            exact ⟨hpoW.rw_ layI, by simp⟩
          · refine Chg.mono (D := fun g => g = h ∨ g = r ∨ w.heap.size ≤ g) (((Chg.of_below (k2.trans (hP13.mono k2.size))).trans (HCW.out.mono (fun g _ hg => .inl hg))).trans ((hCr.mono (fun g _ hg => .inr (.inl hg))).trans (hC9.mono (fun g _ hg => .inr (.inr (by omega)))))) (fun g hg hd => ?_)
            rcases hd with hd | hd | hd
            · exact .inl hd
            · exact .inr hd
            · omega
end Go.Proofs.YtokkodkhkpgebaaDoor
