import Derived.Test.YtfnpmncmceocdaaDoorPgR
/-! The column of a place. -/
namespace Go.Proofs.YtfnpmncmceocdaaDoor
open Go.RowKit Go.Lib Go.Shelf
set_option maxRecDepth 100000

/-- The column of a place. -/
def ColP (rs : List Int) (W at' c : Nat) : Prop := ∃ r lo hi hard, Stands rs W at' r lo hi hard ∧ c = wd rs lo at'
/-- A sheet in a box of its own, and its rows. -/
def SheetBox (rs : List Int) (W b : Nat) (s : ByteArray) (n : Int) (a : Option Addr) (k cap : Nat) (v : World) : Prop := v.heap[b]? = some (.cells #[.string s, .int .i64 n, .slice a k cap] 48) ∧ Sheet rs W v a k cap
section
variable {rs : List Int} {W b : Nat} {s : ByteArray} {n : Int} {a : Option Addr} {k cap : Nat} {u v : World}
theorem SheetBox.below (h : SheetBox rs W b s n a k cap u) (hb : Below u.heap.size u v) : SheetBox rs W b s n a k cap v :=
  ⟨(hb.block _ (Array.getElem?_eq_some_iff.1 h.1).1).trans h.1, h.2.below hb⟩
theorem SheetBox.setN (h : SheetBox rs W b s n a k cap u) {N : Nat} (hk : But N u v) (h1 : b ≠ N) (h2 : ∀ g, a = some g → g.block ≠ N) : SheetBox rs W b s n a k cap v :=
  ⟨hk.block h.1 h1, h.2.rows.chg (hk.chg (D := fun g => g = N) rfl) h2, h.2.len, h.2.few⟩
end
set_option maxHeartbeats 16000000 in
theorem column_any {s : ByteArray} {rs : List Int} (ht : IsText s rs) {W : Nat} {w : World} {a : Option Addr} {k cap : Nat} (h : Sheet rs W w a k cap) (hP : PTab w) (n : Int) (at' : Nat) (hat : at' ≤ rs.length) :
    Calls Tryd.prog 17 #[.agg #[.string s, .int .i64 n, .slice a k cap], .int .i64 (at' : Int)] w fun e w' => ∃ c : Nat, e = .returned (.int .i64 (c : Int)) ∧ ColP rs W at' c ∧ Below w.heap.size w w' := by
  have hfew := h.few
  obtain ⟨g, off, x0, rfl, hg, -⟩ := h.at (i := 0) (by have := h.len; have := List.length_pos_iff.2 (rowsP_ne rs W); omega)
  obtain ⟨w0, hw0⟩ : ∃ V, w.alloc (.cells #[.string s, .int .i64 n, .slice (some ⟨g, off, none⟩) k cap] 48) = V := ⟨_, rfl⟩
  have hb0 : Below w.heap.size w w0 := by rw [← hw0]; exact (Below.refl _ _).alloc (Nat.le_refl _) _
  have hx0 : SheetBox rs W w.heap.size s n (some ⟨g, off, none⟩) k cap w0 := ⟨by rw [← hw0]; exact heap_alloc_new _ _, h.below hb0⟩
  have HG : Hid (g < w.heap.size) := hg
  have HCell : Hid (∀ r lo hi hard, (rowsP rs W)[r]? = some ⟨lo, hi, hard⟩ → ∃ g' off', (some (⟨g, off, none⟩ : Addr)) = some ⟨g', off', none⟩ ∧ r < k ∧ True) := fun r lo hi hard hr => by
    obtain ⟨g', off', ea, hrk, _⟩ := h.cells hr
    exact ⟨g', off', ea, hrk, trivial⟩
  have HRo : Hid (∀ V, Below w.heap.size w V → Calls Tryd.prog 16 #[.agg #[.string s, .int .i64 n, .slice (some ⟨g, off, none⟩) k cap], .int .i64 (at' : Int)] V fun e w' => ∃ r lo hi hard, e = .returned (.int .i64 (r : Nat)) ∧ Stands rs W at' r lo hi hard ∧ Below V.heap.size V w') := fun V hV => rowOf_any (h.below hV) s n at'
  have HCol : Hid (∀ V, Below w.heap.size w V → ∀ r lo hi hard, Stands rs W at' r lo hi hard → Calls Tryd.prog 26 #[.agg #[.string s, .int .i64 n, .slice (some ⟨g, off, none⟩) k cap], rowArg rs lo hi hard] V fun e w' => ∃ a' cap', e = .returned (.slice a' (lastP hi hard - lo + 1) cap') ∧ Rw int1 1 w' a' (lastP hi hard - lo + 1) cap' (colsL rs lo (lastP hi hard - lo + 1)) ∧ Below V.heap.size V w') := fun V hV r lo hi hard hst => by
    obtain ⟨h1, h2, h3, _⟩ := rowP_ok hst.get
    exact columns_any ht hfew h1 h2 h3 (hP.below hV) n _ _ _
  obtain ⟨c0, c1, c2⟩ := box3 hx0.1
  clear h hP ht hg
  go_enter Tryd.func17, Tryd.ntmps17
  go_wp2_with fail
  obtain ⟨u0, hu0⟩ : ∃ V, w0.drew = V := ⟨_, rfl⟩
  have hb : Below w0.heap.size w0 u0 := by rw [← hu0]; exact (Below.refl _ _).drew
  have hs0 := hx0.below hb
  have hB0 := hb0.trans (hb.mono hb0.size)
  clear c0 c1 c2 hx0 hb0 hb
  refine wp_region_held_drew (S := SheetBox rs W w.heap.size s n (some ⟨g, off, none⟩) k cap) (by kernel_rfl) ?hSX (fun hHeld => ?restX)
  case hSX => (rw [hu0]; exact hs0)
  rw [hu0] at hHeld ⊢
  clear hu0 hw0
  refine takeD (i := 0) (d := some 6) (v := ?vT1) rfl rfl (by kernel_rfl) (by kernel_rfl) (by kernel_rfl) (fun _ _ _ h => h) (Or.inl ⟨by rfl, ?hyT1⟩) (by assumption) ?rstT1
  case hyT1 => (intro v hSw; obtain ⟨s0, s1, s2⟩ := box3 hSw.1; go_simp; (try with_reducible rfl))
  try simp only [Act.put, List.setIfInBounds_toArray, List.set_cons_zero, List.set_cons_succ]
  refine takeD (i := 1) (d := some 7) (v := ?vT2) rfl rfl (by kernel_rfl) (by kernel_rfl) (by kernel_rfl) (fun _ _ _ h => h) (Or.inl ⟨by rfl, ?hyT2⟩) (by assumption) ?rstT2
  case hyT2 => (intro v hSw; obtain ⟨s0, s1, s2⟩ := box3 hSw.1; go_simp; (try with_reducible rfl))
  try simp only [Act.put, List.setIfInBounds_toArray, List.set_cons_zero, List.set_cons_succ]
  refine takeD (i := 2) (d := some 8) (v := ?vT3) rfl rfl (by kernel_rfl) (by kernel_rfl) (by kernel_rfl) (fun _ _ _ h => h) (Or.inl ⟨by rfl, ?hyT3⟩) (by assumption) ?rstT3
  case hyT3 => (intro v hSw; obtain ⟨s0, s1, s2⟩ := box3 hSw.1; go_simp; (try with_reducible rfl))
  try simp only [Act.put, List.setIfInBounds_toArray, List.set_cons_zero, List.set_cons_succ]
  refine takeD (i := 3) (d := some 9) (v := ?vT4) rfl rfl (by kernel_rfl) (by kernel_rfl) (by kernel_rfl) (fun _ _ _ h => h) (Or.inl ⟨by rfl, ?hyT4⟩) (by assumption) ?rstT4
  case hyT4 => (intro v hSw; obtain ⟨s0, s1, s2⟩ := box3 hSw.1; go_simp; (try with_reducible rfl))
  try simp only [Act.put, List.setIfInBounds_toArray, List.set_cons_zero, List.set_cons_succ]
  refine wpAnyH_ready (rs := [4, 7]) (by kernel_rfl) (by simp) ?_
  refine AllReadyH.cons rfl (fun K hK => ?bA) (AllReadyH.cons rfl (fun K hK => ?bB) AllReadyH.nil)
  case bA =>
    go_simp
    refine (HRo.out u0 hB0).mono ?_
    rintro e u1 ⟨r, lo, hi, hard, rfl, hst, hb⟩
    have hgr := hst.get
    have hB1 := hB0.trans (hb.mono hB0.size)
    have hs1 := hs0.below hb
    dsimp only
    clear hHeld
    refine hK.out _ _ ?hS5 (fun hHeld => ?rest5)
    case hS5 => exact hs1
    clear hK K
    try simp only [Act.put, List.setIfInBounds_toArray, List.set_cons_zero, List.set_cons_succ]
    obtain ⟨g', off', ea, hrk, -⟩ := HCell.out r lo hi hard hgr
    simp only [Option.some.injEq, Addr.mk.injEq, and_true] at ea
    obtain ⟨rfl, rfl⟩ := ea
    refine takeD (i := 5) (d := some 11) (v := ?vT6) rfl rfl (by kernel_rfl) (by kernel_rfl) (by kernel_rfl) (fun _ _ _ h => h) (Or.inl ⟨by rfl, ?hyT6⟩) (by assumption) ?rstT6
    case hyT6 => (intro v hSw; go_simp; (try with_reducible rfl))
    try simp only [Act.put, List.setIfInBounds_toArray, List.set_cons_zero, List.set_cons_succ]
    refine takeD (i := 6) (d := some 12) (v := ?vT7) rfl rfl (by kernel_rfl) (by kernel_rfl) (by kernel_rfl) (fun _ _ _ h => h) (Or.inl ⟨by rfl, ?hyT7⟩) (by assumption) ?rstT7
    case hyT7 => (intro v hSw; obtain ⟨g', off', ea, hrk', e0, e1, e2, e3, e4, e5⟩ := hSw.2.cells hgr; simp only [Option.some.injEq, Addr.mk.injEq, and_true] at ea; obtain ⟨rfl, rfl⟩ := ea; go_simp; (try with_reducible rfl))
    try simp only [Act.put, List.setIfInBounds_toArray, List.set_cons_zero, List.set_cons_succ]
    refine wpAnyH_ready (rs := [7]) (by kernel_rfl) (by simp) ?_
    refine AllReadyH.cons rfl (fun K hK => ?_) AllReadyH.nil
    go_simp
    obtain ⟨u2, hv⟩ : ∃ V, u1.alloc (.cells #[.int .i64 0, .int .i64 0, .int .i64 0, .bool false, .int .i64 0, .int .i64 0] 56) = V := ⟨_, rfl⟩
    have hb : Below u1.heap.size u1 u2 := by rw [← hv]; exact (Below.refl _ _).alloc (Nat.le_refl _) _
    have hB2 := hB1.trans (hb.mono hB1.size)
    have hs2 := hs1.below hb
    have hN : u2.heap[u1.heap.size]? = some (.cells #[.int .i64 0, .int .i64 0, .int .i64 0, .bool false, .int .i64 0, .int .i64 0] 56) := by rw [← hv]; exact heap_alloc_new _ _
    have hNlo : w.heap.size < u1.heap.size := (Array.getElem?_eq_some_iff.1 hs1.1).1
    rw [hv]
    obtain ⟨N, hNe⟩ : ∃ N, u1.heap.size = N := ⟨_, rfl⟩
    rw [hNe] at hN hNlo ⊢
    clear hv hNe hb
    clear hHeld
    refine hK.out _ _ ?hS8 (fun hHeld => ?rest8)
    case hS8 => exact hs2
    clear hK K
    try simp only [Act.put, List.setIfInBounds_toArray, List.set_cons_zero, List.set_cons_succ]
    obtain ⟨u3, hu, hx, hk⟩ := store6 hN (.int .i64 (lo : Int)) (.int .i64 (hi : Int)) (.int .i64 ((wd rs lo hi : Nat) : Int)) (.bool hard) (.int .i64 ((posOf rs lo : Nat) : Int)) (.int .i64 ((posOf rs hi : Nat) : Int))
    refine wpAnyH_ready (rs := [8]) (by kernel_rfl) (by simp) ?_
    refine AllReadyH.cons rfl (fun K hK => ?_) AllReadyH.nil
    obtain ⟨z0, z1, z2, z3, z4, z5⟩ := wr6 hN
    obtain ⟨y0, y1, y2, y3, y4, y5⟩ := box6 hN
    go_simp
    try rw [hu]
    have hs3 := hs2.setN hk (by omega) (fun q hq e => by cases hq; have e : g = N := e; have := HG.out; omega)
    have hB3 : Below w.heap.size w u3 := hB2.trans ((hk.chg (D := fun g => g = N) rfl).below (fun g e => by omega) hB2.size)
    clear hHeld
    refine hK.out _ _ ?hS9 (fun hHeld => ?rest9)
    case hS9 => exact hs3
    clear hK K
    try simp only [Act.put, List.setIfInBounds_toArray, List.set_cons_zero, List.set_cons_succ]
    refine wpAnyH_done (by kernel_rfl) ?_ _
    obtain ⟨u8, hu8⟩ : ∃ V, u3.drew = V := ⟨_, rfl⟩
    have hb : Below u3.heap.size u3 u8 := by rw [← hu8]; exact (Below.refl _ _).drew
    have hX8 := hs3.below hb
    have hN8 := (hb.block _ (Array.getElem?_eq_some_iff.1 hx).1).trans hx
    have hB8 := hB3.trans (hb.mono hB3.size)
    have hle := hst.le
    have hlst := hst.last hat
    have HCo := HCol.out u8 hB8 r lo hi hard hst
    unfold rowArg rowVal at HCo
    have HSt : Hid (Stands rs W at' r lo hi hard) := hst
    obtain ⟨m, hm⟩ : ∃ m, lastP hi hard - lo + 1 = m := ⟨_, rfl⟩
    rw [hm] at HCo
    have hml : at' - lo < m := by omega
    have y9 : IntKind.i64.wrap ((at' : Int) - lo) = ((at' - lo : Nat) : Int) := by rw [IntWalk.i64_in _ (by omega)]; omega
    clear hb hs3 hHeld HRo HCell HCol hgr hst hlst hm hx hN hk
    generalize ((wd rs lo hi : Nat) : Int) = cc at *
    generalize ((posOf rs lo : Nat) : Int) = ff at *
    generalize ((posOf rs hi : Nat) : Int) = tt at *
    go_wp2_with fail
    refine wp_region_held_drew (S := (fun v => SheetBox rs W w.heap.size s n (some ⟨g, off, none⟩) k cap v ∧ v.heap[N]? = some (.cells #[.int .i64 (lo : Int), .int .i64 (hi : Int), .int .i64 cc, .bool hard, .int .i64 ff, .int .i64 tt] 56))) (by kernel_rfl) ?hSK10 (fun hHeld => ?restK10)
    case hSK10 => (rw [hu8]; exact ⟨hX8, hN8⟩)
    rw [hu8] at hHeld ⊢
    clear hu8
    refine takeD (i := 0) (d := some 13) (v := ?vT11) rfl rfl (by kernel_rfl) (by kernel_rfl) (by kernel_rfl) (fun _ _ _ h => h) (Or.inl ⟨by rfl, ?hyT11⟩) (by assumption) ?rstT11
    case hyT11 => (intro v hSw; obtain ⟨s0, s1, s2⟩ := box3 hSw.1.1; obtain ⟨t0, t1, t2, t3, t4, t5⟩ := box6 hSw.2; go_simp; (try with_reducible rfl))
    try simp only [Act.put, List.setIfInBounds_toArray, List.set_cons_zero, List.set_cons_succ]
    refine takeD (i := 1) (d := some 14) (v := ?vT12) rfl rfl (by kernel_rfl) (by kernel_rfl) (by kernel_rfl) (fun _ _ _ h => h) (Or.inl ⟨by rfl, ?hyT12⟩) (by assumption) ?rstT12
    case hyT12 => (intro v hSw; obtain ⟨s0, s1, s2⟩ := box3 hSw.1.1; obtain ⟨t0, t1, t2, t3, t4, t5⟩ := box6 hSw.2; go_simp; (try with_reducible rfl))
    try simp only [Act.put, List.setIfInBounds_toArray, List.set_cons_zero, List.set_cons_succ]
    refine takeD (i := 3) (d := some 16) (v := ?vT13) rfl rfl (by kernel_rfl) (by kernel_rfl) (by kernel_rfl) (fun _ _ _ h => h) (Or.inl ⟨by rfl, ?hyT13⟩) (by assumption) ?rstT13
    case hyT13 => (intro v hSw; obtain ⟨s0, s1, s2⟩ := box3 hSw.1.1; obtain ⟨t0, t1, t2, t3, t4, t5⟩ := box6 hSw.2; go_simp; (try with_reducible rfl))
    try simp only [Act.put, List.setIfInBounds_toArray, List.set_cons_zero, List.set_cons_succ]
    refine takeD (i := 4) (d := some 17) (v := ?vT14) rfl rfl (by kernel_rfl) (by kernel_rfl) (by kernel_rfl) (fun _ _ _ h => h) (Or.inl ⟨by rfl, ?hyT14⟩) (by assumption) ?rstT14
    case hyT14 => (intro v hSw; obtain ⟨s0, s1, s2⟩ := box3 hSw.1.1; obtain ⟨t0, t1, t2, t3, t4, t5⟩ := box6 hSw.2; go_simp; (try with_reducible rfl))
    try simp only [Act.put, List.setIfInBounds_toArray, List.set_cons_zero, List.set_cons_succ]
    refine takeD (i := 5) (d := some 18) (v := ?vT15) rfl rfl (by kernel_rfl) (by kernel_rfl) (by kernel_rfl) (fun _ _ _ h => h) (Or.inl ⟨by rfl, ?hyT15⟩) (by assumption) ?rstT15
    case hyT15 => (intro v hSw; obtain ⟨s0, s1, s2⟩ := box3 hSw.1.1; obtain ⟨t0, t1, t2, t3, t4, t5⟩ := box6 hSw.2; go_simp; (try with_reducible rfl))
    try simp only [Act.put, List.setIfInBounds_toArray, List.set_cons_zero, List.set_cons_succ]
    refine takeD (i := 6) (d := some 19) (v := ?vT16) rfl rfl (by kernel_rfl) (by kernel_rfl) (by kernel_rfl) (fun _ _ _ h => h) (Or.inl ⟨by rfl, ?hyT16⟩) (by assumption) ?rstT16
    case hyT16 => (intro v hSw; obtain ⟨s0, s1, s2⟩ := box3 hSw.1.1; obtain ⟨t0, t1, t2, t3, t4, t5⟩ := box6 hSw.2; go_simp; (try with_reducible rfl))
    try simp only [Act.put, List.setIfInBounds_toArray, List.set_cons_zero, List.set_cons_succ]
    refine takeD (i := 7) (d := some 20) (v := ?vT17) rfl rfl (by kernel_rfl) (by kernel_rfl) (by kernel_rfl) (fun _ _ _ h => h) (Or.inl ⟨by rfl, ?hyT17⟩) (by assumption) ?rstT17
    case hyT17 => (intro v hSw; obtain ⟨s0, s1, s2⟩ := box3 hSw.1.1; obtain ⟨t0, t1, t2, t3, t4, t5⟩ := box6 hSw.2; go_simp; (try with_reducible rfl))
    try simp only [Act.put, List.setIfInBounds_toArray, List.set_cons_zero, List.set_cons_succ]
    refine wpAnyH_ready (rs := [2]) (by kernel_rfl) (by simp) ?_
    refine AllReadyH.cons rfl (fun K hK => ?_) AllReadyH.nil
    go_simp
    refine HCo.mono ?_
    rintro e u9 ⟨a', cap', rfl, hRw, hb9⟩
    have hX9 := hX8.below hb9
    have hN9 := (hb9.block _ (Array.getElem?_eq_some_iff.1 hN8).1).trans hN8
    obtain ⟨gc, oc, xc, rfl, hgc, hxc, hcc⟩ := hRw.at (at' - lo) hml
    rw [colsL_get rs lo hml] at hxc
    obtain rfl := Option.some.inj hxc
    have hlast : u9.cell? ⟨gc, oc + (at' - lo), none⟩ = some (.int .i64 ((wd rs lo (lo + (at' - lo)) : Nat) : Int)) := by have := hcc 0 _ rfl; simpa using this
    rw [show lo + (at' - lo) = at' by omega] at hlast
    have HE : Hid (Below w.heap.size w u9) := hB8.trans (hb9.mono hB8.size)
    clear hRw hb9 hX8 hN8 hB8 hcc HCo
    dsimp only
    clear hHeld
    refine hK.out _ _ ?hS18 (fun hHeld => ?rest18)
    case hS18 => exact ⟨hX9, hN9⟩
    clear hK K
    try simp only [Act.put, List.setIfInBounds_toArray, List.set_cons_zero, List.set_cons_succ]
    refine takeD (i := 8) (d := some 21) (v := ?vT19) rfl rfl (by kernel_rfl) (by kernel_rfl) (by kernel_rfl) (fun _ _ _ h => h) (Or.inl ⟨by rfl, ?hyT19⟩) (by assumption) ?rstT19
    case hyT19 => (intro v hSw; obtain ⟨s0, s1, s2⟩ := box3 hSw.1.1; obtain ⟨t0, t1, t2, t3, t4, t5⟩ := box6 hSw.2; go_simp; (try with_reducible rfl))
    try simp only [Act.put, List.setIfInBounds_toArray, List.set_cons_zero, List.set_cons_succ]
    refine wpAnyH_ready (rs := [9]) (by kernel_rfl) (by simp) ?_
    refine AllReadyH.cons rfl (fun K hK => ?_) AllReadyH.nil
    go_simp
    clear hHeld
    refine hK.out _ _ ?hS20 (fun hHeld => ?rest20)
    case hS20 => exact ⟨hX9, hN9⟩
    clear hK K
    try simp only [Act.put, List.setIfInBounds_toArray, List.set_cons_zero, List.set_cons_succ]
    refine takeD (i := 10) (d := some 4) (v := ?vT21) rfl rfl (by kernel_rfl) (by kernel_rfl) (by kernel_rfl) (fun _ _ _ h => h) (Or.inl ⟨by rfl, ?hyT21⟩) (by assumption) ?rstT21
    case hyT21 => (intro v hSw; obtain ⟨s0, s1, s2⟩ := box3 hSw.1.1; obtain ⟨t0, t1, t2, t3, t4, t5⟩ := box6 hSw.2; go_simp; (try with_reducible rfl))
    try simp only [Act.put, List.setIfInBounds_toArray, List.set_cons_zero, List.set_cons_succ]
    refine wpAnyH_done (by kernel_rfl) ?_ _
    clear hHeld
    go_wp2_with fail
    refine bodyPost_ret (v := .int .i64 ((wd rs lo at' : Nat) : Int)) (by simp [results, Tryd.results17, go_sem]) rfl ?_
    exact ⟨_, rfl, ⟨r, lo, hi, hard, HSt.out, rfl⟩, HE.out⟩
  case bB =>
    go_simp
    obtain ⟨u1, hv⟩ : ∃ V, u0.alloc (.cells #[.int .i64 0, .int .i64 0, .int .i64 0, .bool false, .int .i64 0, .int .i64 0] 56) = V := ⟨_, rfl⟩
    have hb : Below u0.heap.size u0 u1 := by rw [← hv]; exact (Below.refl _ _).alloc (Nat.le_refl _) _
    have hB1 := hB0.trans (hb.mono hB0.size)
    have hs1 := hs0.below hb
    have hN : u1.heap[u0.heap.size]? = some (.cells #[.int .i64 0, .int .i64 0, .int .i64 0, .bool false, .int .i64 0, .int .i64 0] 56) := by rw [← hv]; exact heap_alloc_new _ _
    have hNlo : w.heap.size < u0.heap.size := (Array.getElem?_eq_some_iff.1 hs0.1).1
    rw [hv]
    obtain ⟨N, hNe⟩ : ∃ N, u0.heap.size = N := ⟨_, rfl⟩
    rw [hNe] at hN hNlo ⊢
    clear hv hNe hb
    clear hHeld
    refine hK.out _ _ ?hS22 (fun hHeld => ?rest22)
    case hS22 => exact hs1
    clear hK K
    try simp only [Act.put, List.setIfInBounds_toArray, List.set_cons_zero, List.set_cons_succ]
    refine wpAnyH_ready (rs := [4]) (by kernel_rfl) (by simp) ?_
    refine AllReadyH.cons rfl (fun K hK => ?_) AllReadyH.nil
    go_simp
    refine (HRo.out u1 hB1).mono ?_
    rintro e u2 ⟨r, lo, hi, hard, rfl, hst, hb⟩
    have hgr := hst.get
    have hB2 := hB1.trans (hb.mono hB1.size)
    have hs2 := hs1.below hb
    dsimp only
    have hN := (hb.block _ (Array.getElem?_eq_some_iff.1 hN).1).trans hN
    clear hHeld
    refine hK.out _ _ ?hS23 (fun hHeld => ?rest23)
    case hS23 => exact hs2
    clear hK K
    try simp only [Act.put, List.setIfInBounds_toArray, List.set_cons_zero, List.set_cons_succ]
    obtain ⟨g', off', ea, hrk, -⟩ := HCell.out r lo hi hard hgr
    simp only [Option.some.injEq, Addr.mk.injEq, and_true] at ea
    obtain ⟨rfl, rfl⟩ := ea
    refine takeD (i := 5) (d := some 11) (v := ?vT24) rfl rfl (by kernel_rfl) (by kernel_rfl) (by kernel_rfl) (fun _ _ _ h => h) (Or.inl ⟨by rfl, ?hyT24⟩) (by assumption) ?rstT24
    case hyT24 => (intro v hSw; go_simp; (try with_reducible rfl))
    try simp only [Act.put, List.setIfInBounds_toArray, List.set_cons_zero, List.set_cons_succ]
    refine takeD (i := 6) (d := some 12) (v := ?vT25) rfl rfl (by kernel_rfl) (by kernel_rfl) (by kernel_rfl) (fun _ _ _ h => h) (Or.inl ⟨by rfl, ?hyT25⟩) (by assumption) ?rstT25
    case hyT25 => (intro v hSw; obtain ⟨g', off', ea, hrk', e0, e1, e2, e3, e4, e5⟩ := hSw.2.cells hgr; simp only [Option.some.injEq, Addr.mk.injEq, and_true] at ea; obtain ⟨rfl, rfl⟩ := ea; go_simp; (try with_reducible rfl))
    try simp only [Act.put, List.setIfInBounds_toArray, List.set_cons_zero, List.set_cons_succ]
    obtain ⟨u3, hu, hx, hk⟩ := store6 hN (.int .i64 (lo : Int)) (.int .i64 (hi : Int)) (.int .i64 ((wd rs lo hi : Nat) : Int)) (.bool hard) (.int .i64 ((posOf rs lo : Nat) : Int)) (.int .i64 ((posOf rs hi : Nat) : Int))
    refine wpAnyH_ready (rs := [8]) (by kernel_rfl) (by simp) ?_
    refine AllReadyH.cons rfl (fun K hK => ?_) AllReadyH.nil
    obtain ⟨z0, z1, z2, z3, z4, z5⟩ := wr6 hN
    obtain ⟨y0, y1, y2, y3, y4, y5⟩ := box6 hN
    go_simp
    try rw [hu]
    have hs3 := hs2.setN hk (by omega) (fun q hq e => by cases hq; have e : g = N := e; have := HG.out; omega)
    have hB3 : Below w.heap.size w u3 := hB2.trans ((hk.chg (D := fun g => g = N) rfl).below (fun g e => by omega) hB2.size)
    clear hHeld
    refine hK.out _ _ ?hS26 (fun hHeld => ?rest26)
    case hS26 => exact hs3
    clear hK K
    try simp only [Act.put, List.setIfInBounds_toArray, List.set_cons_zero, List.set_cons_succ]
    refine wpAnyH_done (by kernel_rfl) ?_ _
    obtain ⟨u8, hu8⟩ : ∃ V, u3.drew = V := ⟨_, rfl⟩
    have hb : Below u3.heap.size u3 u8 := by rw [← hu8]; exact (Below.refl _ _).drew
    have hX8 := hs3.below hb
    have hN8 := (hb.block _ (Array.getElem?_eq_some_iff.1 hx).1).trans hx
    have hB8 := hB3.trans (hb.mono hB3.size)
    have hle := hst.le
    have hlst := hst.last hat
    have HCo := HCol.out u8 hB8 r lo hi hard hst
    unfold rowArg rowVal at HCo
    have HSt : Hid (Stands rs W at' r lo hi hard) := hst
    obtain ⟨m, hm⟩ : ∃ m, lastP hi hard - lo + 1 = m := ⟨_, rfl⟩
    rw [hm] at HCo
    have hml : at' - lo < m := by omega
    have y9 : IntKind.i64.wrap ((at' : Int) - lo) = ((at' - lo : Nat) : Int) := by rw [IntWalk.i64_in _ (by omega)]; omega
    clear hb hs3 hHeld HRo HCell HCol hgr hst hlst hm hx hN hk
    generalize ((wd rs lo hi : Nat) : Int) = cc at *
    generalize ((posOf rs lo : Nat) : Int) = ff at *
    generalize ((posOf rs hi : Nat) : Int) = tt at *
    go_wp2_with fail
    refine wp_region_held_drew (S := (fun v => SheetBox rs W w.heap.size s n (some ⟨g, off, none⟩) k cap v ∧ v.heap[N]? = some (.cells #[.int .i64 (lo : Int), .int .i64 (hi : Int), .int .i64 cc, .bool hard, .int .i64 ff, .int .i64 tt] 56))) (by kernel_rfl) ?hSK27 (fun hHeld => ?restK27)
    case hSK27 => (rw [hu8]; exact ⟨hX8, hN8⟩)
    rw [hu8] at hHeld ⊢
    clear hu8
    refine takeD (i := 0) (d := some 13) (v := ?vT28) rfl rfl (by kernel_rfl) (by kernel_rfl) (by kernel_rfl) (fun _ _ _ h => h) (Or.inl ⟨by rfl, ?hyT28⟩) (by assumption) ?rstT28
    case hyT28 => (intro v hSw; obtain ⟨s0, s1, s2⟩ := box3 hSw.1.1; obtain ⟨t0, t1, t2, t3, t4, t5⟩ := box6 hSw.2; go_simp; (try with_reducible rfl))
    try simp only [Act.put, List.setIfInBounds_toArray, List.set_cons_zero, List.set_cons_succ]
    refine takeD (i := 1) (d := some 14) (v := ?vT29) rfl rfl (by kernel_rfl) (by kernel_rfl) (by kernel_rfl) (fun _ _ _ h => h) (Or.inl ⟨by rfl, ?hyT29⟩) (by assumption) ?rstT29
    case hyT29 => (intro v hSw; obtain ⟨s0, s1, s2⟩ := box3 hSw.1.1; obtain ⟨t0, t1, t2, t3, t4, t5⟩ := box6 hSw.2; go_simp; (try with_reducible rfl))
    try simp only [Act.put, List.setIfInBounds_toArray, List.set_cons_zero, List.set_cons_succ]
    refine takeD (i := 3) (d := some 16) (v := ?vT30) rfl rfl (by kernel_rfl) (by kernel_rfl) (by kernel_rfl) (fun _ _ _ h => h) (Or.inl ⟨by rfl, ?hyT30⟩) (by assumption) ?rstT30
    case hyT30 => (intro v hSw; obtain ⟨s0, s1, s2⟩ := box3 hSw.1.1; obtain ⟨t0, t1, t2, t3, t4, t5⟩ := box6 hSw.2; go_simp; (try with_reducible rfl))
    try simp only [Act.put, List.setIfInBounds_toArray, List.set_cons_zero, List.set_cons_succ]
    refine takeD (i := 4) (d := some 17) (v := ?vT31) rfl rfl (by kernel_rfl) (by kernel_rfl) (by kernel_rfl) (fun _ _ _ h => h) (Or.inl ⟨by rfl, ?hyT31⟩) (by assumption) ?rstT31
    case hyT31 => (intro v hSw; obtain ⟨s0, s1, s2⟩ := box3 hSw.1.1; obtain ⟨t0, t1, t2, t3, t4, t5⟩ := box6 hSw.2; go_simp; (try with_reducible rfl))
    try simp only [Act.put, List.setIfInBounds_toArray, List.set_cons_zero, List.set_cons_succ]
    refine takeD (i := 5) (d := some 18) (v := ?vT32) rfl rfl (by kernel_rfl) (by kernel_rfl) (by kernel_rfl) (fun _ _ _ h => h) (Or.inl ⟨by rfl, ?hyT32⟩) (by assumption) ?rstT32
    case hyT32 => (intro v hSw; obtain ⟨s0, s1, s2⟩ := box3 hSw.1.1; obtain ⟨t0, t1, t2, t3, t4, t5⟩ := box6 hSw.2; go_simp; (try with_reducible rfl))
    try simp only [Act.put, List.setIfInBounds_toArray, List.set_cons_zero, List.set_cons_succ]
    refine takeD (i := 6) (d := some 19) (v := ?vT33) rfl rfl (by kernel_rfl) (by kernel_rfl) (by kernel_rfl) (fun _ _ _ h => h) (Or.inl ⟨by rfl, ?hyT33⟩) (by assumption) ?rstT33
    case hyT33 => (intro v hSw; obtain ⟨s0, s1, s2⟩ := box3 hSw.1.1; obtain ⟨t0, t1, t2, t3, t4, t5⟩ := box6 hSw.2; go_simp; (try with_reducible rfl))
    try simp only [Act.put, List.setIfInBounds_toArray, List.set_cons_zero, List.set_cons_succ]
    refine takeD (i := 7) (d := some 20) (v := ?vT34) rfl rfl (by kernel_rfl) (by kernel_rfl) (by kernel_rfl) (fun _ _ _ h => h) (Or.inl ⟨by rfl, ?hyT34⟩) (by assumption) ?rstT34
    case hyT34 => (intro v hSw; obtain ⟨s0, s1, s2⟩ := box3 hSw.1.1; obtain ⟨t0, t1, t2, t3, t4, t5⟩ := box6 hSw.2; go_simp; (try with_reducible rfl))
    try simp only [Act.put, List.setIfInBounds_toArray, List.set_cons_zero, List.set_cons_succ]
    refine wpAnyH_ready (rs := [2]) (by kernel_rfl) (by simp) ?_
    refine AllReadyH.cons rfl (fun K hK => ?_) AllReadyH.nil
    go_simp
    refine HCo.mono ?_
    rintro e u9 ⟨a', cap', rfl, hRw, hb9⟩
    have hX9 := hX8.below hb9
    have hN9 := (hb9.block _ (Array.getElem?_eq_some_iff.1 hN8).1).trans hN8
    obtain ⟨gc, oc, xc, rfl, hgc, hxc, hcc⟩ := hRw.at (at' - lo) hml
    rw [colsL_get rs lo hml] at hxc
    obtain rfl := Option.some.inj hxc
    have hlast : u9.cell? ⟨gc, oc + (at' - lo), none⟩ = some (.int .i64 ((wd rs lo (lo + (at' - lo)) : Nat) : Int)) := by have := hcc 0 _ rfl; simpa using this
    rw [show lo + (at' - lo) = at' by omega] at hlast
    have HE : Hid (Below w.heap.size w u9) := hB8.trans (hb9.mono hB8.size)
    clear hRw hb9 hX8 hN8 hB8 hcc HCo
    dsimp only
    clear hHeld
    refine hK.out _ _ ?hS35 (fun hHeld => ?rest35)
    case hS35 => exact ⟨hX9, hN9⟩
    clear hK K
    try simp only [Act.put, List.setIfInBounds_toArray, List.set_cons_zero, List.set_cons_succ]
    refine takeD (i := 8) (d := some 21) (v := ?vT36) rfl rfl (by kernel_rfl) (by kernel_rfl) (by kernel_rfl) (fun _ _ _ h => h) (Or.inl ⟨by rfl, ?hyT36⟩) (by assumption) ?rstT36
    case hyT36 => (intro v hSw; obtain ⟨s0, s1, s2⟩ := box3 hSw.1.1; obtain ⟨t0, t1, t2, t3, t4, t5⟩ := box6 hSw.2; go_simp; (try with_reducible rfl))
    try simp only [Act.put, List.setIfInBounds_toArray, List.set_cons_zero, List.set_cons_succ]
    refine wpAnyH_ready (rs := [9]) (by kernel_rfl) (by simp) ?_
    refine AllReadyH.cons rfl (fun K hK => ?_) AllReadyH.nil
    go_simp
    clear hHeld
    refine hK.out _ _ ?hS37 (fun hHeld => ?rest37)
    case hS37 => exact ⟨hX9, hN9⟩
    clear hK K
    try simp only [Act.put, List.setIfInBounds_toArray, List.set_cons_zero, List.set_cons_succ]
    refine takeD (i := 10) (d := some 4) (v := ?vT38) rfl rfl (by kernel_rfl) (by kernel_rfl) (by kernel_rfl) (fun _ _ _ h => h) (Or.inl ⟨by rfl, ?hyT38⟩) (by assumption) ?rstT38
    case hyT38 => (intro v hSw; obtain ⟨s0, s1, s2⟩ := box3 hSw.1.1; obtain ⟨t0, t1, t2, t3, t4, t5⟩ := box6 hSw.2; go_simp; (try with_reducible rfl))
    try simp only [Act.put, List.setIfInBounds_toArray, List.set_cons_zero, List.set_cons_succ]
    refine wpAnyH_done (by kernel_rfl) ?_ _
    clear hHeld
    go_wp2_with fail
    refine bodyPost_ret (v := .int .i64 ((wd rs lo at' : Nat) : Int)) (by simp [results, Tryd.results17, go_sem]) rfl ?_
    exact ⟨_, rfl, ⟨r, lo, hi, hard, HSt.out, rfl⟩, HE.out⟩
end Go.Proofs.YtfnpmncmceocdaaDoor
