import Derived.Test.YtaclgiakinoocaaDiA
import Derived.Test.YtaclgiakinoocaaDcC
/-! wrote. -/
namespace Go.Proofs.Ytaclgiakinoocaa
open Go.RowKit Go.Lib
set_option maxRecDepth 100000

theorem own_blockP {W : World} {B : Nat} {v : Value} {l : List Pg} (h : OwnF pgV 3 95 W B v l) {g : Nat} (hg : v.ownBlock = some g) : ∃ cur : Array Value, W.heap[g]? = some (.cells cur 95) := by
  rcases h.2 with ⟨rfl, _⟩ | ⟨g', cap, cur, rfl, _, hh, _⟩
  · simp [Value.ownBlock] at hg
  · simp [Value.ownBlock] at hg
    subst hg
    exact ⟨_, hh⟩
theorem flatP_set (l t : List Pg) (x x' : Pg) (j : Nat) (u : Value) (hj : j < 3) (hx : pgV x' = (pgV x).set j u) : flatF pgV (l ++ x' :: t) = (flatF pgV (l ++ x :: t)).set (l.length * 3 + j) u := by
  induction l with
  | nil =>
    have e1 : flatF pgV ([] ++ x' :: t) = pgV x' ++ flatF pgV t := by simp [flatF]
    have e2 : flatF pgV ([] ++ x :: t) = pgV x ++ flatF pgV t := by simp [flatF]
    rw [e1, e2, hx, List.set_append_left _ _ (by show [].length * 3 + j < 3; simp; exact hj)]
    simp
  | cons y l ih =>
    have e1 : flatF pgV (y :: l ++ x' :: t) = pgV y ++ flatF pgV (l ++ x' :: t) := by simp [flatF]
    have e2 : flatF pgV (y :: l ++ x :: t) = pgV y ++ flatF pgV (l ++ x :: t) := by simp [flatF]
    have hy : (pgV y).length = 3 := rfl
    rw [e1, e2, ih, List.set_append_right _ _ (by rw [hy, List.length_cons]; omega)]
    congr 2
    rw [hy, List.length_cons]
    omega
/-- a cell of a page is written -/
theorem own_setP {W : World} {B g cap : Nat} {l t : List Pg} {x x' : Pg} (h : OwnF pgV 3 95 W B (.slice (some ⟨g, 0, none⟩) (l ++ x :: t).length cap) (l ++ x :: t)) (j : Nat) (u : Value) (hj : j < 3) (hx : pgV x' = (pgV x).set j u) :
    OwnF pgV 3 95 (W.setCell ⟨g, l.length * 3 + j, none⟩ u) B (.slice (some ⟨g, 0, none⟩) (l ++ x :: t).length cap) (l ++ x' :: t) := by
  have hlen : (l ++ x' :: t).length = (l ++ x :: t).length := by simp
  rcases h.2 with ⟨e, _⟩ | ⟨g', cap', cur, e, h1, hh, h2, h3, h4, h5⟩
  · cases e
  · simp only [Value.slice.injEq, Option.some.injEq, Addr.mk.injEq, and_true, true_and] at e
    obtain ⟨rfl, rfl⟩ := e
    refine ⟨by rw [flatF_length layPg], .inr ⟨g, cap, cur.setIfInBounds (l.length * 3 + j) u, by rw [hlen], h1, heap_setCell_cells hh _ _, by rw [hlen]; exact h2, h3, by rw [Array.size_setIfInBounds]; exact h4, ?_⟩⟩
    rw [hlen, flatP_set l t x x' j u hj hx, ← h5, Array.toList_setIfInBounds, List.take_set]
/-- What wrote leaves. -/
def WroteP (w w' : World) (k B : Nat) (v : Value) (ps l t : List Pg) (nm bs : List UInt8) (y : Nat) : Prop := ∃ x' : Pg, x'.nm = nm ∧ x'.bs = bs ∧ x'.syn = y ∧ BNx w w' k B v ps (l ++ x' :: t)
/-- a page of the book is written -/
theorem BkAt.set {W W' : World} {k B g cap : Nat} {v : Value} {l t : List Pg} {x x' : Pg} (h : BkAt W k B v (l ++ x :: t)) (hv : v = .slice (some ⟨g, 0, none⟩) (l ++ x :: t).length cap) (j : Nat) (u : Value) (hj : j < 3) (hx : pgV x' = (pgV x).set j u) (hW : W.setCell ⟨g, l.length * 3 + j, none⟩ u = W') (hown : OwnF byU 1 5 W B x'.sl x'.bs) :
    BkAt W' k B v (l ++ x' :: t) ∧ Chg (fun q => q = g) W W' := by
  have hC : Chg (fun q => q = g) W W' := by rw [← hW]; exact Chg.set _ W u rfl
  obtain ⟨cur, hcur⟩ := own_blockP h.own (g := g) (by rw [hv]; rfl)
  have hkg : k ≠ g := fun e => by
    have := h.box
    rw [e, hcur] at this
    simp at this
  have hbg : ∀ y : Pg, OwnF byU 1 5 W B y.sl y.bs → ∀ q, y.sl.ownBlock = some q → ¬ q = g := fun y hy q hq e => by
    obtain ⟨c2, h2⟩ := own_block (hy.mono (Nat.zero_le _)) hq
    rw [e, hcur] at h2
    simp at h2
  have ho := h.own
  rw [hv] at ho
  refine ⟨⟨hC.block h.box hkg, ?_, fun y hy => ?_, h.ge⟩, hC⟩
  · rw [hv, ← hW]
    exact own_setP ho j u hj hx
  · rcases List.mem_append.1 hy with hy | hy
    · have h1 := h.each y (List.mem_append_left _ hy)
      exact h1.chg hC (hbg y h1)
    · rcases List.mem_cons.1 hy with rfl | hy
      · exact hown.chg hC (hbg y hown)
      · have h1 := h.each y (List.mem_append_right _ (List.mem_cons_of_mem _ hy))
        exact h1.chg hC (hbg y h1)
variable {w : World} {k B : Nat} {v : Value} {ps : List Pg}
set_option maxHeartbeats 4000000 in
theorem wrote_hit {l t : List Pg} {x : Pg} (h : BkAt w k B v (l ++ x :: t)) (hB : B ≤ w.heap.size) (hn : (l ++ x :: t).length ≤ 4398046511104) (hl : ∀ y ∈ l, y.nm ≠ x.nm) {b : Option Addr} {bn bc : Nat} {Wb : List UInt8} (hb : Rw byU 1 w b bn bc Wb) (hsum : x.bs.length + bn ≤ 1099511627776) :
    Calls Try.prog 25 #[.pointer (some ⟨k, 0, none⟩), .string ⟨x.nm.toArray⟩, .slice b bn bc] w fun e w' => e = .returned (.tuple #[]) ∧ WroteP w w' k B v (l ++ x :: t) l t x.nm (x.bs ++ Wb) x.syn := by
  obtain ⟨a, c, hv, hrow⟩ := own_shapeP h.own
  have c1 := box1 h.box
  rw [hv] at c1
  have HPG : Hid (Calls Try.prog 50 #[.pointer (some ⟨k, 0, none⟩), .string ⟨x.nm.toArray⟩] w fun e w' => e = .returned (.int .i64 (l.length : Int)) ∧ w' = w) := by have := page_any h hn x.nm; rwa [pgI_hit rfl hl] at this
  have hlen : l.length < (l ++ x :: t).length := by simp
  obtain ⟨g, off, o, hoa, hgl, hoi, hcell⟩ := hrow.at l.length hlen
  have hox : o = x := by simpa using hoi.symm
  subst hox
  have hoff : off = 0 := by
    rcases h.own.2 with ⟨e, h9⟩ | ⟨g', cap', cur, e, _⟩
    · simp at h9
    · rw [hv, hoa] at e
      simp only [Value.slice.injEq, Option.some.injEq, Addr.mk.injEq, and_true] at e
      exact e.1.2
  subst hoa hoff
  have o1 := hcell 1 _ rfl
  rw [Nat.zero_add] at o1
  obtain ⟨cur, hcur⟩ := own_blockP h.own (g := g) (by rw [hv]; rfl)
  have HX : Hid (BkAt w k B v (l ++ o :: t) ∧ v = .slice (some ⟨g, 0, none⟩) (l ++ o :: t).length c ∧ Rw byU 1 w b bn bc Wb ∧ o.bs.length + bn ≤ 1099511627776 ∧ Wb.length = bn ∧ w.heap[g]? = some (.cells cur 95) ∧ B ≤ w.heap.size) := ⟨h, hv, hb, hsum, hb.len, hcur, hB⟩
  have gn : ¬ ((l.length : Int) < 0) := by omega
  have gl : (l.length : Int) < ((l ++ o :: t).length : Int) := by omega
  clear h hv hrow hb hsum hl hlen hgl hoi hcell hcur hB hn
  obtain ⟨n, hn⟩ : ∃ n, (l ++ o :: t).length = n := ⟨_, rfl⟩
  rw [hn] at c1 gl
  have HN : Hid ((l ++ o :: t).length = n) := hn
  clear hn
  obtain ⟨m, hm⟩ : ∃ m, l.length = m := ⟨_, rfl⟩
  rw [hm] at gn gl o1 HPG
  have HM : Hid (l.length = m) := hm
  clear hm
  go_enter Try.func25, Try.ntmps25
  go_wp2_with fail
  refine HPG.out.mono ?_
  rintro e wz ⟨rfl, hz⟩
  rw [hz]
  clear hz wz
  go_wp2_with fail
  have HKP : Hid (∀ W, Below w.heap.size w W → W.cell? ⟨k, 0, none⟩ = some (.slice (some ⟨g, 0, none⟩) n c)) := fun W hb => by
    have h1 := box1 ((HX.out.1.below hb).box)
    rw [h1, HX.out.2.1, HN.out]
  have hkg : k ≠ g := fun e => by
    have h1 := HX.out.1.box
    rw [e, HX.out.2.2.2.2.2.1] at h1
    simp at h1
  have HKG : Hid (k ≠ g) := hkg
  clear hkg
  refine wp_region_held_drew (S := (fun W => W.cell? ⟨k, 0, none⟩ = some (.slice (some ⟨g, 0, none⟩) n c))) (by kernel_rfl) ?hS1 (fun hHeld => ?rest1)
  case hS1 => exact HKP.out _ ((Below.refl _ _).drew)
  refine takeD (i := 0) (d := some 29) (v := ?vT2) rfl rfl (by kernel_rfl) (by kernel_rfl) (by kernel_rfl) (fun _ _ _ h => h) (Or.inl ⟨by rfl, ?hyT2⟩) (by assumption) ?rstT2
  case hyT2 => (intro w hSw; (try dsimp only at hSw); go_simp; (try with_reducible rfl))
  try simp only [Act.put, List.setIfInBounds_toArray, List.set_cons_zero, List.set_cons_succ]
  refine takeD (i := 1) (d := some 30) (v := ?vT3) rfl rfl (by kernel_rfl) (by kernel_rfl) (by kernel_rfl) (fun _ _ _ h => h) (Or.inl ⟨by rfl, ?hyT3⟩) (by assumption) ?rstT3
  case hyT3 => (intro w hSw; (try dsimp only at hSw); go_simp; (try with_reducible rfl))
  try simp only [Act.put, List.setIfInBounds_toArray, List.set_cons_zero, List.set_cons_succ]
  refine takeD (i := 2) (d := some 31) (v := ?vT4) rfl rfl (by kernel_rfl) (by kernel_rfl) (by kernel_rfl) (fun _ _ _ h => h) (Or.inl ⟨by rfl, ?hyT4⟩) (by assumption) ?rstT4
  case hyT4 => (intro w hSw; (try dsimp only at hSw); go_simp; (try with_reducible rfl))
  try simp only [Act.put, List.setIfInBounds_toArray, List.set_cons_zero, List.set_cons_succ]
  refine takeD (i := 3) (d := some 32) (v := ?vT5) rfl rfl (by kernel_rfl) (by kernel_rfl) (by kernel_rfl) (fun _ _ _ h => h) (Or.inl ⟨by rfl, ?hyT5⟩) (by assumption) ?rstT5
  case hyT5 => (intro w hSw; (try dsimp only at hSw); go_simp; (try with_reducible rfl))
  try simp only [Act.put, List.setIfInBounds_toArray, List.set_cons_zero, List.set_cons_succ]
  refine takeD (i := 4) (d := some 33) (v := ?vT6) rfl rfl (by kernel_rfl) (by kernel_rfl) (by kernel_rfl) (fun _ _ _ h => h) (Or.inl ⟨by rfl, ?hyT6⟩) (by assumption) ?rstT6
  case hyT6 => (intro w hSw; (try dsimp only at hSw); go_simp; (try with_reducible rfl))
  try simp only [Act.put, List.setIfInBounds_toArray, List.set_cons_zero, List.set_cons_succ]
  refine takeD (i := 5) (d := some 34) (v := ?vT7) rfl rfl (by kernel_rfl) (by kernel_rfl) (by kernel_rfl) (fun _ _ _ h => h) (Or.inl ⟨by rfl, ?hyT7⟩) (by assumption) ?rstT7
  case hyT7 => (intro w hSw; (try dsimp only at hSw); go_simp; (try with_reducible rfl))
  try simp only [Act.put, List.setIfInBounds_toArray, List.set_cons_zero, List.set_cons_succ]
  refine takeD (i := 6) (d := some 35) (v := ?vT8) rfl rfl (by kernel_rfl) (by kernel_rfl) (by kernel_rfl) (fun _ _ _ h => h) (Or.inl ⟨by rfl, ?hyT8⟩) (by assumption) ?rstT8
  case hyT8 => (intro w hSw; (try dsimp only at hSw); go_simp; (try with_reducible rfl))
  try simp only [Act.put, List.setIfInBounds_toArray, List.set_cons_zero, List.set_cons_succ]
  refine takeD (i := 7) (d := some 36) (v := ?vT9) rfl rfl (by kernel_rfl) (by kernel_rfl) (by kernel_rfl) (fun _ _ _ h => h) (Or.inl ⟨by rfl, ?hyT9⟩) (by assumption) ?rstT9
  case hyT9 => (intro w hSw; (try dsimp only at hSw); go_simp; (try with_reducible rfl))
  try simp only [Act.put, List.setIfInBounds_toArray, List.set_cons_zero, List.set_cons_succ]
  refine takeD (i := 8) (d := some 37) (v := ?vT10) rfl rfl (by kernel_rfl) (by kernel_rfl) (by kernel_rfl) (fun _ _ _ h => h) (Or.inl ⟨by rfl, ?hyT10⟩) (by assumption) ?rstT10
  case hyT10 => (intro w hSw; (try dsimp only at hSw); go_simp; (try with_reducible rfl))
  try simp only [Act.put, List.setIfInBounds_toArray, List.set_cons_zero, List.set_cons_succ]
  refine takeD (i := 9) (d := some 38) (v := ?vT11) rfl rfl (by kernel_rfl) (by kernel_rfl) (by kernel_rfl) (fun _ _ _ h => h) (Or.inl ⟨by rfl, ?hyT11⟩) (by assumption) ?rstT11
  case hyT11 => (intro w hSw; (try dsimp only at hSw); go_simp; (try with_reducible rfl))
  try simp only [Act.put, List.setIfInBounds_toArray, List.set_cons_zero, List.set_cons_succ]
  refine takeD (i := 10) (d := some 39) (v := ?vT12) rfl rfl (by kernel_rfl) (by kernel_rfl) (by kernel_rfl) (fun _ _ _ h => h) (Or.inl ⟨by rfl, ?hyT12⟩) (by assumption) ?rstT12
  case hyT12 => (intro w hSw; (try dsimp only at hSw); go_simp; (try with_reducible rfl))
  try simp only [Act.put, List.setIfInBounds_toArray, List.set_cons_zero, List.set_cons_succ]
  refine takeD (i := 11) (d := some 40) (v := ?vT13) rfl rfl (by kernel_rfl) (by kernel_rfl) (by kernel_rfl) (fun _ _ _ h => h) (Or.inl ⟨by rfl, ?hyT13⟩) (by assumption) ?rstT13
  case hyT13 => (intro w hSw; (try dsimp only at hSw); go_simp; (try with_reducible rfl))
  try simp only [Act.put, List.setIfInBounds_toArray, List.set_cons_zero, List.set_cons_succ]
  refine takeD (i := 14) (d := some 43) (v := ?vT14) rfl rfl (by kernel_rfl) (by kernel_rfl) (by kernel_rfl) (fun _ _ _ h => h) (Or.inl ⟨by rfl, ?hyT14⟩) (by assumption) ?rstT14
  case hyT14 => (intro w hSw; (try dsimp only at hSw); go_simp; (try with_reducible rfl))
  try simp only [Act.put, List.setIfInBounds_toArray, List.set_cons_zero, List.set_cons_succ]
  refine wpAnyH_ready (rs := [12]) (by kernel_rfl) (by simp) ?_
  refine AllReadyH.cons rfl (fun K hK => ?_) AllReadyH.nil
  go_simp
  clear hHeld
  refine hK.out _ _ ?hS15 (fun hHeld => ?rest15)
  case hS15 => exact HKP.out _ ((Below.refl _ _).drew)
  clear hK K
  try simp only [Act.put, List.setIfInBounds_toArray, List.set_cons_zero, List.set_cons_succ]
  refine wpAnyH_ready (rs := [13]) (by kernel_rfl) (by simp) ?_
  refine AllReadyH.cons rfl (fun K hK => ?_) AllReadyH.nil
  go_simp
  refine (copied_any ((((HX.out.1.each o (by simp)).rw_ layU)).below ((Below.refl _ _).drew)) (by have := HX.out.2.2.2.1; omega)).mono ?_
  rintro e w2 ⟨a2, c2, rfl, ho2, hb2⟩
  have hb02 : Below w.heap.size w w2 := ((Below.refl _ _).drew).trans hb2
  have H2 : Hid (OwnF byU 1 5 w2 w.heap.size (.slice a2 o.bs.length c2) o.bs ∧ Below w.heap.size w w2 ∧ w.heap.size ≤ w2.heap.size ∧ Rw byU 1 w2 b bn bc Wb) := ⟨ho2, hb02, hb02.size, HX.out.2.2.1.below hb02⟩
  clear ho2 hb2 hb02
  clear hHeld
  refine hK.out _ _ ?hS16 (fun hHeld => ?rest16)
  case hS16 => exact HKP.out _ H2.out.2.1
  clear hK K
  try simp only [Act.put, List.setIfInBounds_toArray, List.set_cons_zero, List.set_cons_succ]
  refine wpAnyH_ready (rs := [15]) (by kernel_rfl) (by simp) ?_
  refine AllReadyH.cons rfl (fun K hK => ?_) AllReadyH.nil
  obtain ⟨a3, c3, w3, hr3, ho3, hb3, hk3⟩ := appendU kindU layU H2.out.1 H2.out.2.2.1 H2.out.2.2.2 (by have := HX.out.2.2.2.1; omega) (by have := HX.out.2.2.2.1; omega) 22
  rw [if_pos (by rfl)]
  refine wp_append_hr (.tmp 42) (.tmp 43) 22 (some 44) rfl rfl _ _ rfl rfl hr3 ?_
  have H3 : Hid (OwnF byU 1 5 w3 w.heap.size (.slice a3 (o.bs.length + bn) c3) (o.bs ++ Wb) ∧ Below w.heap.size w w3) := ⟨ho3, H2.out.2.1.trans hb3⟩
  clear ho3 hb3 hk3
  clear hHeld
  refine hK.out _ _ ?hS17 (fun hHeld => ?rest17)
  case hS17 => exact HKP.out _ H3.out.2
  clear hK K
  try simp only [Act.put, List.setIfInBounds_toArray, List.set_cons_zero, List.set_cons_succ]
  refine takeD (i := 16) (d := some 45) (v := ?vT18) rfl rfl (by kernel_rfl) (by kernel_rfl) (by kernel_rfl) (fun _ _ _ h => h) (Or.inl ⟨by rfl, ?hyT18⟩) (by assumption) ?rstT18
  case hyT18 => (intro w hSw; (try dsimp only at hSw); go_simp; (try with_reducible rfl))
  try simp only [Act.put, List.setIfInBounds_toArray, List.set_cons_zero, List.set_cons_succ]
  refine takeD (i := 17) (d := some 46) (v := ?vT19) rfl rfl (by kernel_rfl) (by kernel_rfl) (by kernel_rfl) (fun _ _ _ h => h) (Or.inl ⟨by rfl, ?hyT19⟩) (by assumption) ?rstT19
  case hyT19 => (intro w hSw; (try dsimp only at hSw); go_simp; (try with_reducible rfl))
  try simp only [Act.put, List.setIfInBounds_toArray, List.set_cons_zero, List.set_cons_succ]
  have hg3 : w3.heap[g]? = some (.cells cur 95) := (H3.out.2.block _ (Array.getElem?_eq_some_iff.1 HX.out.2.2.2.2.2.1).1).trans HX.out.2.2.2.2.2.1
  have o3 := (H3.out.2.cell (p := ⟨g, m * 3 + 1, none⟩) (Array.getElem?_eq_some_iff.1 HX.out.2.2.2.2.2.1).1).trans o1
  have q3 := Lib.frozen_of_heap hg3 (m * 3 + 1)
  obtain ⟨V8, hV8⟩ : ∃ V8, w3.setCell ⟨g, m * 3 + 1, none⟩ (.slice a3 (o.bs.length + bn) c3) = V8 := ⟨_, rfl⟩
  have hlen8 : (o.bs ++ Wb).length = o.bs.length + bn := by rw [List.length_append, HX.out.2.2.2.2.1]
  have hset := (HX.out.1.below H3.out.2).set HX.out.2.1 (x' := ⟨o.nm, a3, c3, o.bs ++ Wb, o.syn⟩) 1 (.slice a3 (o.bs.length + bn) c3) (by decide) (by show [_, Value.slice a3 (o.bs ++ Wb).length c3, _] = _; rw [hlen8]; rfl) (W' := V8) (by rw [HM.out]; exact hV8) (by show OwnF byU 1 5 w3 B (.slice a3 (o.bs ++ Wb).length c3) (o.bs ++ Wb); rw [hlen8]; exact H3.out.1.mono HX.out.2.2.2.2.2.2)
  have H8 : Hid (BkAt V8 k B v (l ++ ⟨o.nm, a3, c3, o.bs ++ Wb, o.syn⟩ :: t) ∧ Chg (fun q => q = g) w3 V8) := hset
  have hge3 : ∀ q, (Value.slice a3 (o.bs.length + bn) c3).ownBlock = some q → w.heap.size ≤ q := fun q hq => H3.out.1.ge hq
  have HFN : Hid (WroteP w V8 k B v (l ++ o :: t) l t o.nm (o.bs ++ Wb) o.syn) := by
    refine ⟨⟨o.nm, a3, c3, o.bs ++ Wb, o.syn⟩, rfl, rfl, rfl, v, H8.out.1, (Chg.of_below H3.out.2).trans (H8.out.2.mono (fun q _ e => ?_)), fun q hq => ?_⟩
    · exact .inr (.inl (by rw [e, HX.out.2.1]; rfl))
    · rcases hq with h1 | h1 | ⟨y, hy, h1⟩
      · exact .inl (.inl h1)
      · exact .inl (.inr (.inl h1))
      · rcases List.mem_append.1 hy with hy | hy
        · exact .inl (.inr (.inr ⟨y, List.mem_append_left _ hy, h1⟩))
        · rcases List.mem_cons.1 hy with rfl | hy
          · exact .inr (hge3 q (by have h2 : (Value.slice a3 (o.bs ++ Wb).length c3).ownBlock = some q := h1; rw [hlen8] at h2; exact h2))
          · exact .inl (.inr (.inr ⟨y, List.mem_append_right _ (List.mem_cons_of_mem _ hy), h1⟩))
  clear hg3 hlen8 hset hge3
  refine wpAnyH_ready (rs := [18]) (by kernel_rfl) (by simp) ?_
  refine AllReadyH.cons rfl (fun K hK => ?_) AllReadyH.nil
  go_simp
  clear hHeld
  refine hK.out _ _ ?hS20 (fun hHeld => ?rest20)
  case hS20 => exact (H8.out.2.cell (p := ⟨k, 0, none⟩) (Nat.lt_of_lt_of_le (HX.out.1.lt (.inl rfl)).1 H3.out.2.size) HKG.out).trans (HKP.out _ H3.out.2)
  clear hK K
  try simp only [Act.put, List.setIfInBounds_toArray, List.set_cons_zero, List.set_cons_succ]
  refine wpAnyH_done (by kernel_rfl) ?_ _
  go_wp2_with fail
  go_end0
  exact ⟨rfl, HFN.out⟩
end Go.Proofs.Ytaclgiakinoocaa
