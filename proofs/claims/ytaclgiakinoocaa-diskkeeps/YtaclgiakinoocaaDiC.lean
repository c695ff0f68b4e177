import Derived.Test.YtaclgiakinoocaaDiB
/-! wrote where there is no page. -/
namespace Go.Proofs.Ytaclgiakinoocaa
open Go.RowKit Go.Lib
set_option maxRecDepth 100000

theorem BNx.trans {w w1 w2 : World} {k B : Nat} {v v1 : Value} {ps ps1 ps2 : List Pg} (h : Chg (BB k v ps) w w1) (hB : ∀ g, BB k v1 ps1 g → BB k v ps g ∨ w.heap.size ≤ g) (h2 : BNx w1 w2 k B v1 ps1 ps2) : BNx w w2 k B v ps ps2 := by
  obtain ⟨v2, h3, h4, h5⟩ := h2
  refine ⟨v2, h3, h.then h4 hB, fun g hg => ?_⟩
  rcases h5 g hg with h6 | h6
  · exact hB g h6
  · exact .inr (Nat.le_trans h.size h6)
/-- the book takes another list of pages -/
theorem BkAt.store {W W1 W2 : World} {k B : Nat} {v v' : Value} {ps ps' : List Pg} (h : BkAt W k B v ps) (hC : Chg (fun q => v.ownBlock = some q) W W1) (ho : OwnF pgV 3 95 W1 B v' ps') (he : ∀ x ∈ ps', OwnF byU 1 5 W1 B x.sl x.bs) (hs : W1.setCell ⟨k, 0, none⟩ v' = W2) :
    BkAt W2 k B v' ps' ∧ Chg (BB k v ps) W W2 ∧ Chg (fun q => q = k) W1 W2 := by
  have hk : ¬ v.ownBlock = some k := fun e => by
    obtain ⟨cur, hcur⟩ := own_blockP h.own e
    rw [h.box] at hcur
    simp at hcur
  have hb1 := hC.block h.box hk
  have hC2 : Chg (fun q => q = k) W1 W2 := by rw [← hs]; exact Chg.set _ W1 v' rfl
  have hb2 : W2.heap[k]? = some (.cells #[v'] 62) := by rw [← hs, heap_setCell_cells hb1 0 v']; rfl
  refine ⟨⟨hb2, ho.chg hC2 (fun q hq e => ?_), fun x hx => (he x hx).chg hC2 (fun q hq e => ?_), h.ge⟩, (hC.mono (fun q _ e => .inr (.inl e))).trans (hC2.mono (fun q _ e => .inl e)), hC2⟩
  · obtain ⟨cur, hcur⟩ := own_blockP ho hq
    rw [e, hb1] at hcur
    simp at hcur
  · obtain ⟨cur, hcur⟩ := own_block ((he x hx).mono (Nat.zero_le _)) hq
    rw [e, hb1] at hcur
    simp at hcur
theorem chg_keeps {W W1 : World} {B : Nat} {v : Value} (hb : Below B W W1) (hk : Keeps W W1 v) : Chg (fun q => v.ownBlock = some q) W W1 := ⟨hb.mono (Nat.zero_le _), fun q hq hn => hk q hq hn⟩
variable {w : World} {k B : Nat} {v : Value} {ps : List Pg}
set_option maxHeartbeats 4000000 in
theorem wrote_miss (h : BkAt w k B v ps) (hB : B ≤ w.heap.size) (hn : ps.length ≤ 4398046511103) {nm : List UInt8} (hl : ∀ y ∈ ps, y.nm ≠ nm) {b : Option Addr} {bn bc : Nat} {Wb : List UInt8} {wb : World} (hb0 : Rw byU 1 wb b bn bc Wb) (hwb : Below wb.heap.size wb w) (hbs : wb.heap.size ≤ B) (hsum : bn ≤ 1099511627776) :
    Calls Try.prog 25 #[.pointer (some ⟨k, 0, none⟩), .string ⟨nm.toArray⟩, .slice b bn bc] w fun e w' => e = .returned (.tuple #[]) ∧ WroteP w w' k B v ps ps [] nm Wb 0 := by
  have hb := hb0.below hwb
  obtain ⟨a, c, hv, hrow⟩ := own_shapeP h.own
  have c1 := box1 h.box
  rw [hv] at c1
  have HPG : Hid (Calls Try.prog 50 #[.pointer (some ⟨k, 0, none⟩), .string ⟨nm.toArray⟩] w fun e w' => e = .returned (.int .i64 (-1)) ∧ w' = w) := by have := page_any h (by omega) nm; rwa [pgI_miss hl] at this
  obtain ⟨g, cap, w1, hr, ho, hb1, hk1, hs1, hat⟩ := appendF_wide kindPg layPg h.own hB (⟨nm, none, 0, [], 0⟩ : Pg) #[.string ⟨nm.toArray⟩, .slice none 0 0, .int .i64 0] rfl 95 (by omega) (by omega) 60
  obtain ⟨o, hoe⟩ : ∃ o : Pg, (⟨nm, none, 0, [], 0⟩ : Pg) = o := ⟨_, rfl⟩
  have HO : Hid (o.nm = nm ∧ o.bs = [] ∧ o.syn = 0) := by rw [← hoe]; exact ⟨rfl, rfl, rfl⟩
  have hosl : o.sl = .slice none 0 0 := by rw [← hoe]; rfl
  rw [hoe] at ho
  have hC := chg_keeps hb1 hk1
  have hvk : ¬ v.ownBlock = some k := fun e => by
    obtain ⟨cur, hcur⟩ := own_blockP h.own e
    rw [h.box] at hcur
    simp at hcur
  have d1 := (hC.cell (p := ⟨k, 0, none⟩) (h.lt (.inl rfl)).1 hvk).trans c1
  have df := Lib.frozen_of_heap (hC.block h.box hvk) 0
  obtain ⟨V2, hV2⟩ : ∃ V2, w1.setCell ⟨k, 0, none⟩ (.slice (some ⟨g, 0, none⟩) (ps.length + 1) cap) = V2 := ⟨_, rfl⟩
  have heach : ∀ x ∈ ps, OwnF byU 1 5 w1 B x.sl x.bs := fun x hx => (h.each x hx).chg hC (fun q hq e => by
    obtain ⟨c3, h3⟩ := own_block ((h.each x hx).mono (Nat.zero_le _)) hq
    obtain ⟨c4, h4⟩ := own_blockP h.own e
    rw [h3] at h4
    simp at h4)
  obtain ⟨hB2, hC2, hCk⟩ := h.store hC ho (fun x hx => by
    rcases List.mem_append.1 hx with hx | hx
    · exact heach x hx
    · simp at hx
      rw [hx, hosl, HO.out.2.1]
      exact ownF_nil _ _) hV2
  have HY : Hid (Chg (BB k v ps) w V2 ∧ ∀ q, BB k (.slice (some ⟨g, 0, none⟩) (ps.length + 1) cap) (ps ++ [o]) q → BB k v ps q ∨ w.heap.size ≤ q) := ⟨hC2, fun q hq => by
    rcases hq with h1 | h1 | ⟨y, hy, h1⟩
    · exact .inl (.inl h1)
    · simp [Value.ownBlock] at h1
      subst h1
      rcases hat with h2 | h2
      · exact .inl (.inr (.inl h2))
      · exact .inr (Nat.le_of_lt h2)
    · rcases List.mem_append.1 hy with hy | hy
      · exact .inl (.inr (.inr ⟨y, hy, h1⟩))
      · simp at hy
        rw [hy, hosl] at h1
        simp [Value.ownBlock] at h1⟩
  have hbV : Rw byU 1 V2 b bn bc Wb := hb0.below (hwb.trans (hC2.below (fun g hg => Nat.le_trans hbs (h.lt hg).2) hwb.size))
  obtain ⟨cur, hcur⟩ := own_blockP hB2.own (g := g) rfl
  obtain ⟨v2, hv2⟩ : ∃ v2, (Value.slice (some ⟨g, 0, none⟩) (ps.length + 1) cap) = v2 := ⟨_, rfl⟩
  have hlen1 : (ps ++ [o]).length = ps.length + 1 := by simp
  have hrow2 := hB2.own.rw_ layPg
  obtain ⟨g', off, o', hoa, hgl, hoi, hcell⟩ := hrow2.at ps.length (by omega)
  have hox : o = o' := by simpa using hoi
  subst hox
  simp only [Option.some.injEq, Addr.mk.injEq, and_true] at hoa
  obtain ⟨rfl, rfl⟩ := hoa
  have o1 := hcell 1 _ rfl
  rw [Nat.zero_add] at o1
  have e1 := box1 hB2.box
  have HX : Hid (BkAt V2 k B v2 (ps ++ o :: []) ∧ v2 = .slice (some ⟨g, 0, none⟩) (ps ++ o :: []).length cap ∧ Rw byU 1 V2 b bn bc Wb ∧ o.bs.length + bn ≤ 1099511627776 ∧ Wb.length = bn ∧ V2.heap[g]? = some (.cells cur 95) ∧ B ≤ V2.heap.size) := ⟨hv2 ▸ hB2, by rw [hlen1]; exact hv2.symm, hbV, by rw [HO.out.2.1]; simpa using hsum, hb.len, hcur, by have := hC2.size; omega⟩
  rw [hv] at hr
  rw [hv2] at HY
  clear h hv hrow hb hsum hl hB ho hb1 hk1 hs1 hat hoe hosl hC hvk heach hB2 hC2 hCk hbV hcur hv2 hrow2 hgl hoi hcell hb0 hwb hbs
  obtain ⟨n, hn⟩ : ∃ n, ps.length = n := ⟨_, rfl⟩
  rename_i hnb
  rw [hn] at c1 d1 hr hV2 e1 o1 hnb
  have HN : Hid (ps.length = n) := hn
  have HN1 : Hid ((ps ++ o :: []).length = n + 1) := by rw [hlen1, hn]; exact rfl
  clear hn hlen1
  obtain ⟨n1, hn1⟩ : ∃ n1, n + 1 = n1 := ⟨_, rfl⟩
  have gw : IntKind.i64.wrap ((n1 : Int) - 1) = (n : Int) := by rw [IntWalk.i64_in _ (by omega)]; omega
  have gn : ¬ ((n : Int) < 0) := by omega
  have gl : (n : Int) < (n1 : Int) := by omega
  rw [hn1] at HN1 hr hV2 e1
  clear hn1 hnb
  go_enter Try.func25, Try.ntmps25
  go_wp2_with fail
  refine HPG.out.mono ?_
  rintro e wz ⟨rfl, hz⟩
  rw [hz]
  clear hz wz
  go_wp2_with (at_builtin; refine wpList_append_hr rfl _ _ 60 rfl _ _ rfl rfl hr ?_)
  have HKP : Hid (∀ W, Below V2.heap.size V2 W → W.cell? ⟨k, 0, none⟩ = some (.slice (some ⟨g, 0, none⟩) n1 cap)) := fun W hb => by
    have h1 := box1 ((HX.out.1.below hb).box)
    rw [h1, HX.out.2.1, HN1.out]
  have hkg : k ≠ g := fun e => by
    have h1 := HX.out.1.box
    rw [e, HX.out.2.2.2.2.2.1] at h1
    simp at h1
  have HKG : Hid (k ≠ g) := hkg
  clear hkg
  refine wp_region_held_drew (S := (fun W => W.cell? ⟨k, 0, none⟩ = some (.slice (some ⟨g, 0, none⟩) n1 cap))) (by kernel_rfl) ?hS1 (fun hHeld => ?rest1)
  case hS1 => exact HKP.out _ ((Below.refl _ _).drew)
  refine takeD (i := 0) (d := some 29) (v := ?vT2) rfl rfl (by kernel_rfl) (by kernel_rfl) (by kernel_rfl) (fun _ _ _ h => h) (Or.inl ⟨by rfl, ?hyT2⟩) (by assumption) ?rstT2
  case hyT2 => (intro w hSw; (try dsimp only at hSw); go_simp; (try with_reducible rfl))
  try simp only [Act.put, List.setIfInBounds_toArray, List.set_cons_zero, List.set_cons_succ]
  refine takeD (i := 1) (d := some 30) (v := ?vT3) rfl rfl (by kernel_rfl) (by kernel_rfl) (by kernel_rfl) (fun _ _ _ h => h) (Or.inl ⟨by rfl, ?hyT3⟩) (by assumption) ?rstT3
  case hyT3 => (intro w hSw; (try dsimp only at hSw); go_simp; (try with_reducible rfl))
  try simp only [Act.put, List.setIfInBounds_toArray, List.set_cons_zero, List.set_cons_succ]
  refine takeD (i := 2) (d := some 31) (v := ?vT4) rfl rfl (by kernel_rfl) (by kernel_rfl) (by kernel_rfl) (fun _ _ _ h => h) (Or.inl ⟨by rfl, ?hyT4⟩) (by assumption) ?rstT4
  case hyT4 => (intro w hSw; (try dsimp only at hSw); go_simp; (try with_reducible rfl))
  try simp only [Act.put, List.setIfInBounds_toArray, List.set_cons_zero, List.set_cons_succ]
  refine takeD (i := 3) (d := some 32) (v := ?vT5) rfl rfl (by kernel_rfl) (by kernel_rfl) (by kernel_rfl) (fun _ _ _ h => h) (Or.inl ⟨by rfl, ?hyT5⟩) (by assumption) ?rstT5
  case hyT5 => (intro w hSw; (try dsimp only at hSw); go_simp; (try with_reducible rfl))
  try simp only [Act.put, List.setIfInBounds_toArray, List.set_cons_zero, List.set_cons_succ]
  refine takeD (i := 4) (d := some 33) (v := ?vT6) rfl rfl (by kernel_rfl) (by kernel_rfl) (by kernel_rfl) (fun _ _ _ h => h) (Or.inl ⟨by rfl, ?hyT6⟩) (by assumption) ?rstT6
  case hyT6 => (intro w hSw; (try dsimp only at hSw); go_simp; (try with_reducible rfl))
  try simp only [Act.put, List.setIfInBounds_toArray, List.set_cons_zero, List.set_cons_succ]
  refine takeD (i := 5) (d := some 34) (v := ?vT7) rfl rfl (by kernel_rfl) (by kernel_rfl) (by kernel_rfl) (fun _ _ _ h => h) (Or.inl ⟨by rfl, ?hyT7⟩) (by assumption) ?rstT7
  case hyT7 => (intro w hSw; (try dsimp only at hSw); go_simp; (try with_reducible rfl))
  try simp only [Act.put, List.setIfInBounds_toArray, List.set_cons_zero, List.set_cons_succ]
  refine takeD (i := 6) (d := some 35) (v := ?vT8) rfl rfl (by kernel_rfl) (by kernel_rfl) (by kernel_rfl) (fun _ _ _ h => h) (Or.inl ⟨by rfl, ?hyT8⟩) (by assumption) ?rstT8
  case hyT8 => (intro w hSw; (try dsimp only at hSw); go_simp; (try with_reducible rfl))
  try simp only [Act.put, List.setIfInBounds_toArray, List.set_cons_zero, List.set_cons_succ]
  refine takeD (i := 7) (d := some 36) (v := ?vT9) rfl rfl (by kernel_rfl) (by kernel_rfl) (by kernel_rfl) (fun _ _ _ h => h) (Or.inl ⟨by rfl, ?hyT9⟩) (by assumption) ?rstT9
  case hyT9 => (intro w hSw; (try dsimp only at hSw); go_simp; (try with_reducible rfl))
  try simp only [Act.put, List.setIfInBounds_toArray, List.set_cons_zero, List.set_cons_succ]
  refine takeD (i := 8) (d := some 37) (v := ?vT10) rfl rfl (by kernel_rfl) (by kernel_rfl) (by kernel_rfl) (fun _ _ _ h => h) (Or.inl ⟨by rfl, ?hyT10⟩) (by assumption) ?rstT10
  case hyT10 => (intro w hSw; (try dsimp only at hSw); go_simp; (try with_reducible rfl))
  try simp only [Act.put, List.setIfInBounds_toArray, List.set_cons_zero, List.set_cons_succ]
  refine takeD (i := 9) (d := some 38) (v := ?vT11) rfl rfl (by kernel_rfl) (by kernel_rfl) (by kernel_rfl) (fun _ _ _ h => h) (Or.inl ⟨by rfl, ?hyT11⟩) (by assumption) ?rstT11
  case hyT11 => (intro w hSw; (try dsimp only at hSw); go_simp; (try with_reducible rfl))
  try simp only [Act.put, List.setIfInBounds_toArray, List.set_cons_zero, List.set_cons_succ]
  refine takeD (i := 10) (d := some 39) (v := ?vT12) rfl rfl (by kernel_rfl) (by kernel_rfl) (by kernel_rfl) (fun _ _ _ h => h) (Or.inl ⟨by rfl, ?hyT12⟩) (by assumption) ?rstT12
  case hyT12 => (intro w hSw; (try dsimp only at hSw); go_simp; (try with_reducible rfl))
  try simp only [Act.put, List.setIfInBounds_toArray, List.set_cons_zero, List.set_cons_succ]
  refine takeD (i := 11) (d := some 40) (v := ?vT13) rfl rfl (by kernel_rfl) (by kernel_rfl) (by kernel_rfl) (fun _ _ _ h => h) (Or.inl ⟨by rfl, ?hyT13⟩) (by assumption) ?rstT13
  case hyT13 => (intro w hSw; (try dsimp only at hSw); go_simp; (try with_reducible rfl))
  try simp only [Act.put, List.setIfInBounds_toArray, List.set_cons_zero, List.set_cons_succ]
  refine takeD (i := 14) (d := some 43) (v := ?vT14) rfl rfl (by kernel_rfl) (by kernel_rfl) (by kernel_rfl) (fun _ _ _ h => h) (Or.inl ⟨by rfl, ?hyT14⟩) (by assumption) ?rstT14
  case hyT14 => (intro w hSw; (try dsimp only at hSw); go_simp; (try with_reducible rfl))
  try simp only [Act.put, List.setIfInBounds_toArray, List.set_cons_zero, List.set_cons_succ]
  refine wpAnyH_ready (rs := [12]) (by kernel_rfl) (by simp) ?_
  refine AllReadyH.cons rfl (fun K hK => ?_) AllReadyH.nil
  go_simp
  clear hHeld
  refine hK.out _ _ ?hS15 (fun hHeld => ?rest15)
  case hS15 => exact HKP.out _ ((Below.refl _ _).drew)
  clear hK K
  try simp only [Act.put, List.setIfInBounds_toArray, List.set_cons_zero, List.set_cons_succ]
  refine wpAnyH_ready (rs := [13]) (by kernel_rfl) (by simp) ?_
  refine AllReadyH.cons rfl (fun K hK => ?_) AllReadyH.nil
  go_simp
  refine (copied_any ((((HX.out.1.each o (by simp)).rw_ layU)).below ((Below.refl _ _).drew)) (by have := HX.out.2.2.2.1; omega)).mono ?_
  rintro e w2 ⟨a2, c2, rfl, ho2, hb2⟩
  have hb02 : Below V2.heap.size V2 w2 := ((Below.refl _ _).drew).trans hb2
  have H2 : Hid (OwnF byU 1 5 w2 V2.heap.size (.slice a2 o.bs.length c2) o.bs ∧ Below V2.heap.size V2 w2 ∧ V2.heap.size ≤ w2.heap.size ∧ Rw byU 1 w2 b bn bc Wb) := ⟨ho2, hb02, hb02.size, HX.out.2.2.1.below hb02⟩
  clear ho2 hb2 hb02
  clear hHeld
  refine hK.out _ _ ?hS16 (fun hHeld => ?rest16)
  case hS16 => exact HKP.out _ H2.out.2.1
  clear hK K
  try simp only [Act.put, List.setIfInBounds_toArray, List.set_cons_zero, List.set_cons_succ]
  refine wpAnyH_ready (rs := [15]) (by kernel_rfl) (by simp) ?_
  refine AllReadyH.cons rfl (fun K hK => ?_) AllReadyH.nil
  obtain ⟨a3, c3, w3, hr3, ho3, hb3, hk3⟩ := appendU kindU layU H2.out.1 H2.out.2.2.1 H2.out.2.2.2 (by have := HX.out.2.2.2.1; omega) (by have := HX.out.2.2.2.1; omega) 22
  rw [if_pos (by rfl)]
  refine wp_append_hr (.tmp 42) (.tmp 43) 22 (some 44) rfl rfl _ _ rfl rfl hr3 ?_
  have H3 : Hid (OwnF byU 1 5 w3 V2.heap.size (.slice a3 (o.bs.length + bn) c3) (o.bs ++ Wb) ∧ Below V2.heap.size V2 w3) := ⟨ho3, H2.out.2.1.trans hb3⟩
  clear ho3 hb3 hk3
  clear hHeld
  refine hK.out _ _ ?hS17 (fun hHeld => ?rest17)
  case hS17 => exact HKP.out _ H3.out.2
  clear hK K
  try simp only [Act.put, List.setIfInBounds_toArray, List.set_cons_zero, List.set_cons_succ]
  refine takeD (i := 16) (d := some 45) (v := ?vT18) rfl rfl (by kernel_rfl) (by kernel_rfl) (by kernel_rfl) (fun _ _ _ h => h) (Or.inl ⟨by rfl, ?hyT18⟩) (by assumption) ?rstT18
  case hyT18 => (intro w hSw; (try dsimp only at hSw); go_simp; (try with_reducible rfl))
  try simp only [Act.put, List.setIfInBounds_toArray, List.set_cons_zero, List.set_cons_succ]
  refine takeD (i := 17) (d := some 46) (v := ?vT19) rfl rfl (by kernel_rfl) (by kernel_rfl) (by kernel_rfl) (fun _ _ _ h => h) (Or.inl ⟨by rfl, ?hyT19⟩) (by assumption) ?rstT19
  case hyT19 => (intro w hSw; (try dsimp only at hSw); go_simp; (try with_reducible rfl))
  try simp only [Act.put, List.setIfInBounds_toArray, List.set_cons_zero, List.set_cons_succ]
  have hg3 : w3.heap[g]? = some (.cells cur 95) := (H3.out.2.block _ (Array.getElem?_eq_some_iff.1 HX.out.2.2.2.2.2.1).1).trans HX.out.2.2.2.2.2.1
  have o3 := (H3.out.2.cell (p := ⟨g, n * 3 + 1, none⟩) (Array.getElem?_eq_some_iff.1 HX.out.2.2.2.2.2.1).1).trans o1
  have q3 := Lib.frozen_of_heap hg3 (n * 3 + 1)
  obtain ⟨V8, hV8⟩ : ∃ V8, w3.setCell ⟨g, n * 3 + 1, none⟩ (.slice a3 (o.bs.length + bn) c3) = V8 := ⟨_, rfl⟩
  have hlen8 : (o.bs ++ Wb).length = o.bs.length + bn := by rw [List.length_append, HX.out.2.2.2.2.1]
  have hset := (HX.out.1.below H3.out.2).set HX.out.2.1 (x' := ⟨o.nm, a3, c3, o.bs ++ Wb, o.syn⟩) 1 (.slice a3 (o.bs.length + bn) c3) (by decide) (by show [_, Value.slice a3 (o.bs ++ Wb).length c3, _] = _; rw [hlen8]; rfl) (W' := V8) (by rw [HN.out]; exact hV8) (by show OwnF byU 1 5 w3 B (.slice a3 (o.bs ++ Wb).length c3) (o.bs ++ Wb); rw [hlen8]; exact H3.out.1.mono HX.out.2.2.2.2.2.2)
  have H8 : Hid (BkAt V8 k B v2 (ps ++ ⟨o.nm, a3, c3, o.bs ++ Wb, o.syn⟩ :: []) ∧ Chg (fun q => q = g) w3 V8) := hset
  have hge3 : ∀ q, (Value.slice a3 (o.bs.length + bn) c3).ownBlock = some q → V2.heap.size ≤ q := fun q hq => H3.out.1.ge hq
  have HFN : Hid (WroteP V2 V8 k B v2 (ps ++ o :: []) ps [] o.nm (o.bs ++ Wb) o.syn) := by
    refine ⟨⟨o.nm, a3, c3, o.bs ++ Wb, o.syn⟩, rfl, rfl, rfl, v2, H8.out.1, (Chg.of_below H3.out.2).trans (H8.out.2.mono (fun q _ e => ?_)), fun q hq => ?_⟩
    · exact .inr (.inl (by rw [e, HX.out.2.1]; rfl))
    · rcases hq with h1 | h1 | ⟨y, hy, h1⟩
      · exact .inl (.inl h1)
      · exact .inl (.inr (.inl h1))
      · rcases List.mem_append.1 hy with hy | hy
        · exact .inl (.inr (.inr ⟨y, List.mem_append_left _ hy, h1⟩))
        · rcases List.mem_cons.1 hy with rfl | hy
          · exact .inr (hge3 q (by have h2 : (Value.slice a3 (o.bs ++ Wb).length c3).ownBlock = some q := h1; rw [hlen8] at h2; exact h2))
          · exact .inl (.inr (.inr ⟨y, List.mem_append_right _ (List.mem_cons_of_mem _ hy), h1⟩))
  clear hg3 hlen8 hset hge3
  refine wpAnyH_ready (rs := [18]) (by kernel_rfl) (by simp) ?_
  refine AllReadyH.cons rfl (fun K hK => ?_) AllReadyH.nil
  go_simp
  clear hHeld
  refine hK.out _ _ ?hS20 (fun hHeld => ?rest20)
  case hS20 => exact (H8.out.2.cell (p := ⟨k, 0, none⟩) (Nat.lt_of_lt_of_le (HX.out.1.lt (.inl rfl)).1 H3.out.2.size) HKG.out).trans (HKP.out _ H3.out.2)
  clear hK K
  try simp only [Act.put, List.setIfInBounds_toArray, List.set_cons_zero, List.set_cons_succ]
  refine wpAnyH_done (by kernel_rfl) ?_ _
  go_wp2_with fail
  go_end0
  refine ⟨rfl, ?_⟩
  obtain ⟨x', e1, e2, e3, e4⟩ := HFN.out
  exact ⟨x', e1.trans HO.out.1, by rw [e2, HO.out.2.1, List.nil_append], e3.trans HO.out.2.2, BNx.trans HY.out.1 HY.out.2 e4⟩
end Go.Proofs.Ytaclgiakinoocaa
