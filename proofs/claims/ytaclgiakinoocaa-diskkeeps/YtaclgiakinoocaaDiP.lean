import Derived.Test.YtaclgiakinoocaaDiO
/-! DiskKeeps where the limit is taken. -/
namespace Go.Proofs.Ytaclgiakinoocaa
open Go.RowKit Go.Lib Go.Sort Go.Shelf
set_option maxRecDepth 100000

theorem grow_len (nm bs : List UInt8) (fs : List Fl) : (growP nm bs fs).length ≤ fs.length + 1 := by
  unfold growP
  rw [List.length_map]
  exact enter_length nm fs
theorem grow_nodup {nm bs : List UInt8} {fs : List Fl} (hn : (fs.map (·.nm)).Nodup) : ((growP nm bs fs).map (·.nm)).Nodup := by
  have h1 : (growP nm bs fs).map (·.nm) = (enter nm fs).map (·.nm) := by
    unfold growP
    rw [List.map_map]
    refine List.map_congr_left fun f _ => ?_
    show (growF nm bs f).nm = f.nm
    unfold growF
    split <;> rfl
  rw [h1]
  unfold enter
  split
  · exact hn
  · rename_i h2
    rw [List.map_append, List.nodup_append]
    refine ⟨hn, by simp, fun a ha b hb e => h2 ?_⟩
    obtain ⟨f, hf, hfa⟩ := List.mem_map.1 ha
    rw [List.any_eq_true]
    refine ⟨f, hf, decide_eq_true ?_⟩
    simp at hb
    rw [hfa, e, hb]
theorem grow_syn {nm bs : List UInt8} {fs : List Fl} (hs : ∀ f ∈ fs, f.syn ≤ f.bs.length) : ∀ f ∈ growP nm bs fs, f.syn ≤ f.bs.length := by
  intro f hf
  unfold growP at hf
  obtain ⟨g, hg, rfl⟩ := List.mem_map.1 hf
  have h1 : g.syn ≤ g.bs.length := by
    unfold enter at hg
    split at hg
    · exact hs g hg
    · rcases List.mem_append.1 hg with hg | hg
      · exact hs g hg
      · simp at hg
        rw [hg]
        exact Nat.zero_le _
  unfold growF
  split
  · show g.syn ≤ (g.bs ++ bs).length
    rw [List.length_append]
    omega
  · exact h1
/-- KS, and the book's blocks lie below m. -/
structure KSm (m B : Nat) (W0 W : World) (p k : Nat) (S : Dk) (fs : List Fl) : Prop where
  two : ∃ b xs ck v ps, DiskAt W p b S xs ck ∧ BkAt W k B v ps ∧ (∀ g, Blk p b xs g → ¬ BB k v ps g) ∧ (∀ g, Blk p b xs g → B ≤ g) ∧ (ps.map Pg.fl).Perm fs ∧ ∀ g, BB k v ps g → g < m
  below : Below B W0 W
theorem KSm.ks {m B : Nat} {W0 W : World} {p k : Nat} {S : Dk} {fs : List Fl} (h : KSm m B W0 W p k S fs) : KS B W0 W p k S fs := by
  obtain ⟨b, xs, ck, v, ps, h1, h2, h3, h4, h5, _⟩ := h.two
  exact ⟨⟨b, xs, ck, v, ps, h1, h2, h3, h4, h5⟩, h.below⟩
theorem KSm.grow {m B : Nat} {W0 W W' : World} {p k : Nat} {S : Dk} {fs : List Fl} (h : KSm m B W0 W p k S fs) (hB : B ≤ W0.heap.size) (hb : Below W.heap.size W W') : KSm m B W0 W' p k S fs := by
  obtain ⟨b, xs, ck, v, ps, h1, h2, h3, h4, h5, h6⟩ := h.two
  exact ⟨⟨b, xs, ck, v, ps, h1.below hb, h2.below hb, h3, h4, h5, h6⟩, h.below.trans (hb.mono (Nat.le_trans hB h.below.size))⟩
theorem ks_wrote2 {m B : Nat} {W0 W : World} {p k : Nat} {T : Dk} {fs : List Fl} (hB : B ≤ W0.heap.size) (h : KSm m B W0 W p k T fs) (hc : fs.length ≤ 4398046511103) (hnd : (fs.map (·.nm)).Nodup) (nm : List UInt8) {ba : Option Addr} {bn bc : Nat} {Wb : List UInt8} {wb : World} (hb : Rw byU 1 wb ba bn bc Wb) (hwb : Below wb.heap.size wb W) (hbs : wb.heap.size ≤ B) (hs : used fs + bn ≤ 1099511627776) :
    Calls Try.prog 25 #[.pointer (some ⟨k, 0, none⟩), .string ⟨nm.toArray⟩, .slice ba bn bc] W fun e w' => e = .returned (.tuple #[]) ∧ KS B W0 w' p k T (growP nm Wb fs) ∧ ∀ g, m ≤ g → g < W.heap.size → w'.heap[g]? = W.heap[g]? := by
  obtain ⟨b, xs, ck, v, ps, h1, h2, h3, h4, h5, h6⟩ := h.two
  have hl := perm_len h5
  refine (wrote_step h2 (Nat.le_trans hB h.below.size) (by omega) h5 (names_nodup h5 hnd) nm hb hwb hbs hs).mono ?_
  rintro e w' ⟨e1, e2⟩
  refine ⟨e1, ks_book hB h1 h2 h3 h4 h.below e2, ?_⟩
  obtain ⟨ps', ⟨v', _, e3, _⟩, _⟩ := e2
  exact fun g hg1 hg2 => e3.2 g hg2 (fun hB => by have := h6 g hB; omega)
theorem ks_does2 {B : Nat} {W0 wo W : World} {p k : Nat} {S : Dk} {fs : List Fl} (hB : B ≤ W0.heap.size) (h : KS B W0 wo p k S fs) (hb : Below wo.heap.size wo W) {c : Nat} (hI : Inv S c) (hc : c ≤ 4398046511103) (o : OpR) (ho : OpIn W o) :
    Calls Try.prog 16 #[.pointer (some ⟨p, 0, none⟩), .agg #[.int .i64 o.kind, .string ⟨o.nm.toArray⟩, .slice o.ba o.B.length o.bc, .int .i64 o.N, .int .i64 o.M]] W fun e w' => ∃ E N M a1 n1 c1 a2 n2 c2 dn, e = .returned (.agg #[.int .i64 E, .int .i64 N, .int .i64 M, .slice a1 n1 c1, .slice a2 n2 c2, .bool dn]) ∧ E = ansE S o ∧ N = ansN S o ∧ KSm wo.heap.size B W0 w' p k (doesS S o) fs ∧ Inv (doesS S o) (c + 1) ∧ ∀ g, wo.heap.size ≤ g → g < W.heap.size → w'.heap[g]? = W.heap[g]? := by
  obtain ⟨b, xs, ck, v, ps, h0, h2', h3, h4, h5⟩ := h.two
  have h1 := h0.below hb
  have h2 := h2'.below hb
  have hbl0 : Below B W0 W := h.below.trans (hb.mono (Nat.le_trans hB h.below.size))
  have hI2 := inv_does h1 hI o ho.N ho.M
  refine (does_full h1 hI (by omega) o ho).mono ?_
  rintro e w' ⟨E, N, M, a1, n1, c1, a2, n2, c2, dn, rfl, hA, xs', ck', hD, hC, hx⟩
  have hbl : Below B W w' := hC.below h4 (Nat.le_trans hB hbl0.size)
  refine ⟨E, N, M, a1, n1, c1, a2, n2, c2, dn, rfl, hA.e, hA.n, ⟨⟨b, xs', ck', v, ps, hD, h2.chg hC (fun g hg hq => h3 g hq hg), fun g hg hq => ?_, fun g hg => ?_, h5, fun g hg => (h2'.lt hg).1⟩, hbl0.trans hbl⟩, hI2, fun g hg1 hg2 => hC.2 g hg2 (fun hB => by have := h0.lt hB; omega)⟩
  · rcases hx g hg with h6 | h6
    · exact h3 g h6 hq
    · have := (h2.lt hq).1
      omega
  · rcases hx g hg with h6 | h6
    · exact h4 g h6
    · have := hbl0.size
      omega
/-- a call that is refused leaves the files -/
theorem same_fs {S : Dk} {o : OpR} (hd : S.down = false) (hd' : (doesS S o).down = false) (hE : ¬ OkE (ansE S o)) : (doesS S o).fs = S.fs := by
  obtain ⟨kind, nm, ba, bc, Bs, N, M⟩ := o
  by_cases k1 : kind = 1
  · subst k1
    rcases calm_app (nm := nm) (bs := Bs) hd hd' with h | h
    · exact absurd h.1 hE
    · exact h.2
  by_cases k2 : kind = 2
  · subst k2
    rcases calm_sync (nm := nm) hd hd' with h | h
    · exact absurd h.1 hE
    · exact h.2
  by_cases k3 : kind = 3
  · subst k3
    rcases calm_cut (nm := nm) (n := N) hd hd' with h | h
    · exact absurd h.1 hE
    · exact h.2
  by_cases k4 : kind = 4
  · subst k4
    rcases calm_remove (nm := nm) hd hd' with h | h
    · exact absurd h.1 hE
    · exact h.2
  by_cases k11 : kind = 11
  · subst k11
    rcases calm_turn (nm := nm) (n := N) (c := maskOf M) hd with h | h
    · exact absurd h.1 hE
    · exact h.2
  · exact calm_else k1 k2 k3 k4 k11 hd'
set_option maxHeartbeats 8000000 in
theorem diskKeeps_good {w : World} (l0 : Nat) (hl0 : l0 ≤ 1099511627776) (fa : Option Addr) (fl fc : Nat) {oa : Option Addr} {on oc : Nat} {ops : List OpR} (hops : Rw opV 5 w oa on oc ops) (hin : ∀ o ∈ ops, OpIn w o) (hon : on ≤ 2199023255551) :
    Calls Try.prog 5 #[.agg #[.int .i64 (l0 : Int), .slice fa fl fc, .slice oa on oc]] w fun e w' => e = .returned (.bool true) ∧ Below w.heap.size w w' := by
  have HNU : Hid (∀ x w, Calls Try.prog 8 #[.int .i64 x] w fun e w' => e = .returned (.int .i64 x) ∧ w' = w) := num_any
  obtain ⟨W0, hW0⟩ : ∃ W0, w.alloc (.cells #[.int .i64 (l0 : Int), .slice fa fl fc, .slice oa on oc] 45) = W0 := ⟨_, rfl⟩
  have hs0 : W0.heap.size = w.heap.size + 1 := by rw [← hW0, World.size_alloc]
  have hb0 : Below w.heap.size w W0 := by rw [← hW0]; exact (Below.refl _ _).alloc (Nat.le_refl _) _
  have hq0 : W0.heap[w.heap.size]? = some (.cells #[.int .i64 (l0 : Int), .slice fa fl fc, .slice oa on oc] 45) := by rw [← hW0]; exact (MapKept.heap_alloc w _).1
  have hWW : ∀ W, Below W0.heap.size W0 W → Below w.heap.size w W := fun W hb => hb0.trans (hb.mono (by omega))
  have HW : Hid (W0.heap[w.heap.size]? = some (.cells #[.int .i64 (l0 : Int), .slice fa fl fc, .slice oa on oc] 45) ∧ w.heap.size < W0.heap.size ∧ (∀ W, Below W0.heap.size W0 W → Below w.heap.size w W)) := ⟨hq0, by omega, hWW⟩
  have HOPS : Hid (Rw opV 5 w oa on oc ops ∧ (∀ o ∈ ops, OpIn w o) ∧ on ≤ 2199023255551 ∧ l0 ≤ 1099511627776) := ⟨hops, hin, hon, hl0⟩
  obtain ⟨s0, s1, s2⟩ := box3 hq0
  have HNW : Hid (Calls Try.prog 7 #[.int .i64 (l0 : Int)] W0 fun e w' => ∃ p, e = .returned (.tuple #[.pointer (some ⟨p, 0, none⟩), .int .i64 0]) ∧ DS W0.heap.size W0 w' p ⟨l0, [], false, 0, 0⟩) := ds_new (Nat.le_refl _) (Below.refl _ _) l0 hl0
  have honc : (on : Int) ≤ 2199023255551 := by omega
  have g1 : ¬ ((l0 : Int) < 0) := by omega
  have g2 : ¬ ((1099511627776 : Int) < (l0 : Int)) := by omega
  clear hs0 hb0 hq0 hWW hops hin hl0 hon
  go_enter Try.func5, Try.ntmps5
  go_wp2_with fail
  refine HNW.out.mono ?_
  rintro e w1 ⟨p, rfl, hd⟩
  have HD1 : Hid (DS W0.heap.size W0 w1 p ⟨l0, [], false, 0, 0⟩) := hd
  clear hd HNW s0 s1 s2 hW0
  go_wp2_with fail
  refine (HNU.out _ _).mono ?_
  rintro e wz ⟨rfl, hz⟩
  rw [hz]
  clear hz wz
  go_wp2_with fail
  refine (awake_any _).mono ?_
  rintro e w2 ⟨rfl, hb2⟩
  have HD2 : Hid (DS W0.heap.size W0 w2 p ⟨l0, [], false, 0, 0⟩) := HD1.out.grow (Nat.le_refl _) hb2
  have hk3 : KS W0.heap.size W0 (w2.alloc (.cells #[.slice none 0 0] 62)) p w2.heap.size ⟨l0, [], false, 0, 0⟩ [] := ks_start (Nat.le_refl _) HD2.out rfl
  obtain ⟨W3, hW3⟩ : ∃ W3, w2.alloc (.cells #[.slice none 0 0] 62) = W3 := ⟨_, rfl⟩
  obtain ⟨k, hk⟩ : ∃ k, w2.heap.size = k := ⟨_, rfl⟩
  rw [hW3, hk] at hk3
  have HK3 : Hid (KS W0.heap.size W0 W3 p k ⟨l0, [], false, 0, 0⟩ []) := hk3
  clear hb2 HD1 hk3 HD2
  go_wp2_with fail
  clear hW3 hk
  go_loopw [8, 9] (fun vk vi wr => ∃ i : Nat, i ≤ on ∧ vi = .int .i64 (i : Int) ∧ ∃ (S : Dk) (keep : Int), vk = .int .i64 keep ∧ Hid (KS W0.heap.size W0 wr p k S S.fs ∧ Inv S i ∧ S.limit = l0 ∧ KpI S keep)) (fun _ vi _ => on - (RowKit.intOf vi).toNat)
  case atStart => exact ⟨0, Nat.zero_le _, rfl, ⟨l0, [], false, 0, 0⟩, 0, rfl, HK3.out, ⟨⟨HOPS.out.2.2.2, by simp [used], by simp, by simp⟩, by simp, by simp⟩, rfl, ⟨fun e => absurd rfl e, fun e => by cases e⟩⟩
  case round =>
    obtain ⟨wo, hwo⟩ : ∃ wo, wo = wr := ⟨_, rfl⟩
    subst hwo
    obtain ⟨i, hi, rfl, S, keep, rfl, hS⟩ := hrel
    have hbr := hS.out.1.below
    obtain ⟨s0, s1, s2⟩ := box3 ((hbr.block _ HW.out.2.1).trans HW.out.1)
    by_cases hlt : i < on
    · have hlt2 : (i : Int) < (on : Int) := by omega
      have gi : IntKind.i64.wrap ((i : Int) + 1) = ((i + 1 : Nat) : Int) := by rw [IntWalk.i64_in _ (by omega)]; omega
      have hbw := HW.out.2.2 wo hbr
      obtain ⟨g, off, o, hoa, hgl, hoi, hcell⟩ := (HOPS.out.1.below hbw).at i hlt
      subst hoa
      have o0 := hcell 0 _ rfl
      have o1 := hcell 1 _ rfl
      have o2 := hcell 2 _ rfl
      have o3 := hcell 3 _ rfl
      have o4 := hcell 4 _ rfl
      rw [Nat.add_zero] at o0
      have hoin := HOPS.out.2.1 o (List.mem_of_getElem? hoi)
      obtain ⟨V, hV⟩ : ∃ V, wo.alloc (.cells #[.int .i64 0, .string ⟨#[]⟩, .slice none 0 0, .int .i64 0, .int .i64 0] 51) = V := ⟨_, rfl⟩
      have hVb : Below wo.heap.size wo V := by rw [← hV]; exact (Below.refl _ _).alloc (Nat.le_refl _) _
      have hVh : V.heap[wo.heap.size]? = some (.cells #[.int .i64 0, .string ⟨#[]⟩, .slice none 0 0, .int .i64 0, .int .i64 0] 51) := by rw [← hV]; exact (MapKept.heap_alloc wo _).1
      obtain ⟨V2, hV2, hh2, hC2⟩ := set5 hVh (.int .i64 o.kind) (.string ⟨o.nm.toArray⟩) (.slice o.ba o.B.length o.bc) (.int .i64 o.N) (.int .i64 o.M)
      obtain ⟨z0, z1, z2, z3, z4⟩ := box5 hVh
      have k0 := Lib.frozen_of_heap hVh 0
      have k1 := Lib.frozen_of_heap hVh 1
      have k2 := Lib.frozen_of_heap hVh 2
      have k3 := Lib.frozen_of_heap hVh 3
      have k4 := Lib.frozen_of_heap hVh 4
      have hb2 : Below wo.heap.size wo V2 := hVb.trans (hC2.below (fun q e => by omega) hVb.size)
      have HR : Hid (Below wo.heap.size wo V2 ∧ V2.heap[wo.heap.size]? = some (.cells #[.int .i64 o.kind, .string ⟨o.nm.toArray⟩, .slice o.ba o.B.length o.bc, .int .i64 o.N, .int .i64 o.M] 51) ∧ OpIn w o ∧ Below w.heap.size w V2 ∧ OpIn V2 o) := ⟨hb2, hh2, hoin, hbw.trans (hb2.mono hbw.size), ⟨hoin.row.below (hbw.trans (hb2.mono hbw.size)), hoin.nm, hoin.N, hoin.M, hoin.B⟩⟩
      obtain ⟨e0, e1, e2, e3, e4⟩ := box5 hh2
      obtain ⟨d0, hd0⟩ : ∃ d0, S.down = d0 := ⟨_, rfl⟩
      obtain ⟨d1, hd1⟩ : ∃ d1, (doesS S o).down = d1 := ⟨_, rfl⟩
      have HDN : Hid (S.down = d0 ∧ (doesS S o).down = d1) := ⟨hd0, hd1⟩
      have HCD : Hid (Calls Try.prog 19 #[.pointer (some ⟨p, 0, none⟩)] V2 fun e w' => e = .returned (.bool d0) ∧ w' = V2) := by rw [← hd0]; exact ks_down (hS.out.1.grow (Nat.le_refl _) hb2)
      clear hb2 hh2 hoin hbw hC2 hVb hVh hcell hoi hgl hbr hd0 hd1
      go_wp2_with fail
      refine HCD.out.mono ?_
      rintro e wz ⟨rfl, hz⟩
      rw [hz]
      clear hz wz hV hV2 z0 z1 z2 z3 z4 k0 k1 k2 k3 k4 o0 o1 o2 o3 o4 HCD
      go_wp2_with fail
      refine (ks_does2 (Nat.le_refl _) hS.out.1 HR.out.1 hS.out.2.1 (by omega) o HR.out.2.2.2.2).mono ?_
      rintro e w5 ⟨E, N, M, a1, n1, c1, a2, n2, c2, dn, rfl, hE, hN, hK5, hI5, hf5⟩
      have hq5 : w5.heap[wo.heap.size]? = some (.cells #[.int .i64 o.kind, .string ⟨o.nm.toArray⟩, .slice o.ba o.B.length o.bc, .int .i64 o.N, .int .i64 o.M] 51) := (hf5 _ (Nat.le_refl _) (Array.getElem?_eq_some_iff.1 HR.out.2.1).1).trans HR.out.2.1
      obtain ⟨V5, hV5⟩ : ∃ V5, w5.alloc (.cells #[.int .i64 0, .int .i64 0, .int .i64 0, .slice none 0 0, .slice none 0 0, .bool false] 48) = V5 := ⟨_, rfl⟩
      have hV5b : Below w5.heap.size w5 V5 := by rw [← hV5]; exact (Below.refl _ _).alloc (Nat.le_refl _) _
      have hV5h : V5.heap[w5.heap.size]? = some (.cells #[.int .i64 0, .int .i64 0, .int .i64 0, .slice none 0 0, .slice none 0 0, .bool false] 48) := by rw [← hV5]; exact (MapKept.heap_alloc w5 _).1
      obtain ⟨V6, hV6, hh6, hC6⟩ := set6 hV5h (.int .i64 E) (.int .i64 N) (.int .i64 M) (.slice a1 n1 c1) (.slice a2 n2 c2) (.bool dn)
      obtain ⟨y0, y1, y2, y3, y4, y5⟩ := box6 hV5h
      have k0 := Lib.frozen_of_heap hV5h 0
      have k1 := Lib.frozen_of_heap hV5h 1
      have k2 := Lib.frozen_of_heap hV5h 2
      have k3 := Lib.frozen_of_heap hV5h 3
      have k4 := Lib.frozen_of_heap hV5h 4
      have k5 := Lib.frozen_of_heap hV5h 5
      have hb6 : Below w5.heap.size w5 V6 := hV5b.trans (hC6.below (fun q e => by omega) hV5b.size)
      have hq6 : V6.heap[wo.heap.size]? = some (.cells #[.int .i64 o.kind, .string ⟨o.nm.toArray⟩, .slice o.ba o.B.length o.bc, .int .i64 o.N, .int .i64 o.M] 51) := (hb6.block _ (Array.getElem?_eq_some_iff.1 hq5).1).trans hq5
      have HK6m : Hid (KSm wo.heap.size W0.heap.size W0 V6 p k (doesS S o) S.fs) := hK5.grow (Nat.le_refl _) hb6
      have HK6 : Hid (KS W0.heap.size W0 V6 p k (doesS S o) S.fs) := HK6m.out.ks
      have HX6 : Hid (V6.heap[wo.heap.size]? = some (.cells #[.int .i64 o.kind, .string ⟨o.nm.toArray⟩, .slice o.ba o.B.length o.bc, .int .i64 o.N, .int .i64 o.M] 51) ∧ Below w.heap.size w V6) := ⟨hq6, HW.out.2.2 _ HK6.out.below⟩
      have HS0 : Hid (S.fs.length ≤ 2199023255551 ∧ (S.fs.map (·.nm)).Nodup ∧ (∀ f ∈ S.fs, f.syn ≤ f.bs.length) ∧ used S.fs ≤ l0 ∧ l0 ≤ 1099511627776) := ⟨by have := hS.out.2.1.cnt; have := HOPS.out.2.2.1; omega, (ks_nodup hS.out.1).1, (ks_nodup hS.out.1).2, by have := hS.out.2.1.ok.use; rw [hS.out.2.2.1] at this; exact this, HOPS.out.2.2.2⟩
      have HI5 : Hid (Inv (doesS S o) (i + 1) ∧ (doesS S o).limit = l0 ∧ KpI (doesS S o) (keepK keep o E)) := ⟨hI5, by rw [limit_does]; exact hS.out.2.2.1, by rw [hE]; exact hS.out.2.2.2.does o⟩
      have HEN : Hid (E = ansE S o ∧ N = ansN S o) := ⟨hE, hN⟩
      obtain ⟨x0, x1, x2, x3, x4⟩ := box5 hq6
      obtain ⟨r0, r1, r2, r3, r4, r5⟩ := box6 hh6
      obtain ⟨s0, s1, s2⟩ := box3 ((HK6.out.below.block _ HW.out.2.1).trans HW.out.1)
      have HCD : Hid (Calls Try.prog 19 #[.pointer (some ⟨p, 0, none⟩)] V6 fun e w' => e = .returned (.bool d1) ∧ w' = V6) := by rw [← HDN.out.2]; exact ks_down HK6.out
      clear hE hN hK5 hI5 hf5 hq5 hV5b hV5h hC6 hh6 hb6 hq6 e0 e1 e2 e3 e4
      go_wp2_with fail
      refine HCD.out.mono ?_
      rintro e wz ⟨rfl, hz⟩
      rw [hz]
      clear hz wz hV5 hV6 y0 y1 y2 y3 y4 y5 k0 k1 k2 k3 k4 k5 HCD
      cases d0 with
      | true =>
        cases d1 with
        | true =>
          by_cases hq8 : o.kind = 8
          · skip
            have hq9 : ¬ o.kind = 9 := by omega
            have hq1 : ¬ o.kind = 1 := by omega
            by_cases hqE : E = 0
            · skip
              have hqF : ¬ E = 111 := by omega
              have hkk : keepK keep o E = o.M := by unfold keepK; rw [if_neg (by omega), if_pos (by omega)]
              have HKV : Hid (KpI (doesS S o) o.M) := by have := HI5.out.2.2; rwa [hkk] at this
              have t8 : (o.kind == 8) = true := by simp; omega
              have t9 : (o.kind == 9) = false := by simp; omega
              have t1 : (o.kind == 1) = false := by simp; omega
              have te : (E == 0) = true := by simp; omega
              have tf : (E == 111) = false := by simp; omega
              have hfs : (doesS S o).fs = S.fs := down_same HDN.out.1 o
              have HFIN : Hid (KS W0.heap.size W0 V6 p k (doesS S o) (doesS S o).fs ∧ Inv (doesS S o) (i + 1) ∧ (doesS S o).limit = l0 ∧ KpI (doesS S o) o.M) := ⟨by rw [hfs]; exact HK6.out, HI5.out.1, HI5.out.2.1, HKV.out⟩
              clear hkk hfs
              clear hq8 hq9 hqE hqF hq1
              go_wp2_with fail
              go_roundw
              case rel => exact ⟨i + 1, by omega, by first | rfl | go_num, doesS S o, o.M, rfl, HFIN.out⟩
              case measure => simp [RowKit.intOf]; omega
            · skip
              by_cases hqF : E = 111
              · skip
                have hkk : keepK keep o E = keep := by unfold keepK; rw [if_neg (by omega), if_neg (by omega)]
                have HKV : Hid (KpI (doesS S o) keep) := by have := HI5.out.2.2; rwa [hkk] at this
                have t8 : (o.kind == 8) = true := by simp; omega
                have t9 : (o.kind == 9) = false := by simp; omega
                have t1 : (o.kind == 1) = false := by simp; omega
                have te : (E == 0) = false := by simp; omega
                have tf : (E == 111) = true := by simp; omega
                have hfs : (doesS S o).fs = S.fs := down_same HDN.out.1 o
                have HFIN : Hid (KS W0.heap.size W0 V6 p k (doesS S o) (doesS S o).fs ∧ Inv (doesS S o) (i + 1) ∧ (doesS S o).limit = l0 ∧ KpI (doesS S o) keep) := ⟨by rw [hfs]; exact HK6.out, HI5.out.1, HI5.out.2.1, HKV.out⟩
                clear hkk hfs
                clear hq8 hq9 hqE hqF hq1
                go_wp2_with fail
                go_roundw
                case rel => exact ⟨i + 1, by omega, by first | rfl | go_num, doesS S o, keep, rfl, HFIN.out⟩
                case measure => simp [RowKit.intOf]; omega
              · skip
                have hkk : keepK keep o E = keep := by unfold keepK; rw [if_neg (by omega), if_neg (by omega)]
                have HKV : Hid (KpI (doesS S o) keep) := by have := HI5.out.2.2; rwa [hkk] at this
                have t8 : (o.kind == 8) = true := by simp; omega
                have t9 : (o.kind == 9) = false := by simp; omega
                have t1 : (o.kind == 1) = false := by simp; omega
                have te : (E == 0) = false := by simp; omega
                have tf : (E == 111) = false := by simp; omega
                have hfs : (doesS S o).fs = S.fs := down_same HDN.out.1 o
                have HFIN : Hid (KS W0.heap.size W0 V6 p k (doesS S o) (doesS S o).fs ∧ Inv (doesS S o) (i + 1) ∧ (doesS S o).limit = l0 ∧ KpI (doesS S o) keep) := ⟨by rw [hfs]; exact HK6.out, HI5.out.1, HI5.out.2.1, HKV.out⟩
                clear hkk hfs
                clear hq8 hq9 hqE hqF hq1
                go_wp2_with fail
                go_roundw
                case rel => exact ⟨i + 1, by omega, by first | rfl | go_num, doesS S o, keep, rfl, HFIN.out⟩
                case measure => simp [RowKit.intOf]; omega
          · skip
            by_cases hq9 : o.kind = 9
            · skip
              have hq1 : ¬ o.kind = 1 := by omega
              by_cases hqE : E = 0
              · skip
                have hqF : ¬ E = 111 := by omega
                have hkk : keepK keep o E = o.N := by unfold keepK; rw [if_pos (by omega)]
                have HKV : Hid (KpI (doesS S o) o.N) := by have := HI5.out.2.2; rwa [hkk] at this
                have t8 : (o.kind == 8) = false := by simp; omega
                have t9 : (o.kind == 9) = true := by simp; omega
                have t1 : (o.kind == 1) = false := by simp; omega
                have te : (E == 0) = true := by simp; omega
                have tf : (E == 111) = false := by simp; omega
                have hfs : (doesS S o).fs = S.fs := down_same HDN.out.1 o
                have HFIN : Hid (KS W0.heap.size W0 V6 p k (doesS S o) (doesS S o).fs ∧ Inv (doesS S o) (i + 1) ∧ (doesS S o).limit = l0 ∧ KpI (doesS S o) o.N) := ⟨by rw [hfs]; exact HK6.out, HI5.out.1, HI5.out.2.1, HKV.out⟩
                clear hkk hfs
                clear hq8 hq9 hqE hqF hq1
                go_wp2_with fail
                go_roundw
                case rel => exact ⟨i + 1, by omega, by first | rfl | go_num, doesS S o, o.N, rfl, HFIN.out⟩
                case measure => simp [RowKit.intOf]; omega
              · skip
                by_cases hqF : E = 111
                · skip
                  have hkk : keepK keep o E = keep := by unfold keepK; rw [if_neg (by omega), if_neg (by omega)]
                  have HKV : Hid (KpI (doesS S o) keep) := by have := HI5.out.2.2; rwa [hkk] at this
                  have t8 : (o.kind == 8) = false := by simp; omega
                  have t9 : (o.kind == 9) = true := by simp; omega
                  have t1 : (o.kind == 1) = false := by simp; omega
                  have te : (E == 0) = false := by simp; omega
                  have tf : (E == 111) = true := by simp; omega
                  have hfs : (doesS S o).fs = S.fs := down_same HDN.out.1 o
                  have HFIN : Hid (KS W0.heap.size W0 V6 p k (doesS S o) (doesS S o).fs ∧ Inv (doesS S o) (i + 1) ∧ (doesS S o).limit = l0 ∧ KpI (doesS S o) keep) := ⟨by rw [hfs]; exact HK6.out, HI5.out.1, HI5.out.2.1, HKV.out⟩
                  clear hkk hfs
                  clear hq8 hq9 hqE hqF hq1
                  go_wp2_with fail
                  go_roundw
                  case rel => exact ⟨i + 1, by omega, by first | rfl | go_num, doesS S o, keep, rfl, HFIN.out⟩
                  case measure => simp [RowKit.intOf]; omega
                · skip
                  have hkk : keepK keep o E = keep := by unfold keepK; rw [if_neg (by omega), if_neg (by omega)]
                  have HKV : Hid (KpI (doesS S o) keep) := by have := HI5.out.2.2; rwa [hkk] at this
                  have t8 : (o.kind == 8) = false := by simp; omega
                  have t9 : (o.kind == 9) = true := by simp; omega
                  have t1 : (o.kind == 1) = false := by simp; omega
                  have te : (E == 0) = false := by simp; omega
                  have tf : (E == 111) = false := by simp; omega
                  have hfs : (doesS S o).fs = S.fs := down_same HDN.out.1 o
                  have HFIN : Hid (KS W0.heap.size W0 V6 p k (doesS S o) (doesS S o).fs ∧ Inv (doesS S o) (i + 1) ∧ (doesS S o).limit = l0 ∧ KpI (doesS S o) keep) := ⟨by rw [hfs]; exact HK6.out, HI5.out.1, HI5.out.2.1, HKV.out⟩
                  clear hkk hfs
                  clear hq8 hq9 hqE hqF hq1
                  go_wp2_with fail
                  go_roundw
                  case rel => exact ⟨i + 1, by omega, by first | rfl | go_num, doesS S o, keep, rfl, HFIN.out⟩
                  case measure => simp [RowKit.intOf]; omega
            · skip
              by_cases hq1 : o.kind = 1
              · skip
                by_cases hqE : E = 0
                · skip
                  have hqF : ¬ E = 111 := by omega
                  have hkk : keepK keep o E = keep := by unfold keepK; rw [if_neg (by omega), if_neg (by omega)]
                  have HKV : Hid (KpI (doesS S o) keep) := by have := HI5.out.2.2; rwa [hkk] at this
                  have t8 : (o.kind == 8) = false := by simp; omega
                  have t9 : (o.kind == 9) = false := by simp; omega
                  have t1 : (o.kind == 1) = true := by simp; omega
                  have te : (E == 0) = true := by simp; omega
                  have tf : (E == 111) = false := by simp; omega
                  have hfs : (doesS S o).fs = S.fs := down_same HDN.out.1 o
                  have HFIN : Hid (KS W0.heap.size W0 V6 p k (doesS S o) (doesS S o).fs ∧ Inv (doesS S o) (i + 1) ∧ (doesS S o).limit = l0 ∧ KpI (doesS S o) keep) := ⟨by rw [hfs]; exact HK6.out, HI5.out.1, HI5.out.2.1, HKV.out⟩
                  clear hkk hfs
                  clear hq8 hq9 hqE hqF hq1
                  go_wp2_with fail
                  go_roundw
                  case rel => exact ⟨i + 1, by omega, by first | rfl | go_num, doesS S o, keep, rfl, HFIN.out⟩
                  case measure => simp [RowKit.intOf]; omega
                · skip
                  by_cases hqF : E = 111
                  · skip
                    have hkk : keepK keep o E = keep := by unfold keepK; rw [if_neg (by omega), if_neg (by omega)]
                    have HKV : Hid (KpI (doesS S o) keep) := by have := HI5.out.2.2; rwa [hkk] at this
                    have t8 : (o.kind == 8) = false := by simp; omega
                    have t9 : (o.kind == 9) = false := by simp; omega
                    have t1 : (o.kind == 1) = true := by simp; omega
                    have te : (E == 0) = false := by simp; omega
                    have tf : (E == 111) = true := by simp; omega
                    have hfs : (doesS S o).fs = S.fs := down_same HDN.out.1 o
                    have HFIN : Hid (KS W0.heap.size W0 V6 p k (doesS S o) (doesS S o).fs ∧ Inv (doesS S o) (i + 1) ∧ (doesS S o).limit = l0 ∧ KpI (doesS S o) keep) := ⟨by rw [hfs]; exact HK6.out, HI5.out.1, HI5.out.2.1, HKV.out⟩
                    clear hkk hfs
                    clear hq8 hq9 hqE hqF hq1
                    go_wp2_with fail
                    go_roundw
                    case rel => exact ⟨i + 1, by omega, by first | rfl | go_num, doesS S o, keep, rfl, HFIN.out⟩
                    case measure => simp [RowKit.intOf]; omega
                  · skip
                    have hkk : keepK keep o E = keep := by unfold keepK; rw [if_neg (by omega), if_neg (by omega)]
                    have HKV : Hid (KpI (doesS S o) keep) := by have := HI5.out.2.2; rwa [hkk] at this
                    have t8 : (o.kind == 8) = false := by simp; omega
                    have t9 : (o.kind == 9) = false := by simp; omega
                    have t1 : (o.kind == 1) = true := by simp; omega
                    have te : (E == 0) = false := by simp; omega
                    have tf : (E == 111) = false := by simp; omega
                    have hfs : (doesS S o).fs = S.fs := down_same HDN.out.1 o
                    have HFIN : Hid (KS W0.heap.size W0 V6 p k (doesS S o) (doesS S o).fs ∧ Inv (doesS S o) (i + 1) ∧ (doesS S o).limit = l0 ∧ KpI (doesS S o) keep) := ⟨by rw [hfs]; exact HK6.out, HI5.out.1, HI5.out.2.1, HKV.out⟩
                    clear hkk hfs
                    clear hq8 hq9 hqE hqF hq1
                    go_wp2_with fail
                    go_roundw
                    case rel => exact ⟨i + 1, by omega, by first | rfl | go_num, doesS S o, keep, rfl, HFIN.out⟩
                    case measure => simp [RowKit.intOf]; omega
              · skip
                by_cases hqE : E = 0
                · skip
                  have hqF : ¬ E = 111 := by omega
                  have hkk : keepK keep o E = keep := by unfold keepK; rw [if_neg (by omega), if_neg (by omega)]
                  have HKV : Hid (KpI (doesS S o) keep) := by have := HI5.out.2.2; rwa [hkk] at this
                  have t8 : (o.kind == 8) = false := by simp; omega
                  have t9 : (o.kind == 9) = false := by simp; omega
                  have t1 : (o.kind == 1) = false := by simp; omega
                  have te : (E == 0) = true := by simp; omega
                  have tf : (E == 111) = false := by simp; omega
                  have hfs : (doesS S o).fs = S.fs := down_same HDN.out.1 o
                  have HFIN : Hid (KS W0.heap.size W0 V6 p k (doesS S o) (doesS S o).fs ∧ Inv (doesS S o) (i + 1) ∧ (doesS S o).limit = l0 ∧ KpI (doesS S o) keep) := ⟨by rw [hfs]; exact HK6.out, HI5.out.1, HI5.out.2.1, HKV.out⟩
                  clear hkk hfs
                  clear hq8 hq9 hqE hqF hq1
                  go_wp2_with fail
                  go_roundw
                  case rel => exact ⟨i + 1, by omega, by first | rfl | go_num, doesS S o, keep, rfl, HFIN.out⟩
                  case measure => simp [RowKit.intOf]; omega
                · skip
                  by_cases hqF : E = 111
                  · skip
                    have hkk : keepK keep o E = keep := by unfold keepK; rw [if_neg (by omega), if_neg (by omega)]
                    have HKV : Hid (KpI (doesS S o) keep) := by have := HI5.out.2.2; rwa [hkk] at this
                    have t8 : (o.kind == 8) = false := by simp; omega
                    have t9 : (o.kind == 9) = false := by simp; omega
                    have t1 : (o.kind == 1) = false := by simp; omega
                    have te : (E == 0) = false := by simp; omega
                    have tf : (E == 111) = true := by simp; omega
                    have hfs : (doesS S o).fs = S.fs := down_same HDN.out.1 o
                    have HFIN : Hid (KS W0.heap.size W0 V6 p k (doesS S o) (doesS S o).fs ∧ Inv (doesS S o) (i + 1) ∧ (doesS S o).limit = l0 ∧ KpI (doesS S o) keep) := ⟨by rw [hfs]; exact HK6.out, HI5.out.1, HI5.out.2.1, HKV.out⟩
                    clear hkk hfs
                    clear hq8 hq9 hqE hqF hq1
                    go_wp2_with fail
                    go_roundw
                    case rel => exact ⟨i + 1, by omega, by first | rfl | go_num, doesS S o, keep, rfl, HFIN.out⟩
                    case measure => simp [RowKit.intOf]; omega
                  · skip
                    have hkk : keepK keep o E = keep := by unfold keepK; rw [if_neg (by omega), if_neg (by omega)]
                    have HKV : Hid (KpI (doesS S o) keep) := by have := HI5.out.2.2; rwa [hkk] at this
                    have t8 : (o.kind == 8) = false := by simp; omega
                    have t9 : (o.kind == 9) = false := by simp; omega
                    have t1 : (o.kind == 1) = false := by simp; omega
                    have te : (E == 0) = false := by simp; omega
                    have tf : (E == 111) = false := by simp; omega
                    have hfs : (doesS S o).fs = S.fs := down_same HDN.out.1 o
                    have HFIN : Hid (KS W0.heap.size W0 V6 p k (doesS S o) (doesS S o).fs ∧ Inv (doesS S o) (i + 1) ∧ (doesS S o).limit = l0 ∧ KpI (doesS S o) keep) := ⟨by rw [hfs]; exact HK6.out, HI5.out.1, HI5.out.2.1, HKV.out⟩
                    clear hkk hfs
                    clear hq8 hq9 hqE hqF hq1
                    go_wp2_with fail
                    go_roundw
                    case rel => exact ⟨i + 1, by omega, by first | rfl | go_num, doesS S o, keep, rfl, HFIN.out⟩
                    case measure => simp [RowKit.intOf]; omega
        | false =>
          by_cases hq8 : o.kind = 8
          · skip
            have hq9 : ¬ o.kind = 9 := by omega
            have hq1 : ¬ o.kind = 1 := by omega
            by_cases hqE : E = 0
            · skip
              have hqF : ¬ E = 111 := by omega
              have hkk : keepK keep o E = o.M := by unfold keepK; rw [if_neg (by omega), if_pos (by omega)]
              have HKV : Hid (KpI (doesS S o) o.M) := by have := HI5.out.2.2; rwa [hkk] at this
              have t8 : (o.kind == 8) = true := by simp; omega
              have t9 : (o.kind == 9) = false := by simp; omega
              have t1 : (o.kind == 1) = false := by simp; omega
              have te : (E == 0) = true := by simp; omega
              have tf : (E == 111) = false := by simp; omega
              have hfs : (doesS S o).fs = S.fs := down_same HDN.out.1 o
              have HFIN : Hid (KS W0.heap.size W0 V6 p k (doesS S o) (doesS S o).fs ∧ Inv (doesS S o) (i + 1) ∧ (doesS S o).limit = l0 ∧ KpI (doesS S o) o.M) := ⟨by rw [hfs]; exact HK6.out, HI5.out.1, HI5.out.2.1, HKV.out⟩
              clear hkk hfs
              clear hq8 hq9 hqE hqF hq1
              go_wp2_with fail
              go_roundw
              case rel => exact ⟨i + 1, by omega, by first | rfl | go_num, doesS S o, o.M, rfl, HFIN.out⟩
              case measure => simp [RowKit.intOf]; omega
            · skip
              by_cases hqF : E = 111
              · skip
                have hkk : keepK keep o E = keep := by unfold keepK; rw [if_neg (by omega), if_neg (by omega)]
                have HKV : Hid (KpI (doesS S o) keep) := by have := HI5.out.2.2; rwa [hkk] at this
                have t8 : (o.kind == 8) = true := by simp; omega
                have t9 : (o.kind == 9) = false := by simp; omega
                have t1 : (o.kind == 1) = false := by simp; omega
                have te : (E == 0) = false := by simp; omega
                have tf : (E == 111) = true := by simp; omega
                have hfs : (doesS S o).fs = S.fs := down_same HDN.out.1 o
                have HFIN : Hid (KS W0.heap.size W0 V6 p k (doesS S o) (doesS S o).fs ∧ Inv (doesS S o) (i + 1) ∧ (doesS S o).limit = l0 ∧ KpI (doesS S o) keep) := ⟨by rw [hfs]; exact HK6.out, HI5.out.1, HI5.out.2.1, HKV.out⟩
                clear hkk hfs
                clear hq8 hq9 hqE hqF hq1
                go_wp2_with fail
                go_roundw
                case rel => exact ⟨i + 1, by omega, by first | rfl | go_num, doesS S o, keep, rfl, HFIN.out⟩
                case measure => simp [RowKit.intOf]; omega
              · skip
                have hkk : keepK keep o E = keep := by unfold keepK; rw [if_neg (by omega), if_neg (by omega)]
                have HKV : Hid (KpI (doesS S o) keep) := by have := HI5.out.2.2; rwa [hkk] at this
                have t8 : (o.kind == 8) = true := by simp; omega
                have t9 : (o.kind == 9) = false := by simp; omega
                have t1 : (o.kind == 1) = false := by simp; omega
                have te : (E == 0) = false := by simp; omega
                have tf : (E == 111) = false := by simp; omega
                have hfs : (doesS S o).fs = S.fs := down_same HDN.out.1 o
                have HFIN : Hid (KS W0.heap.size W0 V6 p k (doesS S o) (doesS S o).fs ∧ Inv (doesS S o) (i + 1) ∧ (doesS S o).limit = l0 ∧ KpI (doesS S o) keep) := ⟨by rw [hfs]; exact HK6.out, HI5.out.1, HI5.out.2.1, HKV.out⟩
                clear hkk hfs
                clear hq8 hq9 hqE hqF hq1
                go_wp2_with fail
                go_roundw
                case rel => exact ⟨i + 1, by omega, by first | rfl | go_num, doesS S o, keep, rfl, HFIN.out⟩
                case measure => simp [RowKit.intOf]; omega
          · skip
            by_cases hq9 : o.kind = 9
            · skip
              have hq1 : ¬ o.kind = 1 := by omega
              by_cases hqE : E = 0
              · skip
                have hqF : ¬ E = 111 := by omega
                have hkk : keepK keep o E = o.N := by unfold keepK; rw [if_pos (by omega)]
                have HKV : Hid (KpI (doesS S o) o.N) := by have := HI5.out.2.2; rwa [hkk] at this
                have t8 : (o.kind == 8) = false := by simp; omega
                have t9 : (o.kind == 9) = true := by simp; omega
                have t1 : (o.kind == 1) = false := by simp; omega
                have te : (E == 0) = true := by simp; omega
                have tf : (E == 111) = false := by simp; omega
                have hfs : (doesS S o).fs = S.fs := down_same HDN.out.1 o
                have HFIN : Hid (KS W0.heap.size W0 V6 p k (doesS S o) (doesS S o).fs ∧ Inv (doesS S o) (i + 1) ∧ (doesS S o).limit = l0 ∧ KpI (doesS S o) o.N) := ⟨by rw [hfs]; exact HK6.out, HI5.out.1, HI5.out.2.1, HKV.out⟩
                clear hkk hfs
                clear hq8 hq9 hqE hqF hq1
                go_wp2_with fail
                go_roundw
                case rel => exact ⟨i + 1, by omega, by first | rfl | go_num, doesS S o, o.N, rfl, HFIN.out⟩
                case measure => simp [RowKit.intOf]; omega
              · skip
                by_cases hqF : E = 111
                · skip
                  have hkk : keepK keep o E = keep := by unfold keepK; rw [if_neg (by omega), if_neg (by omega)]
                  have HKV : Hid (KpI (doesS S o) keep) := by have := HI5.out.2.2; rwa [hkk] at this
                  have t8 : (o.kind == 8) = false := by simp; omega
                  have t9 : (o.kind == 9) = true := by simp; omega
                  have t1 : (o.kind == 1) = false := by simp; omega
                  have te : (E == 0) = false := by simp; omega
                  have tf : (E == 111) = true := by simp; omega
                  have hfs : (doesS S o).fs = S.fs := down_same HDN.out.1 o
                  have HFIN : Hid (KS W0.heap.size W0 V6 p k (doesS S o) (doesS S o).fs ∧ Inv (doesS S o) (i + 1) ∧ (doesS S o).limit = l0 ∧ KpI (doesS S o) keep) := ⟨by rw [hfs]; exact HK6.out, HI5.out.1, HI5.out.2.1, HKV.out⟩
                  clear hkk hfs
                  clear hq8 hq9 hqE hqF hq1
                  go_wp2_with fail
                  go_roundw
                  case rel => exact ⟨i + 1, by omega, by first | rfl | go_num, doesS S o, keep, rfl, HFIN.out⟩
                  case measure => simp [RowKit.intOf]; omega
                · skip
                  have hkk : keepK keep o E = keep := by unfold keepK; rw [if_neg (by omega), if_neg (by omega)]
                  have HKV : Hid (KpI (doesS S o) keep) := by have := HI5.out.2.2; rwa [hkk] at this
                  have t8 : (o.kind == 8) = false := by simp; omega
                  have t9 : (o.kind == 9) = true := by simp; omega
                  have t1 : (o.kind == 1) = false := by simp; omega
                  have te : (E == 0) = false := by simp; omega
                  have tf : (E == 111) = false := by simp; omega
                  have hfs : (doesS S o).fs = S.fs := down_same HDN.out.1 o
                  have HFIN : Hid (KS W0.heap.size W0 V6 p k (doesS S o) (doesS S o).fs ∧ Inv (doesS S o) (i + 1) ∧ (doesS S o).limit = l0 ∧ KpI (doesS S o) keep) := ⟨by rw [hfs]; exact HK6.out, HI5.out.1, HI5.out.2.1, HKV.out⟩
                  clear hkk hfs
                  clear hq8 hq9 hqE hqF hq1
                  go_wp2_with fail
                  go_roundw
                  case rel => exact ⟨i + 1, by omega, by first | rfl | go_num, doesS S o, keep, rfl, HFIN.out⟩
                  case measure => simp [RowKit.intOf]; omega
            · skip
              by_cases hq1 : o.kind = 1
              · skip
                by_cases hqE : E = 0
                · skip
                  have hqF : ¬ E = 111 := by omega
                  have hkk : keepK keep o E = keep := by unfold keepK; rw [if_neg (by omega), if_neg (by omega)]
                  have HKV : Hid (KpI (doesS S o) keep) := by have := HI5.out.2.2; rwa [hkk] at this
                  have t8 : (o.kind == 8) = false := by simp; omega
                  have t9 : (o.kind == 9) = false := by simp; omega
                  have t1 : (o.kind == 1) = true := by simp; omega
                  have te : (E == 0) = true := by simp; omega
                  have tf : (E == 111) = false := by simp; omega
                  have hfs : (doesS S o).fs = S.fs := down_same HDN.out.1 o
                  have HFIN : Hid (KS W0.heap.size W0 V6 p k (doesS S o) (doesS S o).fs ∧ Inv (doesS S o) (i + 1) ∧ (doesS S o).limit = l0 ∧ KpI (doesS S o) keep) := ⟨by rw [hfs]; exact HK6.out, HI5.out.1, HI5.out.2.1, HKV.out⟩
                  clear hkk hfs
                  clear hq8 hq9 hqE hqF hq1
                  go_wp2_with fail
                  go_roundw
                  case rel => exact ⟨i + 1, by omega, by first | rfl | go_num, doesS S o, keep, rfl, HFIN.out⟩
                  case measure => simp [RowKit.intOf]; omega
                · skip
                  by_cases hqF : E = 111
                  · skip
                    have hkk : keepK keep o E = keep := by unfold keepK; rw [if_neg (by omega), if_neg (by omega)]
                    have HKV : Hid (KpI (doesS S o) keep) := by have := HI5.out.2.2; rwa [hkk] at this
                    have t8 : (o.kind == 8) = false := by simp; omega
                    have t9 : (o.kind == 9) = false := by simp; omega
                    have t1 : (o.kind == 1) = true := by simp; omega
                    have te : (E == 0) = false := by simp; omega
                    have tf : (E == 111) = true := by simp; omega
                    have hfs : (doesS S o).fs = S.fs := down_same HDN.out.1 o
                    have HFIN : Hid (KS W0.heap.size W0 V6 p k (doesS S o) (doesS S o).fs ∧ Inv (doesS S o) (i + 1) ∧ (doesS S o).limit = l0 ∧ KpI (doesS S o) keep) := ⟨by rw [hfs]; exact HK6.out, HI5.out.1, HI5.out.2.1, HKV.out⟩
                    clear hkk hfs
                    clear hq8 hq9 hqE hqF hq1
                    go_wp2_with fail
                    go_roundw
                    case rel => exact ⟨i + 1, by omega, by first | rfl | go_num, doesS S o, keep, rfl, HFIN.out⟩
                    case measure => simp [RowKit.intOf]; omega
                  · skip
                    have hkk : keepK keep o E = keep := by unfold keepK; rw [if_neg (by omega), if_neg (by omega)]
                    have HKV : Hid (KpI (doesS S o) keep) := by have := HI5.out.2.2; rwa [hkk] at this
                    have t8 : (o.kind == 8) = false := by simp; omega
                    have t9 : (o.kind == 9) = false := by simp; omega
                    have t1 : (o.kind == 1) = true := by simp; omega
                    have te : (E == 0) = false := by simp; omega
                    have tf : (E == 111) = false := by simp; omega
                    have hfs : (doesS S o).fs = S.fs := down_same HDN.out.1 o
                    have HFIN : Hid (KS W0.heap.size W0 V6 p k (doesS S o) (doesS S o).fs ∧ Inv (doesS S o) (i + 1) ∧ (doesS S o).limit = l0 ∧ KpI (doesS S o) keep) := ⟨by rw [hfs]; exact HK6.out, HI5.out.1, HI5.out.2.1, HKV.out⟩
                    clear hkk hfs
                    clear hq8 hq9 hqE hqF hq1
                    go_wp2_with fail
                    go_roundw
                    case rel => exact ⟨i + 1, by omega, by first | rfl | go_num, doesS S o, keep, rfl, HFIN.out⟩
                    case measure => simp [RowKit.intOf]; omega
              · skip
                by_cases hqE : E = 0
                · skip
                  have hqF : ¬ E = 111 := by omega
                  have hkk : keepK keep o E = keep := by unfold keepK; rw [if_neg (by omega), if_neg (by omega)]
                  have HKV : Hid (KpI (doesS S o) keep) := by have := HI5.out.2.2; rwa [hkk] at this
                  have t8 : (o.kind == 8) = false := by simp; omega
                  have t9 : (o.kind == 9) = false := by simp; omega
                  have t1 : (o.kind == 1) = false := by simp; omega
                  have te : (E == 0) = true := by simp; omega
                  have tf : (E == 111) = false := by simp; omega
                  have hfs : (doesS S o).fs = S.fs := down_same HDN.out.1 o
                  have HFIN : Hid (KS W0.heap.size W0 V6 p k (doesS S o) (doesS S o).fs ∧ Inv (doesS S o) (i + 1) ∧ (doesS S o).limit = l0 ∧ KpI (doesS S o) keep) := ⟨by rw [hfs]; exact HK6.out, HI5.out.1, HI5.out.2.1, HKV.out⟩
                  clear hkk hfs
                  clear hq8 hq9 hqE hqF hq1
                  go_wp2_with fail
                  go_roundw
                  case rel => exact ⟨i + 1, by omega, by first | rfl | go_num, doesS S o, keep, rfl, HFIN.out⟩
                  case measure => simp [RowKit.intOf]; omega
                · skip
                  by_cases hqF : E = 111
                  · skip
                    have hkk : keepK keep o E = keep := by unfold keepK; rw [if_neg (by omega), if_neg (by omega)]
                    have HKV : Hid (KpI (doesS S o) keep) := by have := HI5.out.2.2; rwa [hkk] at this
                    have t8 : (o.kind == 8) = false := by simp; omega
                    have t9 : (o.kind == 9) = false := by simp; omega
                    have t1 : (o.kind == 1) = false := by simp; omega
                    have te : (E == 0) = false := by simp; omega
                    have tf : (E == 111) = true := by simp; omega
                    have hfs : (doesS S o).fs = S.fs := down_same HDN.out.1 o
                    have HFIN : Hid (KS W0.heap.size W0 V6 p k (doesS S o) (doesS S o).fs ∧ Inv (doesS S o) (i + 1) ∧ (doesS S o).limit = l0 ∧ KpI (doesS S o) keep) := ⟨by rw [hfs]; exact HK6.out, HI5.out.1, HI5.out.2.1, HKV.out⟩
                    clear hkk hfs
                    clear hq8 hq9 hqE hqF hq1
                    go_wp2_with fail
                    go_roundw
                    case rel => exact ⟨i + 1, by omega, by first | rfl | go_num, doesS S o, keep, rfl, HFIN.out⟩
                    case measure => simp [RowKit.intOf]; omega
                  · skip
                    have hkk : keepK keep o E = keep := by unfold keepK; rw [if_neg (by omega), if_neg (by omega)]
                    have HKV : Hid (KpI (doesS S o) keep) := by have := HI5.out.2.2; rwa [hkk] at this
                    have t8 : (o.kind == 8) = false := by simp; omega
                    have t9 : (o.kind == 9) = false := by simp; omega
                    have t1 : (o.kind == 1) = false := by simp; omega
                    have te : (E == 0) = false := by simp; omega
                    have tf : (E == 111) = false := by simp; omega
                    have hfs : (doesS S o).fs = S.fs := down_same HDN.out.1 o
                    have HFIN : Hid (KS W0.heap.size W0 V6 p k (doesS S o) (doesS S o).fs ∧ Inv (doesS S o) (i + 1) ∧ (doesS S o).limit = l0 ∧ KpI (doesS S o) keep) := ⟨by rw [hfs]; exact HK6.out, HI5.out.1, HI5.out.2.1, HKV.out⟩
                    clear hkk hfs
                    clear hq8 hq9 hqE hqF hq1
                    go_wp2_with fail
                    go_roundw
                    case rel => exact ⟨i + 1, by omega, by first | rfl | go_num, doesS S o, keep, rfl, HFIN.out⟩
                    case measure => simp [RowKit.intOf]; omega
      | false =>
        cases d1 with
        | true =>
          by_cases hq8 : o.kind = 8
          · skip
            have hq9 : ¬ o.kind = 9 := by omega
            have hq1 : ¬ o.kind = 1 := by omega
            by_cases hqE : E = 0
            · skip
              have hqF : ¬ E = 111 := by omega
              have hkk : keepK keep o E = o.M := by unfold keepK; rw [if_neg (by omega), if_pos (by omega)]
              have HKV : Hid (KpI (doesS S o) o.M) := by have := HI5.out.2.2; rwa [hkk] at this
              have t8 : (o.kind == 8) = true := by simp; omega
              have t9 : (o.kind == 9) = false := by simp; omega
              have t1 : (o.kind == 1) = false := by simp; omega
              have te : (E == 0) = true := by simp; omega
              have tf : (E == 111) = false := by simp; omega
              obtain ⟨kp, hkp, hkb, hfs⟩ := crash_now hS.out.2.2.2 hS.out.2.1.ok HDN.out.1 o HR.out.2.2.1.N HDN.out.2
              rw [← HEN.out.1, hkk] at hkp
              rw [if_neg (by omega)] at hfs
              have HCR : Hid (o.M = (kp : Int) ∧ kp ≤ 9223372036854775807 ∧ (doesS S o).fs = leftF kp (S.fs)) := ⟨hkp, hkb, hfs⟩
              clear hkk hkp hkb hfs
              clear hq8 hq9 hqE hqF hq1
              go_wp2_with fail
              refine (ks_files (Nat.le_refl _) HK6.out HI5.out.1 (by omega)).mono ?_
              rintro e w7 ⟨fa7, fn7, fc7, l7, rfl, hp7, hr7, hF7, hK7, hb7⟩
              rw [HCR.out.2.2] at hp7
              have HLF : Hid (Calls Try.prog 26 #[.pointer (some ⟨k, 0, none⟩), .slice fa7 fn7 fc7, .int .i64 o.M] w7 fun e w' => e = .returned (.bool true) ∧ KS W0.heap.size W0 w' p k (doesS S o) (leftF kp (S.fs))) := by
                rw [HCR.out.1]
                exact ks_left (Nat.le_refl _) hK7 (by have := HS0.out.1; omega) HS0.out.2.1 HS0.out.2.2.1 (by have := HS0.out.2.2.2; omega) hF7 HCR.out.2.1 hp7 hr7
              clear hp7 hr7 hF7 hK7 hb7
              go_wp2_with fail
              refine HLF.out.mono ?_
              rintro e w8 ⟨rfl, hK8⟩
              have HFIN : Hid (KS W0.heap.size W0 w8 p k (doesS S o) (doesS S o).fs ∧ Inv (doesS S o) (i + 1) ∧ (doesS S o).limit = l0 ∧ KpI (doesS S o) o.M) := ⟨by rw [HCR.out.2.2]; exact hK8, HI5.out.1, HI5.out.2.1, HKV.out⟩
              clear hK8
              go_wp2_with fail
              go_roundw
              case rel => exact ⟨i + 1, by omega, by first | rfl | go_num, doesS S o, o.M, rfl, HFIN.out⟩
              case measure => simp [RowKit.intOf]; omega
            · skip
              by_cases hqF : E = 111
              · skip
                have hkk : keepK keep o E = keep := by unfold keepK; rw [if_neg (by omega), if_neg (by omega)]
                have HKV : Hid (KpI (doesS S o) keep) := by have := HI5.out.2.2; rwa [hkk] at this
                have t8 : (o.kind == 8) = true := by simp; omega
                have t9 : (o.kind == 9) = false := by simp; omega
                have t1 : (o.kind == 1) = false := by simp; omega
                have te : (E == 0) = false := by simp; omega
                have tf : (E == 111) = true := by simp; omega
                obtain ⟨kp, hkp, hkb, hfs⟩ := crash_now hS.out.2.2.2 hS.out.2.1.ok HDN.out.1 o HR.out.2.2.1.N HDN.out.2
                rw [← HEN.out.1, hkk] at hkp
                rw [if_neg (by omega)] at hfs
                have HCR : Hid (keep = (kp : Int) ∧ kp ≤ 9223372036854775807 ∧ (doesS S o).fs = leftF kp (S.fs)) := ⟨hkp, hkb, hfs⟩
                clear hkk hkp hkb hfs
                clear hq8 hq9 hqE hqF hq1
                go_wp2_with fail
                refine (ks_files (Nat.le_refl _) HK6.out HI5.out.1 (by omega)).mono ?_
                rintro e w7 ⟨fa7, fn7, fc7, l7, rfl, hp7, hr7, hF7, hK7, hb7⟩
                rw [HCR.out.2.2] at hp7
                have HLF : Hid (Calls Try.prog 26 #[.pointer (some ⟨k, 0, none⟩), .slice fa7 fn7 fc7, .int .i64 keep] w7 fun e w' => e = .returned (.bool true) ∧ KS W0.heap.size W0 w' p k (doesS S o) (leftF kp (S.fs))) := by
                  rw [HCR.out.1]
                  exact ks_left (Nat.le_refl _) hK7 (by have := HS0.out.1; omega) HS0.out.2.1 HS0.out.2.2.1 (by have := HS0.out.2.2.2; omega) hF7 HCR.out.2.1 hp7 hr7
                clear hp7 hr7 hF7 hK7 hb7
                go_wp2_with fail
                refine HLF.out.mono ?_
                rintro e w8 ⟨rfl, hK8⟩
                have HFIN : Hid (KS W0.heap.size W0 w8 p k (doesS S o) (doesS S o).fs ∧ Inv (doesS S o) (i + 1) ∧ (doesS S o).limit = l0 ∧ KpI (doesS S o) keep) := ⟨by rw [HCR.out.2.2]; exact hK8, HI5.out.1, HI5.out.2.1, HKV.out⟩
                clear hK8
                go_wp2_with fail
                go_roundw
                case rel => exact ⟨i + 1, by omega, by first | rfl | go_num, doesS S o, keep, rfl, HFIN.out⟩
                case measure => simp [RowKit.intOf]; omega
              · skip
                have hkk : keepK keep o E = keep := by unfold keepK; rw [if_neg (by omega), if_neg (by omega)]
                have HKV : Hid (KpI (doesS S o) keep) := by have := HI5.out.2.2; rwa [hkk] at this
                have t8 : (o.kind == 8) = true := by simp; omega
                have t9 : (o.kind == 9) = false := by simp; omega
                have t1 : (o.kind == 1) = false := by simp; omega
                have te : (E == 0) = false := by simp; omega
                have tf : (E == 111) = false := by simp; omega
                obtain ⟨kp, hkp, hkb, hfs⟩ := crash_now hS.out.2.2.2 hS.out.2.1.ok HDN.out.1 o HR.out.2.2.1.N HDN.out.2
                rw [← HEN.out.1, hkk] at hkp
                rw [if_neg (by omega)] at hfs
                have HCR : Hid (keep = (kp : Int) ∧ kp ≤ 9223372036854775807 ∧ (doesS S o).fs = leftF kp (S.fs)) := ⟨hkp, hkb, hfs⟩
                clear hkk hkp hkb hfs
                clear hq8 hq9 hqE hqF hq1
                go_wp2_with fail
                refine (ks_files (Nat.le_refl _) HK6.out HI5.out.1 (by omega)).mono ?_
                rintro e w7 ⟨fa7, fn7, fc7, l7, rfl, hp7, hr7, hF7, hK7, hb7⟩
                rw [HCR.out.2.2] at hp7
                have HLF : Hid (Calls Try.prog 26 #[.pointer (some ⟨k, 0, none⟩), .slice fa7 fn7 fc7, .int .i64 keep] w7 fun e w' => e = .returned (.bool true) ∧ KS W0.heap.size W0 w' p k (doesS S o) (leftF kp (S.fs))) := by
                  rw [HCR.out.1]
                  exact ks_left (Nat.le_refl _) hK7 (by have := HS0.out.1; omega) HS0.out.2.1 HS0.out.2.2.1 (by have := HS0.out.2.2.2; omega) hF7 HCR.out.2.1 hp7 hr7
                clear hp7 hr7 hF7 hK7 hb7
                go_wp2_with fail
                refine HLF.out.mono ?_
                rintro e w8 ⟨rfl, hK8⟩
                have HFIN : Hid (KS W0.heap.size W0 w8 p k (doesS S o) (doesS S o).fs ∧ Inv (doesS S o) (i + 1) ∧ (doesS S o).limit = l0 ∧ KpI (doesS S o) keep) := ⟨by rw [HCR.out.2.2]; exact hK8, HI5.out.1, HI5.out.2.1, HKV.out⟩
                clear hK8
                go_wp2_with fail
                go_roundw
                case rel => exact ⟨i + 1, by omega, by first | rfl | go_num, doesS S o, keep, rfl, HFIN.out⟩
                case measure => simp [RowKit.intOf]; omega
          · skip
            by_cases hq9 : o.kind = 9
            · skip
              have hq1 : ¬ o.kind = 1 := by omega
              by_cases hqE : E = 0
              · skip
                have hqF : ¬ E = 111 := by omega
                have hkk : keepK keep o E = o.N := by unfold keepK; rw [if_pos (by omega)]
                have HKV : Hid (KpI (doesS S o) o.N) := by have := HI5.out.2.2; rwa [hkk] at this
                have t8 : (o.kind == 8) = false := by simp; omega
                have t9 : (o.kind == 9) = true := by simp; omega
                have t1 : (o.kind == 1) = false := by simp; omega
                have te : (E == 0) = true := by simp; omega
                have tf : (E == 111) = false := by simp; omega
                obtain ⟨kp, hkp, hkb, hfs⟩ := crash_now hS.out.2.2.2 hS.out.2.1.ok HDN.out.1 o HR.out.2.2.1.N HDN.out.2
                rw [← HEN.out.1, hkk] at hkp
                rw [if_neg (by omega)] at hfs
                have HCR : Hid (o.N = (kp : Int) ∧ kp ≤ 9223372036854775807 ∧ (doesS S o).fs = leftF kp (S.fs)) := ⟨hkp, hkb, hfs⟩
                clear hkk hkp hkb hfs
                clear hq8 hq9 hqE hqF hq1
                go_wp2_with fail
                refine (ks_files (Nat.le_refl _) HK6.out HI5.out.1 (by omega)).mono ?_
                rintro e w7 ⟨fa7, fn7, fc7, l7, rfl, hp7, hr7, hF7, hK7, hb7⟩
                rw [HCR.out.2.2] at hp7
                have HLF : Hid (Calls Try.prog 26 #[.pointer (some ⟨k, 0, none⟩), .slice fa7 fn7 fc7, .int .i64 o.N] w7 fun e w' => e = .returned (.bool true) ∧ KS W0.heap.size W0 w' p k (doesS S o) (leftF kp (S.fs))) := by
                  rw [HCR.out.1]
                  exact ks_left (Nat.le_refl _) hK7 (by have := HS0.out.1; omega) HS0.out.2.1 HS0.out.2.2.1 (by have := HS0.out.2.2.2; omega) hF7 HCR.out.2.1 hp7 hr7
                clear hp7 hr7 hF7 hK7 hb7
                go_wp2_with fail
                refine HLF.out.mono ?_
                rintro e w8 ⟨rfl, hK8⟩
                have HFIN : Hid (KS W0.heap.size W0 w8 p k (doesS S o) (doesS S o).fs ∧ Inv (doesS S o) (i + 1) ∧ (doesS S o).limit = l0 ∧ KpI (doesS S o) o.N) := ⟨by rw [HCR.out.2.2]; exact hK8, HI5.out.1, HI5.out.2.1, HKV.out⟩
                clear hK8
                go_wp2_with fail
                go_roundw
                case rel => exact ⟨i + 1, by omega, by first | rfl | go_num, doesS S o, o.N, rfl, HFIN.out⟩
                case measure => simp [RowKit.intOf]; omega
              · skip
                by_cases hqF : E = 111
                · skip
                  have hkk : keepK keep o E = keep := by unfold keepK; rw [if_neg (by omega), if_neg (by omega)]
                  have HKV : Hid (KpI (doesS S o) keep) := by have := HI5.out.2.2; rwa [hkk] at this
                  have t8 : (o.kind == 8) = false := by simp; omega
                  have t9 : (o.kind == 9) = true := by simp; omega
                  have t1 : (o.kind == 1) = false := by simp; omega
                  have te : (E == 0) = false := by simp; omega
                  have tf : (E == 111) = true := by simp; omega
                  obtain ⟨kp, hkp, hkb, hfs⟩ := crash_now hS.out.2.2.2 hS.out.2.1.ok HDN.out.1 o HR.out.2.2.1.N HDN.out.2
                  rw [← HEN.out.1, hkk] at hkp
                  rw [if_neg (by omega)] at hfs
                  have HCR : Hid (keep = (kp : Int) ∧ kp ≤ 9223372036854775807 ∧ (doesS S o).fs = leftF kp (S.fs)) := ⟨hkp, hkb, hfs⟩
                  clear hkk hkp hkb hfs
                  clear hq8 hq9 hqE hqF hq1
                  go_wp2_with fail
                  refine (ks_files (Nat.le_refl _) HK6.out HI5.out.1 (by omega)).mono ?_
                  rintro e w7 ⟨fa7, fn7, fc7, l7, rfl, hp7, hr7, hF7, hK7, hb7⟩
                  rw [HCR.out.2.2] at hp7
                  have HLF : Hid (Calls Try.prog 26 #[.pointer (some ⟨k, 0, none⟩), .slice fa7 fn7 fc7, .int .i64 keep] w7 fun e w' => e = .returned (.bool true) ∧ KS W0.heap.size W0 w' p k (doesS S o) (leftF kp (S.fs))) := by
                    rw [HCR.out.1]
                    exact ks_left (Nat.le_refl _) hK7 (by have := HS0.out.1; omega) HS0.out.2.1 HS0.out.2.2.1 (by have := HS0.out.2.2.2; omega) hF7 HCR.out.2.1 hp7 hr7
                  clear hp7 hr7 hF7 hK7 hb7
                  go_wp2_with fail
                  refine HLF.out.mono ?_
                  rintro e w8 ⟨rfl, hK8⟩
                  have HFIN : Hid (KS W0.heap.size W0 w8 p k (doesS S o) (doesS S o).fs ∧ Inv (doesS S o) (i + 1) ∧ (doesS S o).limit = l0 ∧ KpI (doesS S o) keep) := ⟨by rw [HCR.out.2.2]; exact hK8, HI5.out.1, HI5.out.2.1, HKV.out⟩
                  clear hK8
                  go_wp2_with fail
                  go_roundw
                  case rel => exact ⟨i + 1, by omega, by first | rfl | go_num, doesS S o, keep, rfl, HFIN.out⟩
                  case measure => simp [RowKit.intOf]; omega
                · skip
                  have hkk : keepK keep o E = keep := by unfold keepK; rw [if_neg (by omega), if_neg (by omega)]
                  have HKV : Hid (KpI (doesS S o) keep) := by have := HI5.out.2.2; rwa [hkk] at this
                  have t8 : (o.kind == 8) = false := by simp; omega
                  have t9 : (o.kind == 9) = true := by simp; omega
                  have t1 : (o.kind == 1) = false := by simp; omega
                  have te : (E == 0) = false := by simp; omega
                  have tf : (E == 111) = false := by simp; omega
                  obtain ⟨kp, hkp, hkb, hfs⟩ := crash_now hS.out.2.2.2 hS.out.2.1.ok HDN.out.1 o HR.out.2.2.1.N HDN.out.2
                  rw [← HEN.out.1, hkk] at hkp
                  rw [if_neg (by omega)] at hfs
                  have HCR : Hid (keep = (kp : Int) ∧ kp ≤ 9223372036854775807 ∧ (doesS S o).fs = leftF kp (S.fs)) := ⟨hkp, hkb, hfs⟩
                  clear hkk hkp hkb hfs
                  clear hq8 hq9 hqE hqF hq1
                  go_wp2_with fail
                  refine (ks_files (Nat.le_refl _) HK6.out HI5.out.1 (by omega)).mono ?_
                  rintro e w7 ⟨fa7, fn7, fc7, l7, rfl, hp7, hr7, hF7, hK7, hb7⟩
                  rw [HCR.out.2.2] at hp7
                  have HLF : Hid (Calls Try.prog 26 #[.pointer (some ⟨k, 0, none⟩), .slice fa7 fn7 fc7, .int .i64 keep] w7 fun e w' => e = .returned (.bool true) ∧ KS W0.heap.size W0 w' p k (doesS S o) (leftF kp (S.fs))) := by
                    rw [HCR.out.1]
                    exact ks_left (Nat.le_refl _) hK7 (by have := HS0.out.1; omega) HS0.out.2.1 HS0.out.2.2.1 (by have := HS0.out.2.2.2; omega) hF7 HCR.out.2.1 hp7 hr7
                  clear hp7 hr7 hF7 hK7 hb7
                  go_wp2_with fail
                  refine HLF.out.mono ?_
                  rintro e w8 ⟨rfl, hK8⟩
                  have HFIN : Hid (KS W0.heap.size W0 w8 p k (doesS S o) (doesS S o).fs ∧ Inv (doesS S o) (i + 1) ∧ (doesS S o).limit = l0 ∧ KpI (doesS S o) keep) := ⟨by rw [HCR.out.2.2]; exact hK8, HI5.out.1, HI5.out.2.1, HKV.out⟩
                  clear hK8
                  go_wp2_with fail
                  go_roundw
                  case rel => exact ⟨i + 1, by omega, by first | rfl | go_num, doesS S o, keep, rfl, HFIN.out⟩
                  case measure => simp [RowKit.intOf]; omega
            · skip
              by_cases hq1 : o.kind = 1
              · skip
                by_cases hqE : E = 0
                · skip
                  have hqF : ¬ E = 111 := by omega
                  have hkk : keepK keep o E = keep := by unfold keepK; rw [if_neg (by omega), if_neg (by omega)]
                  have HKV : Hid (KpI (doesS S o) keep) := by have := HI5.out.2.2; rwa [hkk] at this
                  have t8 : (o.kind == 8) = false := by simp; omega
                  have t9 : (o.kind == 9) = false := by simp; omega
                  have t1 : (o.kind == 1) = true := by simp; omega
                  have te : (E == 0) = true := by simp; omega
                  have tf : (E == 111) = false := by simp; omega
                  obtain ⟨kp, hkp, hkb, hfs⟩ := crash_now hS.out.2.2.2 hS.out.2.1.ok HDN.out.1 o HR.out.2.2.1.N HDN.out.2
                  rw [← HEN.out.1, hkk] at hkp
                  rw [if_pos (by omega)] at hfs
                  have HCR : Hid (keep = (kp : Int) ∧ kp ≤ 9223372036854775807 ∧ (doesS S o).fs = leftF kp (growP o.nm (o.B.take (takeN S o.B.length)) S.fs)) := ⟨hkp, hkb, hfs⟩
                  clear hkk hkp hkb hfs
                  clear hq8 hq9 hqE hqF hq1
                  obtain ⟨bx, hbx⟩ : ∃ bx, o.B.length = bx := ⟨_, rfl⟩
                  obtain ⟨us, hus⟩ : ∃ us, used S.fs = us := ⟨_, rfl⟩
                  obtain ⟨tk, htk⟩ : ∃ tk, takeN S bx = tk := ⟨_, rfl⟩
                  have htv : tk = min bx (l0 - us) := by rw [← htk, ← hus, ← hS.out.2.2.1]; rfl
                  have hul : us ≤ l0 ∧ l0 ≤ 1099511627776 := by rw [← hus]; exact HS0.out.2.2.2
                  have gr : IntKind.i64.wrap ((l0 : Int) - (us : Int)) = ((l0 - us : Nat) : Int) := by rw [IntWalk.i64_in _ (by omega)]; omega
                  have HMI : ∀ ats ty W, (Builtin.min_ ats ty #[.int .i64 (bx : Int), .int .i64 ((l0 - us : Nat) : Int)]).run Try.prog W = .ok (.int .i64 (tk : Int)) W := fun ats ty W => by
                    rw [min_run]; congr 2; omega
                  have HMA : ∀ ats ty W, (Builtin.max_ ats ty #[.int .i64 0, .int .i64 (tk : Int)]).run Try.prog W = .ok (.int .i64 (tk : Int)) W := fun ats ty W => by
                    rw [max_run]; first | (congr 2; omega) | congr 2
                  have hroom := HR.out.2.2.1.row.room
                  rw [hbx] at hroom x2
                  have hcut : ∀ W, (Instr.slice 22 (.slice o.ba bx o.bc) none (some (.int .i64 (tk : Int))) none).run Try.prog W = .ok (.slice o.ba tk o.bc) W := fun W => cutU W o.ba _ o.bc tk (by omega)
                  have HTK : Hid (takeN S o.B.length = tk ∧ tk ≤ o.B.length ∧ us + tk ≤ l0 ∧ used S.fs = us) := ⟨by rw [hbx]; exact htk, by omega, by omega, hus⟩
                  have HSA : Hid (V6.cell? ⟨w.heap.size, 0, none⟩ = some (.int .i64 (l0 : Int))) := s0
                  have HSB : Hid (V6.cell? ⟨wo.heap.size, 1, none⟩ = some (.string ⟨o.nm.toArray⟩) ∧ V6.cell? ⟨wo.heap.size, 2, none⟩ = some (.slice o.ba bx o.bc)) := ⟨x1, x2⟩
                  clear hbx htk htv hul hroom hus
                  go_wp2_with fail
                  refine wp_region_held_drew (S := (fun W => W.cell? ⟨w.heap.size, 0, none⟩ = some (.int .i64 (l0 : Int)))) (by kernel_rfl) ?hS1 (fun hHeld => ?rest1)
                  case hS1 => exact HSA.out
                  refine takeD (i := 0) (d := some 107) (v := ?vT2) rfl rfl (by kernel_rfl) (by kernel_rfl) (by kernel_rfl) (fun _ _ _ h => h) (Or.inl ⟨by rfl, ?hyT2⟩) (by assumption) ?rstT2
                  case hyT2 => (intro w hSw; (try dsimp only at hSw); go_simp; (try with_reducible rfl))
                  try simp only [Act.put, List.setIfInBounds_toArray, List.set_cons_zero, List.set_cons_succ]
                  refine takeD (i := 1) (d := some 108) (v := ?vT3) rfl rfl (by kernel_rfl) (by kernel_rfl) (by kernel_rfl) (fun _ _ _ h => h) (Or.inl ⟨by rfl, ?hyT3⟩) (by assumption) ?rstT3
                  case hyT3 => (intro w hSw; (try dsimp only at hSw); go_simp; (try with_reducible rfl))
                  try simp only [Act.put, List.setIfInBounds_toArray, List.set_cons_zero, List.set_cons_succ]
                  refine takeD (i := 2) (d := some 109) (v := ?vT4) rfl rfl (by kernel_rfl) (by kernel_rfl) (by kernel_rfl) (fun _ _ _ h => h) (Or.inl ⟨by rfl, ?hyT4⟩) (by assumption) ?rstT4
                  case hyT4 => (intro w hSw; (try dsimp only at hSw); go_simp; (try with_reducible rfl))
                  try simp only [Act.put, List.setIfInBounds_toArray, List.set_cons_zero, List.set_cons_succ]
                  refine wpAnyH_ready (rs := [3]) (by kernel_rfl) (by simp) ?_
                  refine AllReadyH.cons rfl (fun K hK => ?_) AllReadyH.nil
                  go_simp
                  refine (ks_total (HK6.out.grow (Nat.le_refl _) (by first | exact (Below.refl _ _).drew | exact (Below.refl _ _).drew.drew | exact (Below.refl _ _))) (by have := HS0.out.1; omega) (by have := HS0.out.2.2.2; omega)).mono ?_
                  rintro e wz ⟨rfl, hz⟩
                  rw [hz, HTK.out.2.2.2]
                  clear hz wz
                  clear hHeld
                  refine hK.out _ _ ?hS5 (fun hHeld => ?rest5)
                  case hS5 => exact HSA.out
                  clear hK K
                  try simp only [Act.put, List.setIfInBounds_toArray, List.set_cons_zero, List.set_cons_succ]
                  refine takeD (i := 4) (d := some 111) (v := ?vT6) rfl rfl (by kernel_rfl) (by kernel_rfl) (by kernel_rfl) (fun _ _ _ h => h) (Or.inl ⟨by rfl, ?hyT6⟩) (by assumption) ?rstT6
                  case hyT6 => (intro w hSw; (try dsimp only at hSw); go_simp; (try with_reducible rfl))
                  try simp only [Act.put, List.setIfInBounds_toArray, List.set_cons_zero, List.set_cons_succ]
                  refine takeD (i := 5) (d := some 14) (v := ?vT7) rfl rfl (by kernel_rfl) (by kernel_rfl) (by kernel_rfl) (fun _ _ _ h => h) (Or.inl ⟨by rfl, ?hyT7⟩) (by assumption) ?rstT7
                  case hyT7 => (intro w hSw; (try dsimp only at hSw); go_simp; (try with_reducible rfl))
                  try simp only [Act.put, List.setIfInBounds_toArray, List.set_cons_zero, List.set_cons_succ]
                  refine wpAnyH_done (by kernel_rfl) ?_ _
                  go_wp2_with fail
                  refine wp_region_held_drew (S := (fun W => W.cell? ⟨wo.heap.size, 1, none⟩ = some (.string ⟨o.nm.toArray⟩) ∧ W.cell? ⟨wo.heap.size, 2, none⟩ = some (.slice o.ba bx o.bc))) (by kernel_rfl) ?hS8 (fun hHeld => ?rest8)
                  case hS8 => exact HSB.out
                  refine takeD (i := 0) (d := some 112) (v := ?vT9) rfl rfl (by kernel_rfl) (by kernel_rfl) (by kernel_rfl) (fun _ _ _ h => h) (Or.inl ⟨by rfl, ?hyT9⟩) (by assumption) ?rstT9
                  case hyT9 => (intro w hSw; (try dsimp only at hSw); go_simp; (try with_reducible rfl))
                  try simp only [Act.put, List.setIfInBounds_toArray, List.set_cons_zero, List.set_cons_succ]
                  refine takeD (i := 1) (d := some 113) (v := ?vT10) rfl rfl (by kernel_rfl) (by kernel_rfl) (by kernel_rfl) (fun _ _ _ h => h) (Or.inl ⟨by rfl, ?hyT10⟩) (by assumption) ?rstT10
                  case hyT10 => (intro w hSw; (try dsimp only at hSw); go_simp; (try with_reducible rfl))
                  try simp only [Act.put, List.setIfInBounds_toArray, List.set_cons_zero, List.set_cons_succ]
                  refine takeD (i := 2) (d := some 114) (v := ?vT11) rfl rfl (by kernel_rfl) (by kernel_rfl) (by kernel_rfl) (fun _ _ _ h => h) (Or.inl ⟨by rfl, ?hyT11⟩) (by assumption) ?rstT11
                  case hyT11 => (intro w hSw; (try dsimp only at hSw); go_simp; (try with_reducible rfl))
                  try simp only [Act.put, List.setIfInBounds_toArray, List.set_cons_zero, List.set_cons_succ]
                  refine takeD (i := 3) (d := some 115) (v := ?vT12) rfl rfl (by kernel_rfl) (by kernel_rfl) (by kernel_rfl) (fun _ _ _ h => h) (Or.inl ⟨by rfl, ?hyT12⟩) (by assumption) ?rstT12
                  case hyT12 => (intro w hSw; (try dsimp only at hSw); go_simp; (try with_reducible rfl))
                  try simp only [Act.put, List.setIfInBounds_toArray, List.set_cons_zero, List.set_cons_succ]
                  refine takeD (i := 4) (d := some 116) (v := ?vT13) rfl rfl (by kernel_rfl) (by kernel_rfl) (by kernel_rfl) (fun _ _ _ h => h) (Or.inl ⟨by rfl, ?hyT13⟩) (by assumption) ?rstT13
                  case hyT13 => (intro w hSw; (try dsimp only at hSw); go_simp; (try with_reducible rfl))
                  try simp only [Act.put, List.setIfInBounds_toArray, List.set_cons_zero, List.set_cons_succ]
                  refine takeD (i := 5) (d := some 117) (v := ?vT14) rfl rfl (by kernel_rfl) (by kernel_rfl) (by kernel_rfl) (fun _ _ _ h => h) (Or.inl ⟨by rfl, ?hyT14⟩) (by assumption) ?rstT14
                  case hyT14 => (intro w hSw; (try dsimp only at hSw); go_simp; (try with_reducible rfl))
                  try simp only [Act.put, List.setIfInBounds_toArray, List.set_cons_zero, List.set_cons_succ]
                  refine takeD (i := 6) (d := some 118) (v := ?vT15) rfl rfl (by kernel_rfl) (by kernel_rfl) (by kernel_rfl) (fun _ _ _ h => h) (Or.inl ⟨by rfl, ?hyT15⟩) (by assumption) ?rstT15
                  case hyT15 => (intro w hSw; (try dsimp only at hSw); go_simp; (try with_reducible rfl))
                  try simp only [Act.put, List.setIfInBounds_toArray, List.set_cons_zero, List.set_cons_succ]
                  refine takeD (i := 7) (d := some 119) (v := ?vT16) rfl rfl (by kernel_rfl) (by kernel_rfl) (by kernel_rfl) (fun _ _ _ h => h) (Or.inl ⟨by rfl, ?hyT16⟩) (by assumption) ?rstT16
                  case hyT16 => (intro w hSw; (try dsimp only at hSw); go_simp; (try with_reducible rfl))
                  try simp only [Act.put, List.setIfInBounds_toArray, List.set_cons_zero, List.set_cons_succ]
                  refine takeD (i := 8) (d := some 120) (v := ?vT17) rfl rfl (by kernel_rfl) (by kernel_rfl) (by kernel_rfl) (fun _ _ _ h => h) (Or.inl ⟨by rfl, ?hyT17⟩) (by assumption) ?rstT17
                  case hyT17 => (intro w hSw; (try dsimp only at hSw); go_simp; (try with_reducible rfl))
                  try simp only [Act.put, List.setIfInBounds_toArray, List.set_cons_zero, List.set_cons_succ]
                  refine takeD (i := 9) (d := some 121) (v := ?vT18) rfl rfl (by kernel_rfl) (by kernel_rfl) (by kernel_rfl) (fun _ _ _ h => h) (Or.inl ⟨by rfl, ?hyT18⟩) (by assumption) ?rstT18
                  case hyT18 => (intro w hSw; (try dsimp only at hSw); go_simp; (try with_reducible rfl))
                  try simp only [Act.put, List.setIfInBounds_toArray, List.set_cons_zero, List.set_cons_succ]
                  refine takeD (i := 10) (d := some 122) (v := ?vT19) rfl rfl (by kernel_rfl) (by kernel_rfl) (by kernel_rfl) (fun _ _ _ h => h) (Or.inl ⟨by rfl, ?hyT19⟩) (by assumption) ?rstT19
                  case hyT19 => (intro w hSw; (try dsimp only at hSw); go_simp; (try with_reducible rfl))
                  try simp only [Act.put, List.setIfInBounds_toArray, List.set_cons_zero, List.set_cons_succ]
                  refine takeD (i := 11) (d := some 123) (v := ?vT20) rfl rfl (by kernel_rfl) (by kernel_rfl) (by kernel_rfl) (fun _ _ _ h => h) (Or.inl ⟨by rfl, ?hyT20⟩) (by assumption) ?rstT20
                  case hyT20 => (intro w hSw; (try dsimp only at hSw); go_simp; (try with_reducible rfl))
                  try simp only [Act.put, List.setIfInBounds_toArray, List.set_cons_zero, List.set_cons_succ]
                  refine wpAnyH_ready (rs := [12]) (by kernel_rfl) (by simp) ?_
                  refine AllReadyH.cons rfl (fun K hK => ?_) AllReadyH.nil
                  go_simp
                  refine (ks_wrote2 (Nat.le_refl _) (HK6m.out.grow (Nat.le_refl _) (by first | exact (Below.refl _ _).drew | exact (Below.refl _ _).drew.drew | exact (Below.refl _ _))) (by have := HS0.out.1; omega) HS0.out.2.1 o.nm (HR.out.2.2.1.row.take tk HTK.out.2.1) (by refine HX6.out.2.trans ?_; refine Below.mono (B := V6.heap.size) ?_ HX6.out.2.size; first | exact (Below.refl _ _).drew | exact (Below.refl _ _).drew.drew) (Nat.le_of_lt HW.out.2.1) (by have := HTK.out; have := HS0.out.2.2.2; omega)).mono ?_
                  rintro e w6 ⟨rfl, hK7, hf7⟩
                  have HF7 : Hid (w6.cell? ⟨wo.heap.size, 1, none⟩ = some (.string ⟨o.nm.toArray⟩) ∧ w6.cell? ⟨wo.heap.size, 2, none⟩ = some (.slice o.ba bx o.bc)) := by
                    have h7 := (hf7 wo.heap.size (Nat.le_refl _) (Array.getElem?_eq_some_iff.1 HX6.out.1).1).trans HX6.out.1
                    obtain ⟨_, u1, u2, _, _⟩ := box5 h7
                    refine ⟨u1, ?_⟩
                    have := HSB.out.2
                    rw [show V6.cell? ⟨wo.heap.size, 2, none⟩ = some (.slice o.ba o.B.length o.bc) from (box5 HX6.out.1).2.2.1] at this
                    rw [u2, this]
                  have HK7 : Hid (KS W0.heap.size W0 w6 p k (doesS S o) (growP o.nm (o.B.take (takeN S o.B.length)) S.fs)) := by rw [HTK.out.1]; exact hK7
                  clear hK7 hf7
                  clear hHeld
                  refine hK.out _ _ ?hS21 (fun hHeld => ?rest21)
                  case hS21 => exact HF7.out
                  clear hK K
                  try simp only [Act.put, List.setIfInBounds_toArray, List.set_cons_zero, List.set_cons_succ]
                  refine wpAnyH_done (by kernel_rfl) ?_ _
                  go_wp2_with fail
                  have HG0 : Hid ((growP o.nm (o.B.take (takeN S o.B.length)) S.fs).length ≤ 4398046511104 ∧ ((growP o.nm (o.B.take (takeN S o.B.length)) S.fs).map (·.nm)).Nodup ∧ (∀ f ∈ (growP o.nm (o.B.take (takeN S o.B.length)) S.fs), f.syn ≤ f.bs.length) ∧ used (growP o.nm (o.B.take (takeN S o.B.length)) S.fs) ≤ 1099511627776) := ⟨by have := grow_len o.nm (o.B.take (takeN S o.B.length)) S.fs; have := HS0.out.1; omega, grow_nodup HS0.out.2.1, grow_syn HS0.out.2.2.1, by
                    obtain ⟨b, xs, ck, v, ps, h1, _⟩ := hS.out.1.two
                    rw [h1.fs, growP_used h1.map.nm, ← h1.fs, List.length_take, HTK.out.1]
                    have := HTK.out
                    have := HS0.out.2.2.2
                    omega⟩
                  refine (ks_files (Nat.le_refl _) HK7.out HI5.out.1 (by omega)).mono ?_
                  rintro e w7 ⟨fa7, fn7, fc7, l7, rfl, hp7, hr7, hF7, hK7, hb7⟩
                  rw [HCR.out.2.2] at hp7
                  have HLF : Hid (Calls Try.prog 26 #[.pointer (some ⟨k, 0, none⟩), .slice fa7 fn7 fc7, .int .i64 keep] w7 fun e w' => e = .returned (.bool true) ∧ KS W0.heap.size W0 w' p k (doesS S o) (leftF kp (growP o.nm (o.B.take (takeN S o.B.length)) S.fs))) := by
                    rw [HCR.out.1]
                    exact ks_left (Nat.le_refl _) hK7 HG0.out.1 HG0.out.2.1 HG0.out.2.2.1 HG0.out.2.2.2 hF7 HCR.out.2.1 hp7 hr7
                  clear hp7 hr7 hF7 hK7 hb7
                  go_wp2_with fail
                  refine HLF.out.mono ?_
                  rintro e w8 ⟨rfl, hK8⟩
                  have HFIN : Hid (KS W0.heap.size W0 w8 p k (doesS S o) (doesS S o).fs ∧ Inv (doesS S o) (i + 1) ∧ (doesS S o).limit = l0 ∧ KpI (doesS S o) keep) := ⟨by rw [HCR.out.2.2]; exact hK8, HI5.out.1, HI5.out.2.1, HKV.out⟩
                  clear hK8
                  go_wp2_with fail
                  go_roundw
                  case rel => exact ⟨i + 1, by omega, by first | rfl | go_num, doesS S o, keep, rfl, HFIN.out⟩
                  case measure => simp [RowKit.intOf]; omega
                · skip
                  by_cases hqF : E = 111
                  · skip
                    have hkk : keepK keep o E = keep := by unfold keepK; rw [if_neg (by omega), if_neg (by omega)]
                    have HKV : Hid (KpI (doesS S o) keep) := by have := HI5.out.2.2; rwa [hkk] at this
                    have t8 : (o.kind == 8) = false := by simp; omega
                    have t9 : (o.kind == 9) = false := by simp; omega
                    have t1 : (o.kind == 1) = true := by simp; omega
                    have te : (E == 0) = false := by simp; omega
                    have tf : (E == 111) = true := by simp; omega
                    obtain ⟨kp, hkp, hkb, hfs⟩ := crash_now hS.out.2.2.2 hS.out.2.1.ok HDN.out.1 o HR.out.2.2.1.N HDN.out.2
                    rw [← HEN.out.1, hkk] at hkp
                    rw [if_pos (by omega)] at hfs
                    have HCR : Hid (keep = (kp : Int) ∧ kp ≤ 9223372036854775807 ∧ (doesS S o).fs = leftF kp (growP o.nm (o.B.take (takeN S o.B.length)) S.fs)) := ⟨hkp, hkb, hfs⟩
                    clear hkk hkp hkb hfs
                    clear hq8 hq9 hqE hqF hq1
                    obtain ⟨bx, hbx⟩ : ∃ bx, o.B.length = bx := ⟨_, rfl⟩
                    obtain ⟨us, hus⟩ : ∃ us, used S.fs = us := ⟨_, rfl⟩
                    obtain ⟨tk, htk⟩ : ∃ tk, takeN S bx = tk := ⟨_, rfl⟩
                    have htv : tk = min bx (l0 - us) := by rw [← htk, ← hus, ← hS.out.2.2.1]; rfl
                    have hul : us ≤ l0 ∧ l0 ≤ 1099511627776 := by rw [← hus]; exact HS0.out.2.2.2
                    have gr : IntKind.i64.wrap ((l0 : Int) - (us : Int)) = ((l0 - us : Nat) : Int) := by rw [IntWalk.i64_in _ (by omega)]; omega
                    have HMI : ∀ ats ty W, (Builtin.min_ ats ty #[.int .i64 (bx : Int), .int .i64 ((l0 - us : Nat) : Int)]).run Try.prog W = .ok (.int .i64 (tk : Int)) W := fun ats ty W => by
                      rw [min_run]; congr 2; omega
                    have HMA : ∀ ats ty W, (Builtin.max_ ats ty #[.int .i64 0, .int .i64 (tk : Int)]).run Try.prog W = .ok (.int .i64 (tk : Int)) W := fun ats ty W => by
                      rw [max_run]; first | (congr 2; omega) | congr 2
                    have hroom := HR.out.2.2.1.row.room
                    rw [hbx] at hroom x2
                    have hcut : ∀ W, (Instr.slice 22 (.slice o.ba bx o.bc) none (some (.int .i64 (tk : Int))) none).run Try.prog W = .ok (.slice o.ba tk o.bc) W := fun W => cutU W o.ba _ o.bc tk (by omega)
                    have HTK : Hid (takeN S o.B.length = tk ∧ tk ≤ o.B.length ∧ us + tk ≤ l0 ∧ used S.fs = us) := ⟨by rw [hbx]; exact htk, by omega, by omega, hus⟩
                    have HSA : Hid (V6.cell? ⟨w.heap.size, 0, none⟩ = some (.int .i64 (l0 : Int))) := s0
                    have HSB : Hid (V6.cell? ⟨wo.heap.size, 1, none⟩ = some (.string ⟨o.nm.toArray⟩) ∧ V6.cell? ⟨wo.heap.size, 2, none⟩ = some (.slice o.ba bx o.bc)) := ⟨x1, x2⟩
                    clear hbx htk htv hul hroom hus
                    go_wp2_with fail
                    refine wp_region_held_drew (S := (fun W => W.cell? ⟨w.heap.size, 0, none⟩ = some (.int .i64 (l0 : Int)))) (by kernel_rfl) ?hS22 (fun hHeld => ?rest22)
                    case hS22 => exact HSA.out
                    refine takeD (i := 0) (d := some 107) (v := ?vT23) rfl rfl (by kernel_rfl) (by kernel_rfl) (by kernel_rfl) (fun _ _ _ h => h) (Or.inl ⟨by rfl, ?hyT23⟩) (by assumption) ?rstT23
                    case hyT23 => (intro w hSw; (try dsimp only at hSw); go_simp; (try with_reducible rfl))
                    try simp only [Act.put, List.setIfInBounds_toArray, List.set_cons_zero, List.set_cons_succ]
                    refine takeD (i := 1) (d := some 108) (v := ?vT24) rfl rfl (by kernel_rfl) (by kernel_rfl) (by kernel_rfl) (fun _ _ _ h => h) (Or.inl ⟨by rfl, ?hyT24⟩) (by assumption) ?rstT24
                    case hyT24 => (intro w hSw; (try dsimp only at hSw); go_simp; (try with_reducible rfl))
                    try simp only [Act.put, List.setIfInBounds_toArray, List.set_cons_zero, List.set_cons_succ]
                    refine takeD (i := 2) (d := some 109) (v := ?vT25) rfl rfl (by kernel_rfl) (by kernel_rfl) (by kernel_rfl) (fun _ _ _ h => h) (Or.inl ⟨by rfl, ?hyT25⟩) (by assumption) ?rstT25
                    case hyT25 => (intro w hSw; (try dsimp only at hSw); go_simp; (try with_reducible rfl))
                    try simp only [Act.put, List.setIfInBounds_toArray, List.set_cons_zero, List.set_cons_succ]
                    refine wpAnyH_ready (rs := [3]) (by kernel_rfl) (by simp) ?_
                    refine AllReadyH.cons rfl (fun K hK => ?_) AllReadyH.nil
                    go_simp
                    refine (ks_total (HK6.out.grow (Nat.le_refl _) (by first | exact (Below.refl _ _).drew | exact (Below.refl _ _).drew.drew | exact (Below.refl _ _))) (by have := HS0.out.1; omega) (by have := HS0.out.2.2.2; omega)).mono ?_
                    rintro e wz ⟨rfl, hz⟩
                    rw [hz, HTK.out.2.2.2]
                    clear hz wz
                    clear hHeld
                    refine hK.out _ _ ?hS26 (fun hHeld => ?rest26)
                    case hS26 => exact HSA.out
                    clear hK K
                    try simp only [Act.put, List.setIfInBounds_toArray, List.set_cons_zero, List.set_cons_succ]
                    refine takeD (i := 4) (d := some 111) (v := ?vT27) rfl rfl (by kernel_rfl) (by kernel_rfl) (by kernel_rfl) (fun _ _ _ h => h) (Or.inl ⟨by rfl, ?hyT27⟩) (by assumption) ?rstT27
                    case hyT27 => (intro w hSw; (try dsimp only at hSw); go_simp; (try with_reducible rfl))
                    try simp only [Act.put, List.setIfInBounds_toArray, List.set_cons_zero, List.set_cons_succ]
                    refine takeD (i := 5) (d := some 14) (v := ?vT28) rfl rfl (by kernel_rfl) (by kernel_rfl) (by kernel_rfl) (fun _ _ _ h => h) (Or.inl ⟨by rfl, ?hyT28⟩) (by assumption) ?rstT28
                    case hyT28 => (intro w hSw; (try dsimp only at hSw); go_simp; (try with_reducible rfl))
                    try simp only [Act.put, List.setIfInBounds_toArray, List.set_cons_zero, List.set_cons_succ]
                    refine wpAnyH_done (by kernel_rfl) ?_ _
                    go_wp2_with fail
                    refine wp_region_held_drew (S := (fun W => W.cell? ⟨wo.heap.size, 1, none⟩ = some (.string ⟨o.nm.toArray⟩) ∧ W.cell? ⟨wo.heap.size, 2, none⟩ = some (.slice o.ba bx o.bc))) (by kernel_rfl) ?hS29 (fun hHeld => ?rest29)
                    case hS29 => exact HSB.out
                    refine takeD (i := 0) (d := some 112) (v := ?vT30) rfl rfl (by kernel_rfl) (by kernel_rfl) (by kernel_rfl) (fun _ _ _ h => h) (Or.inl ⟨by rfl, ?hyT30⟩) (by assumption) ?rstT30
                    case hyT30 => (intro w hSw; (try dsimp only at hSw); go_simp; (try with_reducible rfl))
                    try simp only [Act.put, List.setIfInBounds_toArray, List.set_cons_zero, List.set_cons_succ]
                    refine takeD (i := 1) (d := some 113) (v := ?vT31) rfl rfl (by kernel_rfl) (by kernel_rfl) (by kernel_rfl) (fun _ _ _ h => h) (Or.inl ⟨by rfl, ?hyT31⟩) (by assumption) ?rstT31
                    case hyT31 => (intro w hSw; (try dsimp only at hSw); go_simp; (try with_reducible rfl))
                    try simp only [Act.put, List.setIfInBounds_toArray, List.set_cons_zero, List.set_cons_succ]
                    refine takeD (i := 2) (d := some 114) (v := ?vT32) rfl rfl (by kernel_rfl) (by kernel_rfl) (by kernel_rfl) (fun _ _ _ h => h) (Or.inl ⟨by rfl, ?hyT32⟩) (by assumption) ?rstT32
                    case hyT32 => (intro w hSw; (try dsimp only at hSw); go_simp; (try with_reducible rfl))
                    try simp only [Act.put, List.setIfInBounds_toArray, List.set_cons_zero, List.set_cons_succ]
                    refine takeD (i := 3) (d := some 115) (v := ?vT33) rfl rfl (by kernel_rfl) (by kernel_rfl) (by kernel_rfl) (fun _ _ _ h => h) (Or.inl ⟨by rfl, ?hyT33⟩) (by assumption) ?rstT33
                    case hyT33 => (intro w hSw; (try dsimp only at hSw); go_simp; (try with_reducible rfl))
                    try simp only [Act.put, List.setIfInBounds_toArray, List.set_cons_zero, List.set_cons_succ]
                    refine takeD (i := 4) (d := some 116) (v := ?vT34) rfl rfl (by kernel_rfl) (by kernel_rfl) (by kernel_rfl) (fun _ _ _ h => h) (Or.inl ⟨by rfl, ?hyT34⟩) (by assumption) ?rstT34
                    case hyT34 => (intro w hSw; (try dsimp only at hSw); go_simp; (try with_reducible rfl))
                    try simp only [Act.put, List.setIfInBounds_toArray, List.set_cons_zero, List.set_cons_succ]
                    refine takeD (i := 5) (d := some 117) (v := ?vT35) rfl rfl (by kernel_rfl) (by kernel_rfl) (by kernel_rfl) (fun _ _ _ h => h) (Or.inl ⟨by rfl, ?hyT35⟩) (by assumption) ?rstT35
                    case hyT35 => (intro w hSw; (try dsimp only at hSw); go_simp; (try with_reducible rfl))
                    try simp only [Act.put, List.setIfInBounds_toArray, List.set_cons_zero, List.set_cons_succ]
                    refine takeD (i := 6) (d := some 118) (v := ?vT36) rfl rfl (by kernel_rfl) (by kernel_rfl) (by kernel_rfl) (fun _ _ _ h => h) (Or.inl ⟨by rfl, ?hyT36⟩) (by assumption) ?rstT36
                    case hyT36 => (intro w hSw; (try dsimp only at hSw); go_simp; (try with_reducible rfl))
                    try simp only [Act.put, List.setIfInBounds_toArray, List.set_cons_zero, List.set_cons_succ]
                    refine takeD (i := 7) (d := some 119) (v := ?vT37) rfl rfl (by kernel_rfl) (by kernel_rfl) (by kernel_rfl) (fun _ _ _ h => h) (Or.inl ⟨by rfl, ?hyT37⟩) (by assumption) ?rstT37
                    case hyT37 => (intro w hSw; (try dsimp only at hSw); go_simp; (try with_reducible rfl))
                    try simp only [Act.put, List.setIfInBounds_toArray, List.set_cons_zero, List.set_cons_succ]
                    refine takeD (i := 8) (d := some 120) (v := ?vT38) rfl rfl (by kernel_rfl) (by kernel_rfl) (by kernel_rfl) (fun _ _ _ h => h) (Or.inl ⟨by rfl, ?hyT38⟩) (by assumption) ?rstT38
                    case hyT38 => (intro w hSw; (try dsimp only at hSw); go_simp; (try with_reducible rfl))
                    try simp only [Act.put, List.setIfInBounds_toArray, List.set_cons_zero, List.set_cons_succ]
                    refine takeD (i := 9) (d := some 121) (v := ?vT39) rfl rfl (by kernel_rfl) (by kernel_rfl) (by kernel_rfl) (fun _ _ _ h => h) (Or.inl ⟨by rfl, ?hyT39⟩) (by assumption) ?rstT39
                    case hyT39 => (intro w hSw; (try dsimp only at hSw); go_simp; (try with_reducible rfl))
                    try simp only [Act.put, List.setIfInBounds_toArray, List.set_cons_zero, List.set_cons_succ]
                    refine takeD (i := 10) (d := some 122) (v := ?vT40) rfl rfl (by kernel_rfl) (by kernel_rfl) (by kernel_rfl) (fun _ _ _ h => h) (Or.inl ⟨by rfl, ?hyT40⟩) (by assumption) ?rstT40
                    case hyT40 => (intro w hSw; (try dsimp only at hSw); go_simp; (try with_reducible rfl))
                    try simp only [Act.put, List.setIfInBounds_toArray, List.set_cons_zero, List.set_cons_succ]
                    refine takeD (i := 11) (d := some 123) (v := ?vT41) rfl rfl (by kernel_rfl) (by kernel_rfl) (by kernel_rfl) (fun _ _ _ h => h) (Or.inl ⟨by rfl, ?hyT41⟩) (by assumption) ?rstT41
                    case hyT41 => (intro w hSw; (try dsimp only at hSw); go_simp; (try with_reducible rfl))
                    try simp only [Act.put, List.setIfInBounds_toArray, List.set_cons_zero, List.set_cons_succ]
                    refine wpAnyH_ready (rs := [12]) (by kernel_rfl) (by simp) ?_
                    refine AllReadyH.cons rfl (fun K hK => ?_) AllReadyH.nil
                    go_simp
                    refine (ks_wrote2 (Nat.le_refl _) (HK6m.out.grow (Nat.le_refl _) (by first | exact (Below.refl _ _).drew | exact (Below.refl _ _).drew.drew | exact (Below.refl _ _))) (by have := HS0.out.1; omega) HS0.out.2.1 o.nm (HR.out.2.2.1.row.take tk HTK.out.2.1) (by refine HX6.out.2.trans ?_; refine Below.mono (B := V6.heap.size) ?_ HX6.out.2.size; first | exact (Below.refl _ _).drew | exact (Below.refl _ _).drew.drew) (Nat.le_of_lt HW.out.2.1) (by have := HTK.out; have := HS0.out.2.2.2; omega)).mono ?_
                    rintro e w6 ⟨rfl, hK7, hf7⟩
                    have HF7 : Hid (w6.cell? ⟨wo.heap.size, 1, none⟩ = some (.string ⟨o.nm.toArray⟩) ∧ w6.cell? ⟨wo.heap.size, 2, none⟩ = some (.slice o.ba bx o.bc)) := by
                      have h7 := (hf7 wo.heap.size (Nat.le_refl _) (Array.getElem?_eq_some_iff.1 HX6.out.1).1).trans HX6.out.1
                      obtain ⟨_, u1, u2, _, _⟩ := box5 h7
                      refine ⟨u1, ?_⟩
                      have := HSB.out.2
                      rw [show V6.cell? ⟨wo.heap.size, 2, none⟩ = some (.slice o.ba o.B.length o.bc) from (box5 HX6.out.1).2.2.1] at this
                      rw [u2, this]
                    have HK7 : Hid (KS W0.heap.size W0 w6 p k (doesS S o) (growP o.nm (o.B.take (takeN S o.B.length)) S.fs)) := by rw [HTK.out.1]; exact hK7
                    clear hK7 hf7
                    clear hHeld
                    refine hK.out _ _ ?hS42 (fun hHeld => ?rest42)
                    case hS42 => exact HF7.out
                    clear hK K
                    try simp only [Act.put, List.setIfInBounds_toArray, List.set_cons_zero, List.set_cons_succ]
                    refine wpAnyH_done (by kernel_rfl) ?_ _
                    go_wp2_with fail
                    have HG0 : Hid ((growP o.nm (o.B.take (takeN S o.B.length)) S.fs).length ≤ 4398046511104 ∧ ((growP o.nm (o.B.take (takeN S o.B.length)) S.fs).map (·.nm)).Nodup ∧ (∀ f ∈ (growP o.nm (o.B.take (takeN S o.B.length)) S.fs), f.syn ≤ f.bs.length) ∧ used (growP o.nm (o.B.take (takeN S o.B.length)) S.fs) ≤ 1099511627776) := ⟨by have := grow_len o.nm (o.B.take (takeN S o.B.length)) S.fs; have := HS0.out.1; omega, grow_nodup HS0.out.2.1, grow_syn HS0.out.2.2.1, by
                      obtain ⟨b, xs, ck, v, ps, h1, _⟩ := hS.out.1.two
                      rw [h1.fs, growP_used h1.map.nm, ← h1.fs, List.length_take, HTK.out.1]
                      have := HTK.out
                      have := HS0.out.2.2.2
                      omega⟩
                    refine (ks_files (Nat.le_refl _) HK7.out HI5.out.1 (by omega)).mono ?_
                    rintro e w7 ⟨fa7, fn7, fc7, l7, rfl, hp7, hr7, hF7, hK7, hb7⟩
                    rw [HCR.out.2.2] at hp7
                    have HLF : Hid (Calls Try.prog 26 #[.pointer (some ⟨k, 0, none⟩), .slice fa7 fn7 fc7, .int .i64 keep] w7 fun e w' => e = .returned (.bool true) ∧ KS W0.heap.size W0 w' p k (doesS S o) (leftF kp (growP o.nm (o.B.take (takeN S o.B.length)) S.fs))) := by
                      rw [HCR.out.1]
                      exact ks_left (Nat.le_refl _) hK7 HG0.out.1 HG0.out.2.1 HG0.out.2.2.1 HG0.out.2.2.2 hF7 HCR.out.2.1 hp7 hr7
                    clear hp7 hr7 hF7 hK7 hb7
                    go_wp2_with fail
                    refine HLF.out.mono ?_
                    rintro e w8 ⟨rfl, hK8⟩
                    have HFIN : Hid (KS W0.heap.size W0 w8 p k (doesS S o) (doesS S o).fs ∧ Inv (doesS S o) (i + 1) ∧ (doesS S o).limit = l0 ∧ KpI (doesS S o) keep) := ⟨by rw [HCR.out.2.2]; exact hK8, HI5.out.1, HI5.out.2.1, HKV.out⟩
                    clear hK8
                    go_wp2_with fail
                    go_roundw
                    case rel => exact ⟨i + 1, by omega, by first | rfl | go_num, doesS S o, keep, rfl, HFIN.out⟩
                    case measure => simp [RowKit.intOf]; omega
                  · skip
                    have hkk : keepK keep o E = keep := by unfold keepK; rw [if_neg (by omega), if_neg (by omega)]
                    have HKV : Hid (KpI (doesS S o) keep) := by have := HI5.out.2.2; rwa [hkk] at this
                    have t8 : (o.kind == 8) = false := by simp; omega
                    have t9 : (o.kind == 9) = false := by simp; omega
                    have t1 : (o.kind == 1) = true := by simp; omega
                    have te : (E == 0) = false := by simp; omega
                    have tf : (E == 111) = false := by simp; omega
                    obtain ⟨kp, hkp, hkb, hfs⟩ := crash_now hS.out.2.2.2 hS.out.2.1.ok HDN.out.1 o HR.out.2.2.1.N HDN.out.2
                    rw [← HEN.out.1, hkk] at hkp
                    rw [if_pos (by omega)] at hfs
                    have HCR : Hid (keep = (kp : Int) ∧ kp ≤ 9223372036854775807 ∧ (doesS S o).fs = leftF kp (growP o.nm (o.B.take (takeN S o.B.length)) S.fs)) := ⟨hkp, hkb, hfs⟩
                    clear hkk hkp hkb hfs
                    clear hq8 hq9 hqE hqF hq1
                    obtain ⟨bx, hbx⟩ : ∃ bx, o.B.length = bx := ⟨_, rfl⟩
                    obtain ⟨us, hus⟩ : ∃ us, used S.fs = us := ⟨_, rfl⟩
                    obtain ⟨tk, htk⟩ : ∃ tk, takeN S bx = tk := ⟨_, rfl⟩
                    have htv : tk = min bx (l0 - us) := by rw [← htk, ← hus, ← hS.out.2.2.1]; rfl
                    have hul : us ≤ l0 ∧ l0 ≤ 1099511627776 := by rw [← hus]; exact HS0.out.2.2.2
                    have gr : IntKind.i64.wrap ((l0 : Int) - (us : Int)) = ((l0 - us : Nat) : Int) := by rw [IntWalk.i64_in _ (by omega)]; omega
                    have HMI : ∀ ats ty W, (Builtin.min_ ats ty #[.int .i64 (bx : Int), .int .i64 ((l0 - us : Nat) : Int)]).run Try.prog W = .ok (.int .i64 (tk : Int)) W := fun ats ty W => by
                      rw [min_run]; congr 2; omega
                    have HMA : ∀ ats ty W, (Builtin.max_ ats ty #[.int .i64 0, .int .i64 (tk : Int)]).run Try.prog W = .ok (.int .i64 (tk : Int)) W := fun ats ty W => by
                      rw [max_run]; first | (congr 2; omega) | congr 2
                    have hroom := HR.out.2.2.1.row.room
                    rw [hbx] at hroom x2
                    have hcut : ∀ W, (Instr.slice 22 (.slice o.ba bx o.bc) none (some (.int .i64 (tk : Int))) none).run Try.prog W = .ok (.slice o.ba tk o.bc) W := fun W => cutU W o.ba _ o.bc tk (by omega)
                    have HTK : Hid (takeN S o.B.length = tk ∧ tk ≤ o.B.length ∧ us + tk ≤ l0 ∧ used S.fs = us) := ⟨by rw [hbx]; exact htk, by omega, by omega, hus⟩
                    have HSA : Hid (V6.cell? ⟨w.heap.size, 0, none⟩ = some (.int .i64 (l0 : Int))) := s0
                    have HSB : Hid (V6.cell? ⟨wo.heap.size, 1, none⟩ = some (.string ⟨o.nm.toArray⟩) ∧ V6.cell? ⟨wo.heap.size, 2, none⟩ = some (.slice o.ba bx o.bc)) := ⟨x1, x2⟩
                    clear hbx htk htv hul hroom hus
                    go_wp2_with fail
                    refine wp_region_held_drew (S := (fun W => W.cell? ⟨w.heap.size, 0, none⟩ = some (.int .i64 (l0 : Int)))) (by kernel_rfl) ?hS43 (fun hHeld => ?rest43)
                    case hS43 => exact HSA.out
                    refine takeD (i := 0) (d := some 107) (v := ?vT44) rfl rfl (by kernel_rfl) (by kernel_rfl) (by kernel_rfl) (fun _ _ _ h => h) (Or.inl ⟨by rfl, ?hyT44⟩) (by assumption) ?rstT44
                    case hyT44 => (intro w hSw; (try dsimp only at hSw); go_simp; (try with_reducible rfl))
                    try simp only [Act.put, List.setIfInBounds_toArray, List.set_cons_zero, List.set_cons_succ]
                    refine takeD (i := 1) (d := some 108) (v := ?vT45) rfl rfl (by kernel_rfl) (by kernel_rfl) (by kernel_rfl) (fun _ _ _ h => h) (Or.inl ⟨by rfl, ?hyT45⟩) (by assumption) ?rstT45
                    case hyT45 => (intro w hSw; (try dsimp only at hSw); go_simp; (try with_reducible rfl))
                    try simp only [Act.put, List.setIfInBounds_toArray, List.set_cons_zero, List.set_cons_succ]
                    refine takeD (i := 2) (d := some 109) (v := ?vT46) rfl rfl (by kernel_rfl) (by kernel_rfl) (by kernel_rfl) (fun _ _ _ h => h) (Or.inl ⟨by rfl, ?hyT46⟩) (by assumption) ?rstT46
                    case hyT46 => (intro w hSw; (try dsimp only at hSw); go_simp; (try with_reducible rfl))
                    try simp only [Act.put, List.setIfInBounds_toArray, List.set_cons_zero, List.set_cons_succ]
                    refine wpAnyH_ready (rs := [3]) (by kernel_rfl) (by simp) ?_
                    refine AllReadyH.cons rfl (fun K hK => ?_) AllReadyH.nil
                    go_simp
                    refine (ks_total (HK6.out.grow (Nat.le_refl _) (by first | exact (Below.refl _ _).drew | exact (Below.refl _ _).drew.drew | exact (Below.refl _ _))) (by have := HS0.out.1; omega) (by have := HS0.out.2.2.2; omega)).mono ?_
                    rintro e wz ⟨rfl, hz⟩
                    rw [hz, HTK.out.2.2.2]
                    clear hz wz
                    clear hHeld
                    refine hK.out _ _ ?hS47 (fun hHeld => ?rest47)
                    case hS47 => exact HSA.out
                    clear hK K
                    try simp only [Act.put, List.setIfInBounds_toArray, List.set_cons_zero, List.set_cons_succ]
                    refine takeD (i := 4) (d := some 111) (v := ?vT48) rfl rfl (by kernel_rfl) (by kernel_rfl) (by kernel_rfl) (fun _ _ _ h => h) (Or.inl ⟨by rfl, ?hyT48⟩) (by assumption) ?rstT48
                    case hyT48 => (intro w hSw; (try dsimp only at hSw); go_simp; (try with_reducible rfl))
                    try simp only [Act.put, List.setIfInBounds_toArray, List.set_cons_zero, List.set_cons_succ]
                    refine takeD (i := 5) (d := some 14) (v := ?vT49) rfl rfl (by kernel_rfl) (by kernel_rfl) (by kernel_rfl) (fun _ _ _ h => h) (Or.inl ⟨by rfl, ?hyT49⟩) (by assumption) ?rstT49
                    case hyT49 => (intro w hSw; (try dsimp only at hSw); go_simp; (try with_reducible rfl))
                    try simp only [Act.put, List.setIfInBounds_toArray, List.set_cons_zero, List.set_cons_succ]
                    refine wpAnyH_done (by kernel_rfl) ?_ _
                    go_wp2_with fail
                    refine wp_region_held_drew (S := (fun W => W.cell? ⟨wo.heap.size, 1, none⟩ = some (.string ⟨o.nm.toArray⟩) ∧ W.cell? ⟨wo.heap.size, 2, none⟩ = some (.slice o.ba bx o.bc))) (by kernel_rfl) ?hS50 (fun hHeld => ?rest50)
                    case hS50 => exact HSB.out
                    refine takeD (i := 0) (d := some 112) (v := ?vT51) rfl rfl (by kernel_rfl) (by kernel_rfl) (by kernel_rfl) (fun _ _ _ h => h) (Or.inl ⟨by rfl, ?hyT51⟩) (by assumption) ?rstT51
                    case hyT51 => (intro w hSw; (try dsimp only at hSw); go_simp; (try with_reducible rfl))
                    try simp only [Act.put, List.setIfInBounds_toArray, List.set_cons_zero, List.set_cons_succ]
                    refine takeD (i := 1) (d := some 113) (v := ?vT52) rfl rfl (by kernel_rfl) (by kernel_rfl) (by kernel_rfl) (fun _ _ _ h => h) (Or.inl ⟨by rfl, ?hyT52⟩) (by assumption) ?rstT52
                    case hyT52 => (intro w hSw; (try dsimp only at hSw); go_simp; (try with_reducible rfl))
                    try simp only [Act.put, List.setIfInBounds_toArray, List.set_cons_zero, List.set_cons_succ]
                    refine takeD (i := 2) (d := some 114) (v := ?vT53) rfl rfl (by kernel_rfl) (by kernel_rfl) (by kernel_rfl) (fun _ _ _ h => h) (Or.inl ⟨by rfl, ?hyT53⟩) (by assumption) ?rstT53
                    case hyT53 => (intro w hSw; (try dsimp only at hSw); go_simp; (try with_reducible rfl))
                    try simp only [Act.put, List.setIfInBounds_toArray, List.set_cons_zero, List.set_cons_succ]
                    refine takeD (i := 3) (d := some 115) (v := ?vT54) rfl rfl (by kernel_rfl) (by kernel_rfl) (by kernel_rfl) (fun _ _ _ h => h) (Or.inl ⟨by rfl, ?hyT54⟩) (by assumption) ?rstT54
                    case hyT54 => (intro w hSw; (try dsimp only at hSw); go_simp; (try with_reducible rfl))
                    try simp only [Act.put, List.setIfInBounds_toArray, List.set_cons_zero, List.set_cons_succ]
                    refine takeD (i := 4) (d := some 116) (v := ?vT55) rfl rfl (by kernel_rfl) (by kernel_rfl) (by kernel_rfl) (fun _ _ _ h => h) (Or.inl ⟨by rfl, ?hyT55⟩) (by assumption) ?rstT55
                    case hyT55 => (intro w hSw; (try dsimp only at hSw); go_simp; (try with_reducible rfl))
                    try simp only [Act.put, List.setIfInBounds_toArray, List.set_cons_zero, List.set_cons_succ]
                    refine takeD (i := 5) (d := some 117) (v := ?vT56) rfl rfl (by kernel_rfl) (by kernel_rfl) (by kernel_rfl) (fun _ _ _ h => h) (Or.inl ⟨by rfl, ?hyT56⟩) (by assumption) ?rstT56
                    case hyT56 => (intro w hSw; (try dsimp only at hSw); go_simp; (try with_reducible rfl))
                    try simp only [Act.put, List.setIfInBounds_toArray, List.set_cons_zero, List.set_cons_succ]
                    refine takeD (i := 6) (d := some 118) (v := ?vT57) rfl rfl (by kernel_rfl) (by kernel_rfl) (by kernel_rfl) (fun _ _ _ h => h) (Or.inl ⟨by rfl, ?hyT57⟩) (by assumption) ?rstT57
                    case hyT57 => (intro w hSw; (try dsimp only at hSw); go_simp; (try with_reducible rfl))
                    try simp only [Act.put, List.setIfInBounds_toArray, List.set_cons_zero, List.set_cons_succ]
                    refine takeD (i := 7) (d := some 119) (v := ?vT58) rfl rfl (by kernel_rfl) (by kernel_rfl) (by kernel_rfl) (fun _ _ _ h => h) (Or.inl ⟨by rfl, ?hyT58⟩) (by assumption) ?rstT58
                    case hyT58 => (intro w hSw; (try dsimp only at hSw); go_simp; (try with_reducible rfl))
                    try simp only [Act.put, List.setIfInBounds_toArray, List.set_cons_zero, List.set_cons_succ]
                    refine takeD (i := 8) (d := some 120) (v := ?vT59) rfl rfl (by kernel_rfl) (by kernel_rfl) (by kernel_rfl) (fun _ _ _ h => h) (Or.inl ⟨by rfl, ?hyT59⟩) (by assumption) ?rstT59
                    case hyT59 => (intro w hSw; (try dsimp only at hSw); go_simp; (try with_reducible rfl))
                    try simp only [Act.put, List.setIfInBounds_toArray, List.set_cons_zero, List.set_cons_succ]
                    refine takeD (i := 9) (d := some 121) (v := ?vT60) rfl rfl (by kernel_rfl) (by kernel_rfl) (by kernel_rfl) (fun _ _ _ h => h) (Or.inl ⟨by rfl, ?hyT60⟩) (by assumption) ?rstT60
                    case hyT60 => (intro w hSw; (try dsimp only at hSw); go_simp; (try with_reducible rfl))
                    try simp only [Act.put, List.setIfInBounds_toArray, List.set_cons_zero, List.set_cons_succ]
                    refine takeD (i := 10) (d := some 122) (v := ?vT61) rfl rfl (by kernel_rfl) (by kernel_rfl) (by kernel_rfl) (fun _ _ _ h => h) (Or.inl ⟨by rfl, ?hyT61⟩) (by assumption) ?rstT61
                    case hyT61 => (intro w hSw; (try dsimp only at hSw); go_simp; (try with_reducible rfl))
                    try simp only [Act.put, List.setIfInBounds_toArray, List.set_cons_zero, List.set_cons_succ]
                    refine takeD (i := 11) (d := some 123) (v := ?vT62) rfl rfl (by kernel_rfl) (by kernel_rfl) (by kernel_rfl) (fun _ _ _ h => h) (Or.inl ⟨by rfl, ?hyT62⟩) (by assumption) ?rstT62
                    case hyT62 => (intro w hSw; (try dsimp only at hSw); go_simp; (try with_reducible rfl))
                    try simp only [Act.put, List.setIfInBounds_toArray, List.set_cons_zero, List.set_cons_succ]
                    refine wpAnyH_ready (rs := [12]) (by kernel_rfl) (by simp) ?_
                    refine AllReadyH.cons rfl (fun K hK => ?_) AllReadyH.nil
                    go_simp
                    refine (ks_wrote2 (Nat.le_refl _) (HK6m.out.grow (Nat.le_refl _) (by first | exact (Below.refl _ _).drew | exact (Below.refl _ _).drew.drew | exact (Below.refl _ _))) (by have := HS0.out.1; omega) HS0.out.2.1 o.nm (HR.out.2.2.1.row.take tk HTK.out.2.1) (by refine HX6.out.2.trans ?_; refine Below.mono (B := V6.heap.size) ?_ HX6.out.2.size; first | exact (Below.refl _ _).drew | exact (Below.refl _ _).drew.drew) (Nat.le_of_lt HW.out.2.1) (by have := HTK.out; have := HS0.out.2.2.2; omega)).mono ?_
                    rintro e w6 ⟨rfl, hK7, hf7⟩
                    have HF7 : Hid (w6.cell? ⟨wo.heap.size, 1, none⟩ = some (.string ⟨o.nm.toArray⟩) ∧ w6.cell? ⟨wo.heap.size, 2, none⟩ = some (.slice o.ba bx o.bc)) := by
                      have h7 := (hf7 wo.heap.size (Nat.le_refl _) (Array.getElem?_eq_some_iff.1 HX6.out.1).1).trans HX6.out.1
                      obtain ⟨_, u1, u2, _, _⟩ := box5 h7
                      refine ⟨u1, ?_⟩
                      have := HSB.out.2
                      rw [show V6.cell? ⟨wo.heap.size, 2, none⟩ = some (.slice o.ba o.B.length o.bc) from (box5 HX6.out.1).2.2.1] at this
                      rw [u2, this]
                    have HK7 : Hid (KS W0.heap.size W0 w6 p k (doesS S o) (growP o.nm (o.B.take (takeN S o.B.length)) S.fs)) := by rw [HTK.out.1]; exact hK7
                    clear hK7 hf7
                    clear hHeld
                    refine hK.out _ _ ?hS63 (fun hHeld => ?rest63)
                    case hS63 => exact HF7.out
                    clear hK K
                    try simp only [Act.put, List.setIfInBounds_toArray, List.set_cons_zero, List.set_cons_succ]
                    refine wpAnyH_done (by kernel_rfl) ?_ _
                    go_wp2_with fail
                    have HG0 : Hid ((growP o.nm (o.B.take (takeN S o.B.length)) S.fs).length ≤ 4398046511104 ∧ ((growP o.nm (o.B.take (takeN S o.B.length)) S.fs).map (·.nm)).Nodup ∧ (∀ f ∈ (growP o.nm (o.B.take (takeN S o.B.length)) S.fs), f.syn ≤ f.bs.length) ∧ used (growP o.nm (o.B.take (takeN S o.B.length)) S.fs) ≤ 1099511627776) := ⟨by have := grow_len o.nm (o.B.take (takeN S o.B.length)) S.fs; have := HS0.out.1; omega, grow_nodup HS0.out.2.1, grow_syn HS0.out.2.2.1, by
                      obtain ⟨b, xs, ck, v, ps, h1, _⟩ := hS.out.1.two
                      rw [h1.fs, growP_used h1.map.nm, ← h1.fs, List.length_take, HTK.out.1]
                      have := HTK.out
                      have := HS0.out.2.2.2
                      omega⟩
                    refine (ks_files (Nat.le_refl _) HK7.out HI5.out.1 (by omega)).mono ?_
                    rintro e w7 ⟨fa7, fn7, fc7, l7, rfl, hp7, hr7, hF7, hK7, hb7⟩
                    rw [HCR.out.2.2] at hp7
                    have HLF : Hid (Calls Try.prog 26 #[.pointer (some ⟨k, 0, none⟩), .slice fa7 fn7 fc7, .int .i64 keep] w7 fun e w' => e = .returned (.bool true) ∧ KS W0.heap.size W0 w' p k (doesS S o) (leftF kp (growP o.nm (o.B.take (takeN S o.B.length)) S.fs))) := by
                      rw [HCR.out.1]
                      exact ks_left (Nat.le_refl _) hK7 HG0.out.1 HG0.out.2.1 HG0.out.2.2.1 HG0.out.2.2.2 hF7 HCR.out.2.1 hp7 hr7
                    clear hp7 hr7 hF7 hK7 hb7
                    go_wp2_with fail
                    refine HLF.out.mono ?_
                    rintro e w8 ⟨rfl, hK8⟩
                    have HFIN : Hid (KS W0.heap.size W0 w8 p k (doesS S o) (doesS S o).fs ∧ Inv (doesS S o) (i + 1) ∧ (doesS S o).limit = l0 ∧ KpI (doesS S o) keep) := ⟨by rw [HCR.out.2.2]; exact hK8, HI5.out.1, HI5.out.2.1, HKV.out⟩
                    clear hK8
                    go_wp2_with fail
                    go_roundw
                    case rel => exact ⟨i + 1, by omega, by first | rfl | go_num, doesS S o, keep, rfl, HFIN.out⟩
                    case measure => simp [RowKit.intOf]; omega
              · skip
                by_cases hqE : E = 0
                · skip
                  have hqF : ¬ E = 111 := by omega
                  have hkk : keepK keep o E = keep := by unfold keepK; rw [if_neg (by omega), if_neg (by omega)]
                  have HKV : Hid (KpI (doesS S o) keep) := by have := HI5.out.2.2; rwa [hkk] at this
                  have t8 : (o.kind == 8) = false := by simp; omega
                  have t9 : (o.kind == 9) = false := by simp; omega
                  have t1 : (o.kind == 1) = false := by simp; omega
                  have te : (E == 0) = true := by simp; omega
                  have tf : (E == 111) = false := by simp; omega
                  obtain ⟨kp, hkp, hkb, hfs⟩ := crash_now hS.out.2.2.2 hS.out.2.1.ok HDN.out.1 o HR.out.2.2.1.N HDN.out.2
                  rw [← HEN.out.1, hkk] at hkp
                  rw [if_neg (by omega)] at hfs
                  have HCR : Hid (keep = (kp : Int) ∧ kp ≤ 9223372036854775807 ∧ (doesS S o).fs = leftF kp (S.fs)) := ⟨hkp, hkb, hfs⟩
                  clear hkk hkp hkb hfs
                  clear hq8 hq9 hqE hqF hq1
                  go_wp2_with fail
                  refine (ks_files (Nat.le_refl _) HK6.out HI5.out.1 (by omega)).mono ?_
                  rintro e w7 ⟨fa7, fn7, fc7, l7, rfl, hp7, hr7, hF7, hK7, hb7⟩
                  rw [HCR.out.2.2] at hp7
                  have HLF : Hid (Calls Try.prog 26 #[.pointer (some ⟨k, 0, none⟩), .slice fa7 fn7 fc7, .int .i64 keep] w7 fun e w' => e = .returned (.bool true) ∧ KS W0.heap.size W0 w' p k (doesS S o) (leftF kp (S.fs))) := by
                    rw [HCR.out.1]
                    exact ks_left (Nat.le_refl _) hK7 (by have := HS0.out.1; omega) HS0.out.2.1 HS0.out.2.2.1 (by have := HS0.out.2.2.2; omega) hF7 HCR.out.2.1 hp7 hr7
                  clear hp7 hr7 hF7 hK7 hb7
                  go_wp2_with fail
                  refine HLF.out.mono ?_
                  rintro e w8 ⟨rfl, hK8⟩
                  have HFIN : Hid (KS W0.heap.size W0 w8 p k (doesS S o) (doesS S o).fs ∧ Inv (doesS S o) (i + 1) ∧ (doesS S o).limit = l0 ∧ KpI (doesS S o) keep) := ⟨by rw [HCR.out.2.2]; exact hK8, HI5.out.1, HI5.out.2.1, HKV.out⟩
                  clear hK8
                  go_wp2_with fail
                  go_roundw
                  case rel => exact ⟨i + 1, by omega, by first | rfl | go_num, doesS S o, keep, rfl, HFIN.out⟩
                  case measure => simp [RowKit.intOf]; omega
                · skip
                  by_cases hqF : E = 111
                  · skip
                    have hkk : keepK keep o E = keep := by unfold keepK; rw [if_neg (by omega), if_neg (by omega)]
                    have HKV : Hid (KpI (doesS S o) keep) := by have := HI5.out.2.2; rwa [hkk] at this
                    have t8 : (o.kind == 8) = false := by simp; omega
                    have t9 : (o.kind == 9) = false := by simp; omega
                    have t1 : (o.kind == 1) = false := by simp; omega
                    have te : (E == 0) = false := by simp; omega
                    have tf : (E == 111) = true := by simp; omega
                    obtain ⟨kp, hkp, hkb, hfs⟩ := crash_now hS.out.2.2.2 hS.out.2.1.ok HDN.out.1 o HR.out.2.2.1.N HDN.out.2
                    rw [← HEN.out.1, hkk] at hkp
                    rw [if_neg (by omega)] at hfs
                    have HCR : Hid (keep = (kp : Int) ∧ kp ≤ 9223372036854775807 ∧ (doesS S o).fs = leftF kp (S.fs)) := ⟨hkp, hkb, hfs⟩
                    clear hkk hkp hkb hfs
                    clear hq8 hq9 hqE hqF hq1
                    go_wp2_with fail
                    refine (ks_files (Nat.le_refl _) HK6.out HI5.out.1 (by omega)).mono ?_
                    rintro e w7 ⟨fa7, fn7, fc7, l7, rfl, hp7, hr7, hF7, hK7, hb7⟩
                    rw [HCR.out.2.2] at hp7
                    have HLF : Hid (Calls Try.prog 26 #[.pointer (some ⟨k, 0, none⟩), .slice fa7 fn7 fc7, .int .i64 keep] w7 fun e w' => e = .returned (.bool true) ∧ KS W0.heap.size W0 w' p k (doesS S o) (leftF kp (S.fs))) := by
                      rw [HCR.out.1]
                      exact ks_left (Nat.le_refl _) hK7 (by have := HS0.out.1; omega) HS0.out.2.1 HS0.out.2.2.1 (by have := HS0.out.2.2.2; omega) hF7 HCR.out.2.1 hp7 hr7
                    clear hp7 hr7 hF7 hK7 hb7
                    go_wp2_with fail
                    refine HLF.out.mono ?_
                    rintro e w8 ⟨rfl, hK8⟩
                    have HFIN : Hid (KS W0.heap.size W0 w8 p k (doesS S o) (doesS S o).fs ∧ Inv (doesS S o) (i + 1) ∧ (doesS S o).limit = l0 ∧ KpI (doesS S o) keep) := ⟨by rw [HCR.out.2.2]; exact hK8, HI5.out.1, HI5.out.2.1, HKV.out⟩
                    clear hK8
                    go_wp2_with fail
                    go_roundw
                    case rel => exact ⟨i + 1, by omega, by first | rfl | go_num, doesS S o, keep, rfl, HFIN.out⟩
                    case measure => simp [RowKit.intOf]; omega
                  · skip
                    have hkk : keepK keep o E = keep := by unfold keepK; rw [if_neg (by omega), if_neg (by omega)]
                    have HKV : Hid (KpI (doesS S o) keep) := by have := HI5.out.2.2; rwa [hkk] at this
                    have t8 : (o.kind == 8) = false := by simp; omega
                    have t9 : (o.kind == 9) = false := by simp; omega
                    have t1 : (o.kind == 1) = false := by simp; omega
                    have te : (E == 0) = false := by simp; omega
                    have tf : (E == 111) = false := by simp; omega
                    obtain ⟨kp, hkp, hkb, hfs⟩ := crash_now hS.out.2.2.2 hS.out.2.1.ok HDN.out.1 o HR.out.2.2.1.N HDN.out.2
                    rw [← HEN.out.1, hkk] at hkp
                    rw [if_neg (by omega)] at hfs
                    have HCR : Hid (keep = (kp : Int) ∧ kp ≤ 9223372036854775807 ∧ (doesS S o).fs = leftF kp (S.fs)) := ⟨hkp, hkb, hfs⟩
                    clear hkk hkp hkb hfs
                    clear hq8 hq9 hqE hqF hq1
                    go_wp2_with fail
                    refine (ks_files (Nat.le_refl _) HK6.out HI5.out.1 (by omega)).mono ?_
                    rintro e w7 ⟨fa7, fn7, fc7, l7, rfl, hp7, hr7, hF7, hK7, hb7⟩
                    rw [HCR.out.2.2] at hp7
                    have HLF : Hid (Calls Try.prog 26 #[.pointer (some ⟨k, 0, none⟩), .slice fa7 fn7 fc7, .int .i64 keep] w7 fun e w' => e = .returned (.bool true) ∧ KS W0.heap.size W0 w' p k (doesS S o) (leftF kp (S.fs))) := by
                      rw [HCR.out.1]
                      exact ks_left (Nat.le_refl _) hK7 (by have := HS0.out.1; omega) HS0.out.2.1 HS0.out.2.2.1 (by have := HS0.out.2.2.2; omega) hF7 HCR.out.2.1 hp7 hr7
                    clear hp7 hr7 hF7 hK7 hb7
                    go_wp2_with fail
                    refine HLF.out.mono ?_
                    rintro e w8 ⟨rfl, hK8⟩
                    have HFIN : Hid (KS W0.heap.size W0 w8 p k (doesS S o) (doesS S o).fs ∧ Inv (doesS S o) (i + 1) ∧ (doesS S o).limit = l0 ∧ KpI (doesS S o) keep) := ⟨by rw [HCR.out.2.2]; exact hK8, HI5.out.1, HI5.out.2.1, HKV.out⟩
                    clear hK8
                    go_wp2_with fail
                    go_roundw
                    case rel => exact ⟨i + 1, by omega, by first | rfl | go_num, doesS S o, keep, rfl, HFIN.out⟩
                    case measure => simp [RowKit.intOf]; omega
        | false =>
          by_cases hq8 : o.kind = 8
          · skip
            have hq9 : ¬ o.kind = 9 := by omega
            have hq1 : ¬ o.kind = 1 := by omega
            by_cases hqE : E = 0
            · skip
              have hqF : ¬ E = 111 := by omega
              have hkk : keepK keep o E = o.M := by unfold keepK; rw [if_neg (by omega), if_pos (by omega)]
              have HKV : Hid (KpI (doesS S o) o.M) := by have := HI5.out.2.2; rwa [hkk] at this
              have t8 : (o.kind == 8) = true := by simp; omega
              have t9 : (o.kind == 9) = false := by simp; omega
              have t1 : (o.kind == 1) = false := by simp; omega
              have te : (E == 0) = true := by simp; omega
              have tf : (E == 111) = false := by simp; omega
              have HEC : Hid (Calls Try.prog 27 #[.pointer (some ⟨k, 0, none⟩), .agg #[.int .i64 o.kind, .string ⟨o.nm.toArray⟩, .slice o.ba o.B.length o.bc, .int .i64 o.N, .int .i64 o.M], .agg #[.int .i64 E, .int .i64 N, .int .i64 M, .slice a1 n1 c1, .slice a2 n2 c2, .bool dn]] V6 fun e w' => e = .returned (.bool true) ∧ KS W0.heap.size W0 w' p k (doesS S o) (doesS S o).fs) := by
                have hEk : OkE (ansE S o) := by rw [← HEN.out.1]; unfold OkE; omega
                rw [HEN.out.1, HEN.out.2]
                exact ks_enters (Nat.le_refl _) HK6.out hS.out.2.1 (by omega) HS0.out.2.1 HR.out.2.2.1 HX6.out.2 (Nat.le_of_lt HW.out.2.1) HDN.out.1 HDN.out.2 hEk
              clear hkk
              clear hq8 hq9 hqE hqF hq1
              go_wp2_with fail
              refine HEC.out.mono ?_
              rintro e w8 ⟨rfl, hK8⟩
              have HFIN : Hid (KS W0.heap.size W0 w8 p k (doesS S o) (doesS S o).fs ∧ Inv (doesS S o) (i + 1) ∧ (doesS S o).limit = l0 ∧ KpI (doesS S o) o.M) := ⟨hK8, HI5.out.1, HI5.out.2.1, HKV.out⟩
              clear hK8
              go_wp2_with fail
              go_roundw
              case rel => exact ⟨i + 1, by omega, by first | rfl | go_num, doesS S o, o.M, rfl, HFIN.out⟩
              case measure => simp [RowKit.intOf]; omega
            · skip
              by_cases hqF : E = 111
              · skip
                have hkk : keepK keep o E = keep := by unfold keepK; rw [if_neg (by omega), if_neg (by omega)]
                have HKV : Hid (KpI (doesS S o) keep) := by have := HI5.out.2.2; rwa [hkk] at this
                have t8 : (o.kind == 8) = true := by simp; omega
                have t9 : (o.kind == 9) = false := by simp; omega
                have t1 : (o.kind == 1) = false := by simp; omega
                have te : (E == 0) = false := by simp; omega
                have tf : (E == 111) = true := by simp; omega
                have HEC : Hid (Calls Try.prog 27 #[.pointer (some ⟨k, 0, none⟩), .agg #[.int .i64 o.kind, .string ⟨o.nm.toArray⟩, .slice o.ba o.B.length o.bc, .int .i64 o.N, .int .i64 o.M], .agg #[.int .i64 E, .int .i64 N, .int .i64 M, .slice a1 n1 c1, .slice a2 n2 c2, .bool dn]] V6 fun e w' => e = .returned (.bool true) ∧ KS W0.heap.size W0 w' p k (doesS S o) (doesS S o).fs) := by
                  have hEk : OkE (ansE S o) := by rw [← HEN.out.1]; unfold OkE; omega
                  rw [HEN.out.1, HEN.out.2]
                  exact ks_enters (Nat.le_refl _) HK6.out hS.out.2.1 (by omega) HS0.out.2.1 HR.out.2.2.1 HX6.out.2 (Nat.le_of_lt HW.out.2.1) HDN.out.1 HDN.out.2 hEk
                clear hkk
                clear hq8 hq9 hqE hqF hq1
                go_wp2_with fail
                refine HEC.out.mono ?_
                rintro e w8 ⟨rfl, hK8⟩
                have HFIN : Hid (KS W0.heap.size W0 w8 p k (doesS S o) (doesS S o).fs ∧ Inv (doesS S o) (i + 1) ∧ (doesS S o).limit = l0 ∧ KpI (doesS S o) keep) := ⟨hK8, HI5.out.1, HI5.out.2.1, HKV.out⟩
                clear hK8
                go_wp2_with fail
                go_roundw
                case rel => exact ⟨i + 1, by omega, by first | rfl | go_num, doesS S o, keep, rfl, HFIN.out⟩
                case measure => simp [RowKit.intOf]; omega
              · skip
                have hkk : keepK keep o E = keep := by unfold keepK; rw [if_neg (by omega), if_neg (by omega)]
                have HKV : Hid (KpI (doesS S o) keep) := by have := HI5.out.2.2; rwa [hkk] at this
                have t8 : (o.kind == 8) = true := by simp; omega
                have t9 : (o.kind == 9) = false := by simp; omega
                have t1 : (o.kind == 1) = false := by simp; omega
                have te : (E == 0) = false := by simp; omega
                have tf : (E == 111) = false := by simp; omega
                have hfs : (doesS S o).fs = S.fs := same_fs HDN.out.1 HDN.out.2 (by rw [← HEN.out.1]; unfold OkE; omega)
                have HFIN : Hid (KS W0.heap.size W0 V6 p k (doesS S o) (doesS S o).fs ∧ Inv (doesS S o) (i + 1) ∧ (doesS S o).limit = l0 ∧ KpI (doesS S o) keep) := ⟨by rw [hfs]; exact HK6.out, HI5.out.1, HI5.out.2.1, HKV.out⟩
                clear hkk hfs
                clear hq8 hq9 hqE hqF hq1
                go_wp2_with fail
                go_roundw
                case rel => exact ⟨i + 1, by omega, by first | rfl | go_num, doesS S o, keep, rfl, HFIN.out⟩
                case measure => simp [RowKit.intOf]; omega
          · skip
            by_cases hq9 : o.kind = 9
            · skip
              have hq1 : ¬ o.kind = 1 := by omega
              by_cases hqE : E = 0
              · skip
                have hqF : ¬ E = 111 := by omega
                have hkk : keepK keep o E = o.N := by unfold keepK; rw [if_pos (by omega)]
                have HKV : Hid (KpI (doesS S o) o.N) := by have := HI5.out.2.2; rwa [hkk] at this
                have t8 : (o.kind == 8) = false := by simp; omega
                have t9 : (o.kind == 9) = true := by simp; omega
                have t1 : (o.kind == 1) = false := by simp; omega
                have te : (E == 0) = true := by simp; omega
                have tf : (E == 111) = false := by simp; omega
                have HEC : Hid (Calls Try.prog 27 #[.pointer (some ⟨k, 0, none⟩), .agg #[.int .i64 o.kind, .string ⟨o.nm.toArray⟩, .slice o.ba o.B.length o.bc, .int .i64 o.N, .int .i64 o.M], .agg #[.int .i64 E, .int .i64 N, .int .i64 M, .slice a1 n1 c1, .slice a2 n2 c2, .bool dn]] V6 fun e w' => e = .returned (.bool true) ∧ KS W0.heap.size W0 w' p k (doesS S o) (doesS S o).fs) := by
                  have hEk : OkE (ansE S o) := by rw [← HEN.out.1]; unfold OkE; omega
                  rw [HEN.out.1, HEN.out.2]
                  exact ks_enters (Nat.le_refl _) HK6.out hS.out.2.1 (by omega) HS0.out.2.1 HR.out.2.2.1 HX6.out.2 (Nat.le_of_lt HW.out.2.1) HDN.out.1 HDN.out.2 hEk
                clear hkk
                clear hq8 hq9 hqE hqF hq1
                go_wp2_with fail
                refine HEC.out.mono ?_
                rintro e w8 ⟨rfl, hK8⟩
                have HFIN : Hid (KS W0.heap.size W0 w8 p k (doesS S o) (doesS S o).fs ∧ Inv (doesS S o) (i + 1) ∧ (doesS S o).limit = l0 ∧ KpI (doesS S o) o.N) := ⟨hK8, HI5.out.1, HI5.out.2.1, HKV.out⟩
                clear hK8
                go_wp2_with fail
                go_roundw
                case rel => exact ⟨i + 1, by omega, by first | rfl | go_num, doesS S o, o.N, rfl, HFIN.out⟩
                case measure => simp [RowKit.intOf]; omega
              · skip
                by_cases hqF : E = 111
                · skip
                  have hkk : keepK keep o E = keep := by unfold keepK; rw [if_neg (by omega), if_neg (by omega)]
                  have HKV : Hid (KpI (doesS S o) keep) := by have := HI5.out.2.2; rwa [hkk] at this
                  have t8 : (o.kind == 8) = false := by simp; omega
                  have t9 : (o.kind == 9) = true := by simp; omega
                  have t1 : (o.kind == 1) = false := by simp; omega
                  have te : (E == 0) = false := by simp; omega
                  have tf : (E == 111) = true := by simp; omega
                  have HEC : Hid (Calls Try.prog 27 #[.pointer (some ⟨k, 0, none⟩), .agg #[.int .i64 o.kind, .string ⟨o.nm.toArray⟩, .slice o.ba o.B.length o.bc, .int .i64 o.N, .int .i64 o.M], .agg #[.int .i64 E, .int .i64 N, .int .i64 M, .slice a1 n1 c1, .slice a2 n2 c2, .bool dn]] V6 fun e w' => e = .returned (.bool true) ∧ KS W0.heap.size W0 w' p k (doesS S o) (doesS S o).fs) := by
                    have hEk : OkE (ansE S o) := by rw [← HEN.out.1]; unfold OkE; omega
                    rw [HEN.out.1, HEN.out.2]
                    exact ks_enters (Nat.le_refl _) HK6.out hS.out.2.1 (by omega) HS0.out.2.1 HR.out.2.2.1 HX6.out.2 (Nat.le_of_lt HW.out.2.1) HDN.out.1 HDN.out.2 hEk
                  clear hkk
                  clear hq8 hq9 hqE hqF hq1
                  go_wp2_with fail
                  refine HEC.out.mono ?_
                  rintro e w8 ⟨rfl, hK8⟩
                  have HFIN : Hid (KS W0.heap.size W0 w8 p k (doesS S o) (doesS S o).fs ∧ Inv (doesS S o) (i + 1) ∧ (doesS S o).limit = l0 ∧ KpI (doesS S o) keep) := ⟨hK8, HI5.out.1, HI5.out.2.1, HKV.out⟩
                  clear hK8
                  go_wp2_with fail
                  go_roundw
                  case rel => exact ⟨i + 1, by omega, by first | rfl | go_num, doesS S o, keep, rfl, HFIN.out⟩
                  case measure => simp [RowKit.intOf]; omega
                · skip
                  have hkk : keepK keep o E = keep := by unfold keepK; rw [if_neg (by omega), if_neg (by omega)]
                  have HKV : Hid (KpI (doesS S o) keep) := by have := HI5.out.2.2; rwa [hkk] at this
                  have t8 : (o.kind == 8) = false := by simp; omega
                  have t9 : (o.kind == 9) = true := by simp; omega
                  have t1 : (o.kind == 1) = false := by simp; omega
                  have te : (E == 0) = false := by simp; omega
                  have tf : (E == 111) = false := by simp; omega
                  have hfs : (doesS S o).fs = S.fs := same_fs HDN.out.1 HDN.out.2 (by rw [← HEN.out.1]; unfold OkE; omega)
                  have HFIN : Hid (KS W0.heap.size W0 V6 p k (doesS S o) (doesS S o).fs ∧ Inv (doesS S o) (i + 1) ∧ (doesS S o).limit = l0 ∧ KpI (doesS S o) keep) := ⟨by rw [hfs]; exact HK6.out, HI5.out.1, HI5.out.2.1, HKV.out⟩
                  clear hkk hfs
                  clear hq8 hq9 hqE hqF hq1
                  go_wp2_with fail
                  go_roundw
                  case rel => exact ⟨i + 1, by omega, by first | rfl | go_num, doesS S o, keep, rfl, HFIN.out⟩
                  case measure => simp [RowKit.intOf]; omega
            · skip
              by_cases hq1 : o.kind = 1
              · skip
                by_cases hqE : E = 0
                · skip
                  have hqF : ¬ E = 111 := by omega
                  have hkk : keepK keep o E = keep := by unfold keepK; rw [if_neg (by omega), if_neg (by omega)]
                  have HKV : Hid (KpI (doesS S o) keep) := by have := HI5.out.2.2; rwa [hkk] at this
                  have t8 : (o.kind == 8) = false := by simp; omega
                  have t9 : (o.kind == 9) = false := by simp; omega
                  have t1 : (o.kind == 1) = true := by simp; omega
                  have te : (E == 0) = true := by simp; omega
                  have tf : (E == 111) = false := by simp; omega
                  have HEC : Hid (Calls Try.prog 27 #[.pointer (some ⟨k, 0, none⟩), .agg #[.int .i64 o.kind, .string ⟨o.nm.toArray⟩, .slice o.ba o.B.length o.bc, .int .i64 o.N, .int .i64 o.M], .agg #[.int .i64 E, .int .i64 N, .int .i64 M, .slice a1 n1 c1, .slice a2 n2 c2, .bool dn]] V6 fun e w' => e = .returned (.bool true) ∧ KS W0.heap.size W0 w' p k (doesS S o) (doesS S o).fs) := by
                    have hEk : OkE (ansE S o) := by rw [← HEN.out.1]; unfold OkE; omega
                    rw [HEN.out.1, HEN.out.2]
                    exact ks_enters (Nat.le_refl _) HK6.out hS.out.2.1 (by omega) HS0.out.2.1 HR.out.2.2.1 HX6.out.2 (Nat.le_of_lt HW.out.2.1) HDN.out.1 HDN.out.2 hEk
                  clear hkk
                  clear hq8 hq9 hqE hqF hq1
                  go_wp2_with fail
                  refine HEC.out.mono ?_
                  rintro e w8 ⟨rfl, hK8⟩
                  have HFIN : Hid (KS W0.heap.size W0 w8 p k (doesS S o) (doesS S o).fs ∧ Inv (doesS S o) (i + 1) ∧ (doesS S o).limit = l0 ∧ KpI (doesS S o) keep) := ⟨hK8, HI5.out.1, HI5.out.2.1, HKV.out⟩
                  clear hK8
                  go_wp2_with fail
                  go_roundw
                  case rel => exact ⟨i + 1, by omega, by first | rfl | go_num, doesS S o, keep, rfl, HFIN.out⟩
                  case measure => simp [RowKit.intOf]; omega
                · skip
                  by_cases hqF : E = 111
                  · skip
                    have hkk : keepK keep o E = keep := by unfold keepK; rw [if_neg (by omega), if_neg (by omega)]
                    have HKV : Hid (KpI (doesS S o) keep) := by have := HI5.out.2.2; rwa [hkk] at this
                    have t8 : (o.kind == 8) = false := by simp; omega
                    have t9 : (o.kind == 9) = false := by simp; omega
                    have t1 : (o.kind == 1) = true := by simp; omega
                    have te : (E == 0) = false := by simp; omega
                    have tf : (E == 111) = true := by simp; omega
                    have HEC : Hid (Calls Try.prog 27 #[.pointer (some ⟨k, 0, none⟩), .agg #[.int .i64 o.kind, .string ⟨o.nm.toArray⟩, .slice o.ba o.B.length o.bc, .int .i64 o.N, .int .i64 o.M], .agg #[.int .i64 E, .int .i64 N, .int .i64 M, .slice a1 n1 c1, .slice a2 n2 c2, .bool dn]] V6 fun e w' => e = .returned (.bool true) ∧ KS W0.heap.size W0 w' p k (doesS S o) (doesS S o).fs) := by
                      have hEk : OkE (ansE S o) := by rw [← HEN.out.1]; unfold OkE; omega
                      rw [HEN.out.1, HEN.out.2]
                      exact ks_enters (Nat.le_refl _) HK6.out hS.out.2.1 (by omega) HS0.out.2.1 HR.out.2.2.1 HX6.out.2 (Nat.le_of_lt HW.out.2.1) HDN.out.1 HDN.out.2 hEk
                    clear hkk
                    clear hq8 hq9 hqE hqF hq1
                    go_wp2_with fail
                    refine HEC.out.mono ?_
                    rintro e w8 ⟨rfl, hK8⟩
                    have HFIN : Hid (KS W0.heap.size W0 w8 p k (doesS S o) (doesS S o).fs ∧ Inv (doesS S o) (i + 1) ∧ (doesS S o).limit = l0 ∧ KpI (doesS S o) keep) := ⟨hK8, HI5.out.1, HI5.out.2.1, HKV.out⟩
                    clear hK8
                    go_wp2_with fail
                    go_roundw
                    case rel => exact ⟨i + 1, by omega, by first | rfl | go_num, doesS S o, keep, rfl, HFIN.out⟩
                    case measure => simp [RowKit.intOf]; omega
                  · skip
                    have hkk : keepK keep o E = keep := by unfold keepK; rw [if_neg (by omega), if_neg (by omega)]
                    have HKV : Hid (KpI (doesS S o) keep) := by have := HI5.out.2.2; rwa [hkk] at this
                    have t8 : (o.kind == 8) = false := by simp; omega
                    have t9 : (o.kind == 9) = false := by simp; omega
                    have t1 : (o.kind == 1) = true := by simp; omega
                    have te : (E == 0) = false := by simp; omega
                    have tf : (E == 111) = false := by simp; omega
                    have hfs : (doesS S o).fs = S.fs := same_fs HDN.out.1 HDN.out.2 (by rw [← HEN.out.1]; unfold OkE; omega)
                    have HFIN : Hid (KS W0.heap.size W0 V6 p k (doesS S o) (doesS S o).fs ∧ Inv (doesS S o) (i + 1) ∧ (doesS S o).limit = l0 ∧ KpI (doesS S o) keep) := ⟨by rw [hfs]; exact HK6.out, HI5.out.1, HI5.out.2.1, HKV.out⟩
                    clear hkk hfs
                    clear hq8 hq9 hqE hqF hq1
                    go_wp2_with fail
                    go_roundw
                    case rel => exact ⟨i + 1, by omega, by first | rfl | go_num, doesS S o, keep, rfl, HFIN.out⟩
                    case measure => simp [RowKit.intOf]; omega
              · skip
                by_cases hqE : E = 0
                · skip
                  have hqF : ¬ E = 111 := by omega
                  have hkk : keepK keep o E = keep := by unfold keepK; rw [if_neg (by omega), if_neg (by omega)]
                  have HKV : Hid (KpI (doesS S o) keep) := by have := HI5.out.2.2; rwa [hkk] at this
                  have t8 : (o.kind == 8) = false := by simp; omega
                  have t9 : (o.kind == 9) = false := by simp; omega
                  have t1 : (o.kind == 1) = false := by simp; omega
                  have te : (E == 0) = true := by simp; omega
                  have tf : (E == 111) = false := by simp; omega
                  have HEC : Hid (Calls Try.prog 27 #[.pointer (some ⟨k, 0, none⟩), .agg #[.int .i64 o.kind, .string ⟨o.nm.toArray⟩, .slice o.ba o.B.length o.bc, .int .i64 o.N, .int .i64 o.M], .agg #[.int .i64 E, .int .i64 N, .int .i64 M, .slice a1 n1 c1, .slice a2 n2 c2, .bool dn]] V6 fun e w' => e = .returned (.bool true) ∧ KS W0.heap.size W0 w' p k (doesS S o) (doesS S o).fs) := by
                    have hEk : OkE (ansE S o) := by rw [← HEN.out.1]; unfold OkE; omega
                    rw [HEN.out.1, HEN.out.2]
                    exact ks_enters (Nat.le_refl _) HK6.out hS.out.2.1 (by omega) HS0.out.2.1 HR.out.2.2.1 HX6.out.2 (Nat.le_of_lt HW.out.2.1) HDN.out.1 HDN.out.2 hEk
                  clear hkk
                  clear hq8 hq9 hqE hqF hq1
                  go_wp2_with fail
                  refine HEC.out.mono ?_
                  rintro e w8 ⟨rfl, hK8⟩
                  have HFIN : Hid (KS W0.heap.size W0 w8 p k (doesS S o) (doesS S o).fs ∧ Inv (doesS S o) (i + 1) ∧ (doesS S o).limit = l0 ∧ KpI (doesS S o) keep) := ⟨hK8, HI5.out.1, HI5.out.2.1, HKV.out⟩
                  clear hK8
                  go_wp2_with fail
                  go_roundw
                  case rel => exact ⟨i + 1, by omega, by first | rfl | go_num, doesS S o, keep, rfl, HFIN.out⟩
                  case measure => simp [RowKit.intOf]; omega
                · skip
                  by_cases hqF : E = 111
                  · skip
                    have hkk : keepK keep o E = keep := by unfold keepK; rw [if_neg (by omega), if_neg (by omega)]
                    have HKV : Hid (KpI (doesS S o) keep) := by have := HI5.out.2.2; rwa [hkk] at this
                    have t8 : (o.kind == 8) = false := by simp; omega
                    have t9 : (o.kind == 9) = false := by simp; omega
                    have t1 : (o.kind == 1) = false := by simp; omega
                    have te : (E == 0) = false := by simp; omega
                    have tf : (E == 111) = true := by simp; omega
                    have HEC : Hid (Calls Try.prog 27 #[.pointer (some ⟨k, 0, none⟩), .agg #[.int .i64 o.kind, .string ⟨o.nm.toArray⟩, .slice o.ba o.B.length o.bc, .int .i64 o.N, .int .i64 o.M], .agg #[.int .i64 E, .int .i64 N, .int .i64 M, .slice a1 n1 c1, .slice a2 n2 c2, .bool dn]] V6 fun e w' => e = .returned (.bool true) ∧ KS W0.heap.size W0 w' p k (doesS S o) (doesS S o).fs) := by
                      have hEk : OkE (ansE S o) := by rw [← HEN.out.1]; unfold OkE; omega
                      rw [HEN.out.1, HEN.out.2]
                      exact ks_enters (Nat.le_refl _) HK6.out hS.out.2.1 (by omega) HS0.out.2.1 HR.out.2.2.1 HX6.out.2 (Nat.le_of_lt HW.out.2.1) HDN.out.1 HDN.out.2 hEk
                    clear hkk
                    clear hq8 hq9 hqE hqF hq1
                    go_wp2_with fail
                    refine HEC.out.mono ?_
                    rintro e w8 ⟨rfl, hK8⟩
                    have HFIN : Hid (KS W0.heap.size W0 w8 p k (doesS S o) (doesS S o).fs ∧ Inv (doesS S o) (i + 1) ∧ (doesS S o).limit = l0 ∧ KpI (doesS S o) keep) := ⟨hK8, HI5.out.1, HI5.out.2.1, HKV.out⟩
                    clear hK8
                    go_wp2_with fail
                    go_roundw
                    case rel => exact ⟨i + 1, by omega, by first | rfl | go_num, doesS S o, keep, rfl, HFIN.out⟩
                    case measure => simp [RowKit.intOf]; omega
                  · skip
                    have hkk : keepK keep o E = keep := by unfold keepK; rw [if_neg (by omega), if_neg (by omega)]
                    have HKV : Hid (KpI (doesS S o) keep) := by have := HI5.out.2.2; rwa [hkk] at this
                    have t8 : (o.kind == 8) = false := by simp; omega
                    have t9 : (o.kind == 9) = false := by simp; omega
                    have t1 : (o.kind == 1) = false := by simp; omega
                    have te : (E == 0) = false := by simp; omega
                    have tf : (E == 111) = false := by simp; omega
                    have hfs : (doesS S o).fs = S.fs := same_fs HDN.out.1 HDN.out.2 (by rw [← HEN.out.1]; unfold OkE; omega)
                    have HFIN : Hid (KS W0.heap.size W0 V6 p k (doesS S o) (doesS S o).fs ∧ Inv (doesS S o) (i + 1) ∧ (doesS S o).limit = l0 ∧ KpI (doesS S o) keep) := ⟨by rw [hfs]; exact HK6.out, HI5.out.1, HI5.out.2.1, HKV.out⟩
                    clear hkk hfs
                    clear hq8 hq9 hqE hqF hq1
                    go_wp2_with fail
                    go_roundw
                    case rel => exact ⟨i + 1, by omega, by first | rfl | go_num, doesS S o, keep, rfl, HFIN.out⟩
                    case measure => simp [RowKit.intOf]; omega
    · obtain rfl : on = i := by omega
      have hlt2 : ¬ ((on : Int) < (on : Int)) := by omega
      go_wp2_with fail
      refine (ks_files (Nat.le_refl _) hS.out.1 hS.out.2.1 (by omega)).mono ?_
      rintro e w4 ⟨a, n, c, l, rfl, hp4, hr4, hF4, hK4, hb4⟩
      have hcn := hS.out.2.1.cnt
      have HHO : Hid (Calls Try.prog 28 #[.pointer (some ⟨k, 0, none⟩), .slice a n c] w4 fun e w' => e = .returned (.bool true) ∧ Below w4.heap.size w4 w') := ks_holds hK4 (by omega) (ks_nodup hK4).1 hF4 hp4 hr4
      have HB4 : Hid (Below w.heap.size w w4) := (HW.out.2.2 _ hbr).trans (hb4.mono (HW.out.2.2 _ hbr).size)
      clear hp4 hr4 hF4 hK4 hb4 hcn
      go_wp2_with fail
      refine HHO.out.mono ?_
      rintro e w6 ⟨rfl, hb6⟩
      have HB6 : Hid (Below w.heap.size w w6) := HB4.out.trans (hb6.mono HB4.out.size)
      clear hb6
      go_wp2_with fail
      go_ret
      exact ⟨rfl, HB6.out⟩
end Go.Proofs.Ytaclgiakinoocaa
