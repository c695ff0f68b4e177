import Derived.Test.YtjngncamhnpphaaDfF
import Derived.Test.YtjngncamhnpphaaDeC
/-! DiskLoaded. -/
namespace Go.Proofs.Ytjngncamhnpphaa
open Go.RowKit Go.Lib Go.Sort Go.Shelf
set_option maxRecDepth 100000

theorem ds_filesO {B : Nat} {W0 W : World} {p : Nat} {S : Dk} (hB : B ≤ W0.heap.size) (h : DS B W0 W p S) {c : Nat} (hI : Inv S c) (hc : S.fs.length ≤ 4398046511104) :
    Calls Try.prog 11 #[.pointer (some ⟨p, 0, none⟩)] W fun e w' => ∃ a n c l, e = .returned (.slice a n c) ∧ l.Perm S.fs ∧ RiseF l ∧ FilesO w' W.heap.size a n c l ∧ DS B W0 w' p S ∧ Below W.heap.size W w' := by
  have hG := fun W' hb => h.grow (W' := W') hB hb
  obtain ⟨b, xs, ck, h1, _⟩ := h
  have e0 := h1.fs
  refine (files_any h1 (hI.ok.len h1) (by rw [e0, List.length_map] at hc; exact hc) (fun x hx => by have := hI.nms x.fl (by rw [e0]; exact List.mem_map.2 ⟨x, hx, rfl⟩); exact Nat.le_trans this (by decide))).mono ?_
  rintro e w' hfp
  have hb : Below W.heap.size W w' := by
    obtain ⟨g, cap, zs, _, _, _, _, _, _, hb, _⟩ := hfp
    exact hb
  obtain ⟨a, n, c, rfl⟩ : ∃ a n c, e = .returned (.slice a n c) := by
    obtain ⟨g, cap, zs, he, _⟩ := hfp
    exact ⟨_, _, _, he⟩
  obtain ⟨l, h2, h3, h4⟩ := filesP_o hfp
  exact ⟨a, n, c, l, rfl, by rw [e0]; exact h2, h3, h4, hG w' hb, hb⟩
/-- own of answered files -/
theorem own_files {W : World} {B n c : Nat} {a : Option Addr} {l : List Fl} (h : FilesO W B a n c l) (hn : l.length ≤ 4398046511104) (hu : used l ≤ 1099511627776) :
    Calls Try.prog 16 #[.slice a n c] W fun e w' => ∃ (a' : Option Addr) (c' : Nat), e = .returned (.slice a' n c') ∧ FilesR w' a' n c' l ∧ Below W.heap.size W w' := by
  obtain ⟨vs, h1, h2, h3, _⟩ := h.row
  have hl := h1.len
  have hfl : ∀ (i : Nat) v, vs[i]? = some v → ∃ f, l[i]? = some f ∧ FlOk W v f := fun i v hv => by
    have h5 := (List.getElem?_eq_some_iff.1 hv).1
    exact ⟨l[i], List.getElem?_eq_getElem (by omega), h3 i v _ hv (List.getElem?_eq_getElem (by omega))⟩
  refine (own_any h1 (by omega) h2 h3 (fun v hv => Nat.le_trans (sumV_mem hv) (by rw [sumV_used h2 hfl]; exact hu))).mono ?_
  rintro e w' ⟨a', c', us, rfl, ho⟩
  obtain ⟨k1, k2, k3⟩ := ho.files (by omega)
  exact ⟨a', c', rfl, ⟨us, k1, k2, k3⟩, ho.below⟩
/-- Load beside a disk -/
theorem d2_load {B : Nat} {W0 W : World} {p : Nat} {S : Dk} (hB : B ≤ W0.heap.size) (h : DS B W0 W p S) {a : Option Addr} {n c lim : Nat} {l : List Fl} (hr : FilesR W a n c l) (hn : l.length ≤ 4398046511104) (hl : lim ≤ 1099511627776) (hL : Loads l lim) :
    Calls Try.prog 15 #[.int .i64 (lim : Int), .slice a n c] W fun e w' => ∃ q, e = .returned (.tuple #[.pointer (some ⟨q, 0, none⟩), .int .i64 0]) ∧ D2 B W0 w' p q S ⟨lim, l, false, 0, 0⟩ ∧ Below W.heap.size W w' := by
  obtain ⟨b, xs, ck, h1, h2, h3⟩ := h
  obtain ⟨vs, k1, k2, k3⟩ := hr.row
  have hk := k1.len
  refine (load_ok k1 (by omega) k2 k3 hl hL).mono ?_
  rintro e w' ⟨q, c', ys, dk, rfl, hD, hge, hb⟩
  have hsz := h3.size
  exact ⟨q, rfl, ⟨b, xs, ck, c', ys, dk, h1.below hb, hD, fun g hg hq => by have := h1.lt hg; have := hge g hq; omega, h2, fun g hg => by have := hge g hg; omega, h3.trans (hb.mono (by omega))⟩, hb⟩
theorem D2.first {B : Nat} {W0 W : World} {p q : Nat} {S T : Dk} (h : D2 B W0 W p q S T) : DS B W0 W p S := by
  obtain ⟨b, xs, ck, c, ys, dk, h1, h2, h3, h4, h5, h6⟩ := h.two
  exact ⟨b, xs, ck, h1, h4, h6⟩
theorem DS.loads {B : Nat} {W0 W : World} {p : Nat} {S : Dk} (h : DS B W0 W p S) (hO : S.Ok) (hN : Named S) {l : List Fl} (hp : l.Perm S.fs) : Loads l S.limit := by
  obtain ⟨b, xs, ck, h1, h2, h3⟩ := h
  exact loads_of h1 hO hN hp
theorem AnsK.pm {W : World} {K : Nat → Prop} {S T : Dk} {o : OpR} {A : An} (h : AnsK W K T o A) (hp : Pm S T) (hn : (S.fs.map (·.nm)).Nodup) : AnsK W K S o A := by
  obtain ⟨a1, a2, a3, a4, a5, a6⟩ := hp.ans hn o
  obtain ⟨l, vs, h1, h2, h3⟩ := h.files
  exact ⟨h.e.trans a1, h.n.trans a2, h.m.trans a3, h.d.trans a4, a5 ▸ h.bytes, h.kb, l, vs, h1.trans a6.symm, h2, h3⟩
set_option maxHeartbeats 4000000 in
theorem diskLoaded_bad {w : World} (L : Int) (hL : L < 0 ∨ 1099511627776 < L) (fa : Option Addr) (fl fc : Nat) (oa : Option Addr) (on oc : Nat) (ta : Option Addr) (tn tc : Nat) :
    Calls Try.prog 4 #[.agg #[.int .i64 L, .slice fa fl fc, .slice oa on oc], .slice ta tn tc] w fun e w' => e = .returned (.bool true) ∧ Below w.heap.size w w' := by
  have HNU : Hid (∀ x w, Calls Try.prog 6 #[.int .i64 x] w fun e w' => e = .returned (.int .i64 x) ∧ w' = w) := num_any
  have HNW : Hid (∀ w, Calls Try.prog 5 #[.int .i64 L] w fun e w' => e = .returned (.tuple #[.pointer none, .int .i64 12]) ∧ w' = w) := new_bad L hL
  have hb0 : Below w.heap.size w (w.alloc (.cells #[.int .i64 L, .slice fa fl fc, .slice oa on oc] 45)) := (Below.refl _ _).alloc (Nat.le_refl _) _
  have HB0 : Hid (Below w.heap.size w (w.alloc (.cells #[.int .i64 L, .slice fa fl fc, .slice oa on oc] 45))) := hb0
  clear hb0
  by_cases h1 : L < 0
  · clear hL
    go_enter Try.func4, Try.ntmps4
    go_wp2_with fail
    refine (HNW.out _).mono ?_
    rintro e w1 ⟨rfl, rfl⟩
    go_wp2_with fail
    refine (HNU.out _ _).mono ?_
    rintro e wz ⟨rfl, hz⟩
    rw [hz]
    clear hz wz
    go_wp2_with fail
    refine (awake_any _).mono ?_
    rintro e w2 ⟨rfl, hb2⟩
    have HB2 : Hid (Below w.heap.size w w2) := HB0.out.trans (hb2.mono HB0.out.size)
    clear hb2
    go_wp2_with fail
    go_ret
    exact ⟨rfl, HB2.out⟩
  · have h2 : (1099511627776 : Int) < L := by omega
    clear hL
    go_enter Try.func4, Try.ntmps4
    go_wp2_with fail
    refine (HNW.out _).mono ?_
    rintro e w1 ⟨rfl, rfl⟩
    go_wp2_with fail
    refine (HNU.out _ _).mono ?_
    rintro e wz ⟨rfl, hz⟩
    rw [hz]
    clear hz wz
    go_wp2_with fail
    refine (awake_any _).mono ?_
    rintro e w2 ⟨rfl, hb2⟩
    have HB2 : Hid (Below w.heap.size w w2) := HB0.out.trans (hb2.mono HB0.out.size)
    clear hb2
    go_wp2_with fail
    go_ret
    exact ⟨rfl, HB2.out⟩
set_option maxHeartbeats 16000000 in
theorem diskLoaded_good {w : World} (l0 : Nat) (hl0 : l0 ≤ 1099511627776) (fa : Option Addr) (fl fc : Nat) {oa : Option Addr} {on oc : Nat} {ops : List OpR} (hops : Rw opV 5 w oa on oc ops) (hin : ∀ o ∈ ops, OpIn w o) (hon : on ≤ 2199023255551) {ta : Option Addr} {tn tc : Nat} {tps : List OpR} (htps : Rw opV 5 w ta tn tc tps) (htin : ∀ o ∈ tps, OpIn w o) (htn : tn ≤ 2199023255551) :
    Calls Try.prog 4 #[.agg #[.int .i64 (l0 : Int), .slice fa fl fc, .slice oa on oc], .slice ta tn tc] w fun e w' => e = .returned (.bool true) ∧ Below w.heap.size w w' := by
  have HNU : Hid (∀ x w, Calls Try.prog 6 #[.int .i64 x] w fun e w' => e = .returned (.int .i64 x) ∧ w' = w) := num_any
  obtain ⟨W0, hW0⟩ : ∃ W0, w.alloc (.cells #[.int .i64 (l0 : Int), .slice fa fl fc, .slice oa on oc] 45) = W0 := ⟨_, rfl⟩
  have hs0 : W0.heap.size = w.heap.size + 1 := by rw [← hW0, World.size_alloc]
  have hb0 : Below w.heap.size w W0 := by rw [← hW0]; exact (Below.refl _ _).alloc (Nat.le_refl _) _
  have hq0 : W0.heap[w.heap.size]? = some (.cells #[.int .i64 (l0 : Int), .slice fa fl fc, .slice oa on oc] 45) := by rw [← hW0]; exact (MapKept.heap_alloc w _).1
  have hWW : ∀ W, Below W0.heap.size W0 W → Below w.heap.size w W := fun W hb => hb0.trans (hb.mono (by omega))
  have HW : Hid (W0.heap[w.heap.size]? = some (.cells #[.int .i64 (l0 : Int), .slice fa fl fc, .slice oa on oc] 45) ∧ w.heap.size < W0.heap.size ∧ (∀ W, Below W0.heap.size W0 W → Below w.heap.size w W)) := ⟨hq0, by omega, hWW⟩
  obtain ⟨s0, s1, s2⟩ := box3 hq0
  have HNW : Hid (Calls Try.prog 5 #[.int .i64 (l0 : Int)] W0 fun e w' => ∃ p, e = .returned (.tuple #[.pointer (some ⟨p, 0, none⟩), .int .i64 0]) ∧ DS W0.heap.size W0 w' p ⟨l0, [], false, 0, 0⟩) := ds_new (Nat.le_refl _) (Below.refl _ _) l0 hl0
  have HL0 : Hid (l0 ≤ 1099511627776) := hl0
  have HOPS : Hid (Rw opV 5 w oa on oc ops ∧ (∀ o ∈ ops, OpIn w o) ∧ on + tn ≤ 4398046511102) := ⟨hops, hin, by omega⟩
  have HTPS : Hid (Rw opV 5 w ta tn tc tps ∧ (∀ o ∈ tps, OpIn w o) ∧ tn ≤ 2199023255551) := ⟨htps, htin, htn⟩
  have honc : (on : Int) ≤ 2199023255551 := by omega
  have htnc : (tn : Int) ≤ 2199023255551 := by omega
  clear hs0 hb0 hq0 hWW hl0 hops hin hon htps htin htn
  go_enter Try.func4, Try.ntmps4
  go_wp2_with fail
  refine HNW.out.mono ?_
  rintro e w1 ⟨p, rfl, hd⟩
  have HD1 : Hid (DS W0.heap.size W0 w1 p ⟨l0, [], false, 0, 0⟩) := hd
  clear hd HNW s0 s1 s2 hW0
  go_wp2_with fail
  refine (HNU.out _ _).mono ?_
  rintro e wz ⟨rfl, hz⟩
  rw [hz]
  clear hz wz
  go_wp2_with fail
  go_loopw [7] (fun v wr => ∃ i : Nat, i ≤ on ∧ v = .int .i64 (i : Int) ∧ ∃ S : Dk, Hid (DS W0.heap.size W0 wr p S ∧ Inv S i ∧ Named S ∧ S.limit = l0)) (fun v _ => on - (RowKit.intOf v).toNat)
  case atStart => exact ⟨0, Nat.zero_le _, rfl, ⟨l0, [], false, 0, 0⟩, HD1.out, ⟨⟨HL0.out, by simp [used], by simp, by simp⟩, by simp, by simp⟩, fun f hf => by simp at hf, rfl⟩
  case round =>
    obtain ⟨wo, hwo⟩ : ∃ wo, wo = wr := ⟨_, rfl⟩
    subst hwo
    obtain ⟨i, hi, rfl, S, hS⟩ := hrel
    obtain ⟨b, xs, ck, h1, h2, h3⟩ := hS.out.1
    have hbr := h3
    obtain ⟨s0, s1, s2⟩ := box3 ((hbr.block _ HW.out.2.1).trans HW.out.1)
    by_cases hlt : i < on
    · have hlt2 : (i : Int) < (on : Int) := by omega
      have hbw := HW.out.2.2 wo hbr
      obtain ⟨g, off, o, hoa, hgl, hoi, hcell⟩ := (HOPS.out.1.below (hbw)).at i hlt
      subst hoa
      have o0 := hcell 0 _ rfl
      have o1 := hcell 1 _ rfl
      have o2 := hcell 2 _ rfl
      have o3 := hcell 3 _ rfl
      have o4 := hcell 4 _ rfl
      rw [Nat.add_zero] at o0
      clear hcell hgl
      have hoin := HOPS.out.2.1 o (List.mem_of_getElem? hoi)
      have gi : IntKind.i64.wrap ((i : Int) + 1) = ((i + 1 : Nat) : Int) := by rw [IntWalk.i64_in _ (by omega)]; omega
      have HO : Hid (OpIn wo o ∧ DiskAt wo p b S xs ck ∧ (∀ g, Blk p b xs g → W0.heap.size ≤ g) ∧ Below W0.heap.size W0 wo ∧ i ≤ 2199023255551 ∧ i + 1 ≤ 2199023255551) := ⟨⟨hoin.row.below hbw, hoin.nm, hoin.N, hoin.M, hoin.B⟩, h1, h2, h3, by omega, by omega⟩
      clear hoi hoin h1 h2 h3 hbw hbr
      go_wp2_with fail
      refine (does_full HO.out.2.1 hS.out.2.1 (by omega) o HO.out.1).mono ?_
      rintro e w5 ⟨E, N, M, b1, m1, d1, b2, m2, d2, dn, rfl, _, hnx⟩
      obtain ⟨S5, hS5⟩ : ∃ S5, doesS S o = S5 := ⟨_, rfl⟩
      have H5 : Hid (DS W0.heap.size W0 w5 p S5 ∧ Inv S5 (i + 1) ∧ Named S5 ∧ S5.limit = l0 ∧ S5.fs.length ≤ 4398046511104) := by
        obtain ⟨xs', ck', g1, g2, g3⟩ := hnx
        have hi5 := inv_does HO.out.2.1 hS.out.2.1 o HO.out.1.N HO.out.1.M
        rw [← hS5]
        exact ⟨ds_next (Nat.le_refl _) HO.out.2.2.1 HO.out.2.2.2.1 g1 g2 g3, hi5, named_does hS.out.2.2.1 o, (limit_does S o).trans hS.out.2.2.2, Nat.le_trans hi5.cnt (by omega)⟩
      clear hnx hS5 o0 o1 o2 o3 o4 s0 s1 s2
      go_wp2_with fail
      refine (ds_filesO (Nat.le_refl _) H5.out.1 H5.out.2.1 H5.out.2.2.2.2).mono ?_
      rintro e w6 ⟨a6, n6, c6, l, rfl, hp6, hr6, hf6, hd6, hb6⟩
      have H6 : Hid (l.Perm S5.fs ∧ RiseF l ∧ FilesO w6 w5.heap.size a6 n6 c6 l ∧ DS W0.heap.size W0 w6 p S5 ∧ l.length ≤ 4398046511104 ∧ used l ≤ 1099511627776 ∧ Loads l l0) := ⟨hp6, hr6, hf6, hd6, by rw [hp6.length_eq]; exact H5.out.2.2.2.2, by rw [← used_perm hp6]; exact Nat.le_trans H5.out.2.1.ok.use H5.out.2.1.ok.lim, by have := hd6.loads H5.out.2.1.ok H5.out.2.2.1 hp6; rwa [H5.out.2.2.2.1] at this⟩
      clear hp6 hr6 hf6 hd6 hb6
      obtain ⟨s0, s1, s2⟩ := box3 ((H6.out.2.2.2.1.below.block _ HW.out.2.1).trans HW.out.1)
      have HKP : Hid (∀ W, Below W0.heap.size W0 W → W.cell? ⟨w.heap.size, 0, none⟩ = some (.int .i64 (l0 : Int))) := fun W hb => (box3 ((hb.block _ HW.out.2.1).trans HW.out.1)).1
      have HOW : Hid (∀ W, Below w6.heap.size w6 W → Calls Try.prog 16 #[.slice a6 n6 c6] W fun e w' => ∃ (a' : Option Addr) (c' : Nat), e = .returned (.slice a' n6 c') ∧ FilesR w' a' n6 c' l ∧ Below W.heap.size W w') := fun W hb => own_files (H6.out.2.2.1.chg (D := fun _ => False) (Chg.of_below hb) (fun _ f => f.elim)) H6.out.2.2.2.2.1 H6.out.2.2.2.2.2.1
      go_wp2_with fail
      refine wp_region_held_drew (S := (fun W => W.cell? ⟨w.heap.size, 0, none⟩ = some (.int .i64 (l0 : Int)))) (by kernel_rfl) ?hS1 (fun hHeld => ?rest1)
      case hS1 => exact HKP.out _ H6.out.2.2.2.1.below.drew
      refine takeD (i := 0) (d := some 62) (v := ?vT2) rfl rfl (by kernel_rfl) (by kernel_rfl) (by kernel_rfl) (fun _ _ _ h => h) (Or.inl ⟨by rfl, ?hyT2⟩) (by assumption) ?rstT2
      case hyT2 => (intro w hSw; (try dsimp only at hSw); go_simp; (try with_reducible rfl))
      try simp only [Act.put, List.setIfInBounds_toArray, List.set_cons_zero, List.set_cons_succ]
      refine takeD (i := 1) (d := some 63) (v := ?vT3) rfl rfl (by kernel_rfl) (by kernel_rfl) (by kernel_rfl) (fun _ _ _ h => h) (Or.inl ⟨by rfl, ?hyT3⟩) (by assumption) ?rstT3
      case hyT3 => (intro w hSw; (try dsimp only at hSw); go_simp; (try with_reducible rfl))
      try simp only [Act.put, List.setIfInBounds_toArray, List.set_cons_zero, List.set_cons_succ]
      refine takeD (i := 2) (d := some 64) (v := ?vT4) rfl rfl (by kernel_rfl) (by kernel_rfl) (by kernel_rfl) (fun _ _ _ h => h) (Or.inl ⟨by rfl, ?hyT4⟩) (by assumption) ?rstT4
      case hyT4 => (intro w hSw; (try dsimp only at hSw); go_simp; (try with_reducible rfl))
      try simp only [Act.put, List.setIfInBounds_toArray, List.set_cons_zero, List.set_cons_succ]
      refine wpAnyH_ready (rs := [3]) (by kernel_rfl) (by simp) ?_
      refine AllReadyH.cons rfl (fun K hK => ?_) AllReadyH.nil
      go_simp
      refine (HOW.out _ ((Below.refl _ _).drew)).mono ?_
      rintro e w7 ⟨a7, c7, rfl, hf7, hb7⟩
      have hcur7 : Below w6.heap.size w6 w7 := ((Below.refl _ _).drew).trans hb7
      have H7 : Hid (FilesR w7 a7 n6 c7 l ∧ Below w6.heap.size w6 w7 ∧ DS W0.heap.size W0 w7 p S5) := ⟨hf7, hcur7, H6.out.2.2.2.1.grow (Nat.le_refl _) hcur7⟩
      clear hf7 hb7 hcur7
      clear hHeld
      refine hK.out _ _ ?hS5 (fun hHeld => ?rest5)
      case hS5 => exact HKP.out _ H7.out.2.2.below
      clear hK K
      try simp only [Act.put, List.setIfInBounds_toArray, List.set_cons_zero, List.set_cons_succ]
      refine wpAnyH_ready (rs := [4]) (by kernel_rfl) (by simp) ?_
      refine AllReadyH.cons rfl (fun K hK => ?_) AllReadyH.nil
      go_simp
      refine (d2_load (Nat.le_refl _) H7.out.2.2 H7.out.1 H6.out.2.2.2.2.1 HL0.out H6.out.2.2.2.2.2.2).mono ?_
      rintro e w8 ⟨q, rfl, hd8, hb8⟩
      have H8 : Hid (D2 W0.heap.size W0 w8 p q S5 ⟨l0, l, false, 0, 0⟩ ∧ Below w6.heap.size w6 w8) := ⟨hd8, H7.out.2.1.trans (hb8.mono H7.out.2.1.size)⟩
      clear hd8 hb8
      clear hHeld
      refine hK.out _ _ ?hS6 (fun hHeld => ?rest6)
      case hS6 => exact HKP.out _ H8.out.1.below
      clear hK K
      try simp only [Act.put, List.setIfInBounds_toArray, List.set_cons_zero, List.set_cons_succ]
      refine takeD (i := 5) (d := some 61) (v := ?vT7) rfl rfl (by kernel_rfl) (by kernel_rfl) (by kernel_rfl) (fun _ _ _ h => h) (Or.inl ⟨by rfl, ?hyT7⟩) (by assumption) ?rstT7
      case hyT7 => (intro w hSw; (try dsimp only at hSw); go_simp; (try with_reducible rfl))
      try simp only [Act.put, List.setIfInBounds_toArray, List.set_cons_zero, List.set_cons_succ]
      refine takeD (i := 6) (d := some 67) (v := ?vT8) rfl rfl (by kernel_rfl) (by kernel_rfl) (by kernel_rfl) (fun _ _ _ h => h) (Or.inl ⟨by rfl, ?hyT8⟩) (by assumption) ?rstT8
      case hyT8 => (intro w hSw; (try dsimp only at hSw); go_simp; (try with_reducible rfl))
      try simp only [Act.put, List.setIfInBounds_toArray, List.set_cons_zero, List.set_cons_succ]
      refine takeD (i := 7) (d := some 68) (v := ?vT9) rfl rfl (by kernel_rfl) (by kernel_rfl) (by kernel_rfl) (fun _ _ _ h => h) (Or.inl ⟨by rfl, ?hyT9⟩) (by assumption) ?rstT9
      case hyT9 => (intro w hSw; (try dsimp only at hSw); go_simp; (try with_reducible rfl))
      try simp only [Act.put, List.setIfInBounds_toArray, List.set_cons_zero, List.set_cons_succ]
      refine takeD (i := 8) (d := some 9) (v := ?vT10) rfl rfl (by kernel_rfl) (by kernel_rfl) (by kernel_rfl) (fun _ _ _ h => h) (Or.inl ⟨by rfl, ?hyT10⟩) (by assumption) ?rstT10
      case hyT10 => (intro w hSw; (try dsimp only at hSw); go_simp; (try with_reducible rfl))
      try simp only [Act.put, List.setIfInBounds_toArray, List.set_cons_zero, List.set_cons_succ]
      refine takeD (i := 9) (d := some 10) (v := ?vT11) rfl rfl (by kernel_rfl) (by kernel_rfl) (by kernel_rfl) (fun _ _ _ h => h) (Or.inl ⟨by rfl, ?hyT11⟩) (by assumption) ?rstT11
      case hyT11 => (intro w hSw; (try dsimp only at hSw); go_simp; (try with_reducible rfl))
      try simp only [Act.put, List.setIfInBounds_toArray, List.set_cons_zero, List.set_cons_succ]
      refine wpAnyH_done (by kernel_rfl) ?_ _
      have HT : Hid (Inv ⟨l0, l, false, 0, 0⟩ (i + 1) ∧ l.length ≤ 4398046511104 ∧ (l.map (·.nm)).Nodup) := ⟨⟨⟨HL0.out, H6.out.2.2.2.2.2.2.use, by simp, by simp⟩, by show l.length ≤ i + 1; rw [H6.out.1.length_eq]; exact H5.out.2.1.cnt, fun f hf => H5.out.2.1.nms f (H6.out.1.mem_iff.1 hf)⟩, H6.out.2.2.2.2.1, H6.out.2.2.2.2.2.2.nd⟩
      obtain ⟨u, hu⟩ : ∃ u, used l = u := ⟨_, rfl⟩
      have HUC : Hid (∀ W, D2 W0.heap.size W0 W q p ⟨l0, l, false, 0, 0⟩ S5 → Calls Try.prog 19 #[.pointer (some ⟨q, 0, none⟩)] W fun e w' => e = .returned (.int .i64 (u : Int)) ∧ D2 W0.heap.size W0 w' q p ⟨l0, l, false, 0, 0⟩ S5) := fun W hd => by rw [← hu]; exact d2_used (Nat.le_refl _) hd HT.out.1
      have HUD : Hid (∀ W, D2 W0.heap.size W0 W p q S5 ⟨l0, l, false, 0, 0⟩ → Calls Try.prog 19 #[.pointer (some ⟨p, 0, none⟩)] W fun e w' => e = .returned (.int .i64 (u : Int)) ∧ D2 W0.heap.size W0 w' p q S5 ⟨l0, l, false, 0, 0⟩) := fun W hd => by rw [← hu, ← used_perm H6.out.1]; exact d2_used (Nat.le_refl _) hd H5.out.2.1
      have q1 : ((u : Int) != (u : Int)) = false := bne_self_eq_false _
      clear hu
      go_wp2_with fail
      refine (HNU.out _ _).mono ?_
      rintro e wz ⟨rfl, hz⟩
      rw [hz]
      clear hz wz
      go_wp2_with fail
      refine (ds_down H8.out.1.swap.first).mono ?_
      rintro e wz ⟨rfl, hz⟩
      rw [hz]
      clear hz wz
      go_wp2_with fail
      refine (d2_files (Nat.le_refl _) H8.out.1.swap HT.out.1 HT.out.2.1).mono ?_
      rintro e wA ⟨ya, yn, yc, la, rfl, hpa, hra, hfa, hda⟩
      have hla : la = l := rise_unique hpa ((hpa.map _).nodup_iff.2 HT.out.2.2) hra H6.out.2.1
      subst hla
      have HA : Hid (FilesR wA ya yn yc la ∧ FilesR wA a6 n6 c6 la ∧ D2 W0.heap.size W0 wA q p ⟨l0, la, false, 0, 0⟩ S5) := ⟨hfa.1.r, (H6.out.2.2.1.chg (D := fun _ => False) (Chg.of_below (H8.out.2.trans (hfa.2.mono H8.out.2.size))) (fun _ f => f.elim)).r, hda⟩
      clear hpa hra hfa hda
      go_wp2_with fail
      refine (sameFiles_eq HA.out.1 HA.out.2.1 HT.out.2.1).mono ?_
      rintro e wC ⟨rfl, hbC⟩
      have HC : Hid (D2 W0.heap.size W0 wC q p ⟨l0, la, false, 0, 0⟩ S5) := HA.out.2.2.grow (Nat.le_refl _) hbC
      clear hbC HA
      go_wp2_with fail
      refine (HUC.out _ HC.out).mono ?_
      rintro e wU ⟨rfl, hdu⟩
      have HU : Hid (D2 W0.heap.size W0 wU q p ⟨l0, la, false, 0, 0⟩ S5) := hdu
      clear hdu HC
      go_wp2_with fail
      refine (HUD.out _ HU.out.swap).mono ?_
      rintro e wV ⟨rfl, hdu⟩
      have HV : Hid (D2 W0.heap.size W0 wV p q S5 ⟨l0, la, false, 0, 0⟩) := hdu
      clear hdu HU
      go_wp2_with fail
      go_roundw
      case rel => exact ⟨i + 1, by omega, by first | rfl | go_num, S5, HV.out.first, H5.out.2.1, H5.out.2.2.1, H5.out.2.2.2.1⟩
      case measure => simp [RowKit.intOf]; omega
    · obtain rfl : i = on := by omega
      have hlt2 : ¬ ((i : Int) < (i : Int)) := by omega
      clear h1 h2 h3 hbr
      go_wp2_with fail
      clear s0 s1 s2
      refine (ds_up (Nat.le_refl _) hS.out.1).mono ?_
      rintro e w2 ⟨rfl, hd2⟩
      obtain ⟨S1, hS1⟩ : ∃ S1 : Dk, S1 = { S with down := false, steps := 0, keep := 0 } := ⟨_, rfl⟩
      have H2 : Hid (DS W0.heap.size W0 w2 p S1 ∧ Inv S1 i ∧ Named S1 ∧ S1.limit = l0 ∧ S1.down = false ∧ S1.steps = 0 ∧ S1.keep = 0 ∧ S1.fs.length ≤ 4398046511104) := by
        subst hS1
        exact ⟨hd2, ⟨⟨hS.out.2.1.ok.lim, hS.out.2.1.ok.use, Nat.zero_le _, Nat.zero_le _⟩, hS.out.2.1.cnt, hS.out.2.1.nms⟩, hS.out.2.2.1, hS.out.2.2.2, rfl, rfl, rfl, Nat.le_trans hS.out.2.1.cnt (by omega)⟩
      clear hd2 hS1
      go_wp2_with fail
      refine (HNU.out _ _).mono ?_
      rintro e wz ⟨rfl, hz⟩
      rw [hz]
      clear hz wz
      go_wp2_with fail
      refine (awake_any _).mono ?_
      rintro e w3 ⟨rfl, hb3⟩
      have H3 : Hid (DS W0.heap.size W0 w3 p S1) := H2.out.1.grow (Nat.le_refl _) hb3
      clear hb3
      obtain ⟨s0, s1, s2⟩ := box3 ((H3.out.below.block _ HW.out.2.1).trans HW.out.1)
      have HKP : Hid (∀ W, Below W0.heap.size W0 W → W.cell? ⟨w.heap.size, 0, none⟩ = some (.int .i64 (l0 : Int))) := fun W hb => (box3 ((hb.block _ HW.out.2.1).trans HW.out.1)).1
      go_wp2_with fail
      refine wp_region_held_drew (S := (fun W => W.cell? ⟨w.heap.size, 0, none⟩ = some (.int .i64 (l0 : Int)))) (by kernel_rfl) ?hS12 (fun hHeld => ?rest12)
      case hS12 => exact HKP.out _ H3.out.below.drew
      refine takeD (i := 0) (d := some 103) (v := ?vT13) rfl rfl (by kernel_rfl) (by kernel_rfl) (by kernel_rfl) (fun _ _ _ h => h) (Or.inl ⟨by rfl, ?hyT13⟩) (by assumption) ?rstT13
      case hyT13 => (intro w hSw; (try dsimp only at hSw); go_simp; (try with_reducible rfl))
      try simp only [Act.put, List.setIfInBounds_toArray, List.set_cons_zero, List.set_cons_succ]
      refine takeD (i := 1) (d := some 104) (v := ?vT14) rfl rfl (by kernel_rfl) (by kernel_rfl) (by kernel_rfl) (fun _ _ _ h => h) (Or.inl ⟨by rfl, ?hyT14⟩) (by assumption) ?rstT14
      case hyT14 => (intro w hSw; (try dsimp only at hSw); go_simp; (try with_reducible rfl))
      try simp only [Act.put, List.setIfInBounds_toArray, List.set_cons_zero, List.set_cons_succ]
      refine takeD (i := 2) (d := some 105) (v := ?vT15) rfl rfl (by kernel_rfl) (by kernel_rfl) (by kernel_rfl) (fun _ _ _ h => h) (Or.inl ⟨by rfl, ?hyT15⟩) (by assumption) ?rstT15
      case hyT15 => (intro w hSw; (try dsimp only at hSw); go_simp; (try with_reducible rfl))
      try simp only [Act.put, List.setIfInBounds_toArray, List.set_cons_zero, List.set_cons_succ]
      refine wpAnyH_ready (rs := [3]) (by kernel_rfl) (by simp) ?_
      refine AllReadyH.cons rfl (fun K hK => ?_) AllReadyH.nil
      go_simp
      refine (ds_filesO (Nat.le_refl _) (H3.out.grow (Nat.le_refl _) ((Below.refl _ _).drew)) H2.out.2.1 H2.out.2.2.2.2.2.2.2).mono ?_
      rintro e w5 ⟨a5, n5, c5, l, rfl, hp5, hr5, hf5, hd5, hb5⟩
      have H5 : Hid (l.Perm S1.fs ∧ FilesO w5 w3.heap.size a5 n5 c5 l ∧ DS W0.heap.size W0 w5 p S1 ∧ l.length ≤ 4398046511104 ∧ used l ≤ 1099511627776 ∧ Loads l l0) := ⟨hp5, hf5, hd5, by rw [hp5.length_eq]; exact H2.out.2.2.2.2.2.2.2, by rw [← used_perm hp5]; exact Nat.le_trans H2.out.2.1.ok.use H2.out.2.1.ok.lim, by have := hd5.loads H2.out.2.1.ok H2.out.2.2.1 hp5; rwa [H2.out.2.2.2.1] at this⟩
      clear hp5 hr5 hf5 hd5 hb5
      clear hHeld
      refine hK.out _ _ ?hS16 (fun hHeld => ?rest16)
      case hS16 => exact HKP.out _ H5.out.2.2.1.below
      clear hK K
      try simp only [Act.put, List.setIfInBounds_toArray, List.set_cons_zero, List.set_cons_succ]
      refine wpAnyH_ready (rs := [4]) (by kernel_rfl) (by simp) ?_
      refine AllReadyH.cons rfl (fun K hK => ?_) AllReadyH.nil
      go_simp
      refine (own_files H5.out.2.1 H5.out.2.2.2.1 H5.out.2.2.2.2.1).mono ?_
      rintro e w7 ⟨a7, c7, rfl, hf7, hb7⟩
      have H7 : Hid (FilesR w7 a7 n5 c7 l ∧ DS W0.heap.size W0 w7 p S1) := ⟨hf7, H5.out.2.2.1.grow (Nat.le_refl _) hb7⟩
      clear hf7 hb7
      clear hHeld
      refine hK.out _ _ ?hS17 (fun hHeld => ?rest17)
      case hS17 => exact HKP.out _ H7.out.2.below
      clear hK K
      try simp only [Act.put, List.setIfInBounds_toArray, List.set_cons_zero, List.set_cons_succ]
      refine wpAnyH_ready (rs := [5]) (by kernel_rfl) (by simp) ?_
      refine AllReadyH.cons rfl (fun K hK => ?_) AllReadyH.nil
      go_simp
      refine (d2_load (Nat.le_refl _) H7.out.2 H7.out.1 H5.out.2.2.2.1 HL0.out H5.out.2.2.2.2.2).mono ?_
      rintro e w8 ⟨q, rfl, hd8, _⟩
      have H8 : Hid (D2 W0.heap.size W0 w8 p q S1 ⟨l0, l, false, 0, 0⟩) := hd8
      clear hd8
      clear hHeld
      refine hK.out _ _ ?hS18 (fun hHeld => ?rest18)
      case hS18 => exact HKP.out _ H8.out.below
      clear hK K
      try simp only [Act.put, List.setIfInBounds_toArray, List.set_cons_zero, List.set_cons_succ]
      refine takeD (i := 6) (d := some 102) (v := ?vT19) rfl rfl (by kernel_rfl) (by kernel_rfl) (by kernel_rfl) (fun _ _ _ h => h) (Or.inl ⟨by rfl, ?hyT19⟩) (by assumption) ?rstT19
      case hyT19 => (intro w hSw; (try dsimp only at hSw); go_simp; (try with_reducible rfl))
      try simp only [Act.put, List.setIfInBounds_toArray, List.set_cons_zero, List.set_cons_succ]
      refine takeD (i := 7) (d := some 109) (v := ?vT20) rfl rfl (by kernel_rfl) (by kernel_rfl) (by kernel_rfl) (fun _ _ _ h => h) (Or.inl ⟨by rfl, ?hyT20⟩) (by assumption) ?rstT20
      case hyT20 => (intro w hSw; (try dsimp only at hSw); go_simp; (try with_reducible rfl))
      try simp only [Act.put, List.setIfInBounds_toArray, List.set_cons_zero, List.set_cons_succ]
      refine takeD (i := 8) (d := some 110) (v := ?vT21) rfl rfl (by kernel_rfl) (by kernel_rfl) (by kernel_rfl) (fun _ _ _ h => h) (Or.inl ⟨by rfl, ?hyT21⟩) (by assumption) ?rstT21
      case hyT21 => (intro w hSw; (try dsimp only at hSw); go_simp; (try with_reducible rfl))
      try simp only [Act.put, List.setIfInBounds_toArray, List.set_cons_zero, List.set_cons_succ]
      refine takeD (i := 9) (d := some 11) (v := ?vT22) rfl rfl (by kernel_rfl) (by kernel_rfl) (by kernel_rfl) (fun _ _ _ h => h) (Or.inl ⟨by rfl, ?hyT22⟩) (by assumption) ?rstT22
      case hyT22 => (intro w hSw; (try dsimp only at hSw); go_simp; (try with_reducible rfl))
      try simp only [Act.put, List.setIfInBounds_toArray, List.set_cons_zero, List.set_cons_succ]
      refine takeD (i := 10) (d := some 12) (v := ?vT23) rfl rfl (by kernel_rfl) (by kernel_rfl) (by kernel_rfl) (fun _ _ _ h => h) (Or.inl ⟨by rfl, ?hyT23⟩) (by assumption) ?rstT23
      case hyT23 => (intro w hSw; (try dsimp only at hSw); go_simp; (try with_reducible rfl))
      try simp only [Act.put, List.setIfInBounds_toArray, List.set_cons_zero, List.set_cons_succ]
      refine wpAnyH_done (by kernel_rfl) ?_ _
      go_wp2_with fail
      refine (HNU.out _ _).mono ?_
      rintro e wz ⟨rfl, hz⟩
      rw [hz]
      clear hz wz
      go_wp2_with fail
      have HP0 : Hid (Pm S1 ⟨l0, l, false, 0, 0⟩ ∧ Inv ⟨l0, l, false, 0, 0⟩ i) := ⟨⟨H2.out.2.2.2.1.symm, H2.out.2.2.2.2.1.symm, H2.out.2.2.2.2.2.1.symm, H2.out.2.2.2.2.2.2.1.symm, H5.out.1.symm⟩, ⟨⟨HL0.out, H5.out.2.2.2.2.2.use, by simp, by simp⟩, by show l.length ≤ i; rw [H5.out.1.length_eq]; exact H2.out.2.1.cnt, fun f hf => H2.out.2.1.nms f (H5.out.1.mem_iff.1 hf)⟩⟩
      clear s0 s1 s2
      go_loopw [13] (fun v wr => ∃ j : Nat, j ≤ tn ∧ v = .int .i64 (j : Int) ∧ ∃ S T : Dk, Hid (D2 W0.heap.size W0 wr p q S T ∧ Pm S T ∧ Inv S (i + j) ∧ Inv T (i + j))) (fun v _ => tn - (RowKit.intOf v).toNat)
      case atStart => exact ⟨0, Nat.zero_le _, rfl, S1, ⟨l0, l, false, 0, 0⟩, H8.out, HP0.out.1, H2.out.2.1, HP0.out.2⟩
      case round =>
        obtain ⟨wq, hwq⟩ : ∃ wq, wq = wr := ⟨_, rfl⟩
        subst hwq
        obtain ⟨j, hj, rfl, S, T, hT⟩ := hrel
        by_cases hlt : j < tn
        · have hlt3 : (j : Int) < (tn : Int) := by omega
          have hbw := HW.out.2.2 wq hT.out.1.below
          obtain ⟨g, off, o, hoa, hgl, hoi, hcell⟩ := (HTPS.out.1.below hbw).at j hlt
          subst hoa
          have o0 := hcell 0 _ rfl
          have o1 := hcell 1 _ rfl
          have o2 := hcell 2 _ rfl
          have o3 := hcell 3 _ rfl
          have o4 := hcell 4 _ rfl
          rw [Nat.add_zero] at o0
          have hoo := HTPS.out.2.1 o (List.mem_of_getElem? hoi)
          have hci : i + j ≤ 4398046511104 := by have := HOPS.out.2.2; omega
          have gi : IntKind.i64.wrap ((j : Int) + 1) = ((j + 1 : Nat) : Int) := by rw [IntWalk.i64_in _ (by omega)]; omega
          have HOI : Hid (∀ W, Below w.heap.size w W → OpIn W o) := fun W hb => ⟨hoo.row.below hb, hoo.nm, hoo.N, hoo.M, hoo.B⟩
          have HCE : Hid (∀ W, Below w.heap.size w W → ∀ k v, (opV o)[k]? = some v → W.cell? ⟨g, off + j * 5 + k, none⟩ = some v) := fun W hb k v hk => by
            obtain ⟨g', off', o', ha', _, hoi', hc'⟩ := (HTPS.out.1.below hb).at j hlt
            cases ha'
            rw [hoi] at hoi'
            cases hoi'
            exact hc' k v hk
          clear hcell hgl hoi hoo
          go_wp2_with fail
          obtain ⟨b, xs, ck, c, ys, dk, h1, h2, h3, h4, h5, h6⟩ := hT.out.1.two
          have HNO : Hid ((S.fs.map (·.nm)).Nodup ∧ S.fs.length ≤ 4398046511104 ∧ (∀ g, Blk q c ys g → g < wq.heap.size)) := ⟨hT.out.1.nodup, Nat.le_trans hT.out.2.2.1.cnt hci, fun g hg => h2.lt hg⟩
          have HTW : Hid (DiskAt wq p b S xs ck ∧ DiskAt wq q c T ys dk ∧ (∀ g, Blk p b xs g → ¬ Blk q c ys g) ∧ (∀ g, Blk p b xs g → W0.heap.size ≤ g) ∧ (∀ g, Blk q c ys g → W0.heap.size ≤ g) ∧ Below W0.heap.size W0 wq) := ⟨h1, h2, h3, h4, h5, h6⟩
          clear h1 h2 h3 h4 h5 h6
          refine (does_full HTW.out.1 hT.out.2.2.1 hci o (HOI.out wq hbw)).mono ?_
          rintro e w5 ⟨E1, N1, M1, ba1, bn1, bc1, fa1, fn1, fc1, dn1, rfl, han1, hnx1⟩
          obtain ⟨xs5, ck5, d1, d2, d3, d4, d5, d6⟩ := d2_first (Nat.le_refl _) HTW.out.2.1 HTW.out.2.2.1 HTW.out.2.2.2.1 HTW.out.2.2.2.2.2 hnx1
          have hi5 := inv_does HTW.out.1 hT.out.2.2.1 o (HOI.out wq hbw).N (HOI.out wq hbw).M
          obtain ⟨V5, hV5⟩ : ∃ V5, w5.alloc (.cells #[.int .i64 0, .int .i64 0, .int .i64 0, .slice none 0 0, .slice none 0 0, .bool false] 48) = V5 := ⟨_, rfl⟩
          have hV5b : Below w5.heap.size w5 V5 := by rw [← hV5]; exact (Below.refl _ _).alloc (Nat.le_refl _) _
          have hV5h : V5.heap[w5.heap.size]? = some (.cells #[.int .i64 0, .int .i64 0, .int .i64 0, .slice none 0 0, .slice none 0 0, .bool false] 48) := by rw [← hV5]; exact (MapKept.heap_alloc w5 _).1
          obtain ⟨V6, hV6, hh6, hC6⟩ := set6 hV5h (.int .i64 E1) (.int .i64 N1) (.int .i64 M1) (.slice ba1 bn1 bc1) (.slice fa1 fn1 fc1) (.bool dn1)
          obtain ⟨y0, y1, y2, y3, y4, y5⟩ := box6 hV5h
          have k0 := Lib.frozen_of_heap hV5h 0
          have k1 := Lib.frozen_of_heap hV5h 1
          have k2 := Lib.frozen_of_heap hV5h 2
          have k3 := Lib.frozen_of_heap hV5h 3
          have k4 := Lib.frozen_of_heap hV5h 4
          have k5 := Lib.frozen_of_heap hV5h 5
          have hb6 : Below w5.heap.size w5 V6 := hV5b.trans (hC6.below (fun x e => by omega) hV5b.size)
          have HAN : Hid (AnsOk V6 wq.heap.size S o E1 N1 M1 ba1 bn1 bc1 fa1 fn1 fc1 dn1) := han1.chg (D := fun _ => False) ⟨hb6.mono (Nat.zero_le _), fun x hx _ => hb6.block x hx⟩ (fun _ f => f.elim)
          have HR6 : Hid (DiskAt V6 p b (doesS S o) xs5 ck5 ∧ DiskAt V6 q c T ys dk ∧ (∀ g, Blk q c ys g → ¬ Blk p b xs5 g) ∧ (∀ g, Blk p b xs5 g → W0.heap.size ≤ g) ∧ Below W0.heap.size W0 V6 ∧ V6.heap[w5.heap.size]? = some (.cells #[.int .i64 E1, .int .i64 N1, .int .i64 M1, .slice ba1 bn1 bc1, .slice fa1 fn1 fc1, .bool dn1] 48) ∧ Inv (doesS S o) (i + j + 1) ∧ wq.heap.size ≤ w5.heap.size) :=
            ⟨d1.below hb6, d2.below hb6, fun g hg hq => d3 g hq hg, d4, d5.trans (hb6.mono d5.size), hh6, hi5, d6.size⟩
          have hbw6 : Below w.heap.size w V6 := HW.out.2.2 _ HR6.out.2.2.2.2.1
          have p0 := HCE.out V6 hbw6 0 _ rfl
          have p1 := HCE.out V6 hbw6 1 _ rfl
          have p2 := HCE.out V6 hbw6 2 _ rfl
          have p3 := HCE.out V6 hbw6 3 _ rfl
          have p4 := HCE.out V6 hbw6 4 _ rfl
          rw [Nat.add_zero] at p0
          have HB6 : Hid (Below w.heap.size w V6) := hbw6
          clear han1 hnx1 d1 d2 d3 d4 d5 d6 hi5 hh6 hC6 hb6 hV5b hV5h o0 o1 o2 o3 o4 hbw hbw6
          go_wp2_with fail
          clear hV5 hV6 y0 y1 y2 y3 y4 y5 k0 k1 k2 k3 k4 k5 p0 p1 p2 p3 p4
          refine (does_full HR6.out.2.1 hT.out.2.2.2 hci o (HOI.out V6 HB6.out)).mono ?_
          rintro e w7 ⟨E2, N2, M2, ba2, bn2, bc2, fa2, fn2, fc2, dn2, rfl, han2, hnx2⟩
          obtain ⟨ys7, dk7, d1, d2, d3, d4, d5, d6⟩ := d2_first (p := q) (q := p) (Nat.le_refl _) HR6.out.1 HR6.out.2.2.1 HTW.out.2.2.2.2.1 HR6.out.2.2.2.2.1 hnx2
          have hi7 := inv_does HR6.out.2.1 hT.out.2.2.2 o (HOI.out V6 HB6.out).N (HOI.out V6 HB6.out).M
          have hq7 : w7.heap[w5.heap.size]? = some (.cells #[.int .i64 E1, .int .i64 N1, .int .i64 M1, .slice ba1 bn1 bc1, .slice fa1 fn1 fc1, .bool dn1] 48) := d6.block HR6.out.2.2.2.2.2.1 (fun hg => by have := HNO.out.2.2 _ hg; have := HR6.out.2.2.2.2.2.2.2; omega)
          have han7 := HAN.out.chg d6 (fun g hg => HNO.out.2.2 _ hg)
          obtain ⟨V5, hV5⟩ : ∃ V5, w7.alloc (.cells #[.int .i64 0, .int .i64 0, .int .i64 0, .slice none 0 0, .slice none 0 0, .bool false] 48) = V5 := ⟨_, rfl⟩
          have hV5b : Below w7.heap.size w7 V5 := by rw [← hV5]; exact (Below.refl _ _).alloc (Nat.le_refl _) _
          have hV5h : V5.heap[w7.heap.size]? = some (.cells #[.int .i64 0, .int .i64 0, .int .i64 0, .slice none 0 0, .slice none 0 0, .bool false] 48) := by rw [← hV5]; exact (MapKept.heap_alloc w7 _).1
          obtain ⟨V8, hV8, hh6, hC6⟩ := set6 hV5h (.int .i64 E2) (.int .i64 N2) (.int .i64 M2) (.slice ba2 bn2 bc2) (.slice fa2 fn2 fc2) (.bool dn2)
          obtain ⟨y0, y1, y2, y3, y4, y5⟩ := box6 hV5h
          have k0 := Lib.frozen_of_heap hV5h 0
          have k1 := Lib.frozen_of_heap hV5h 1
          have k2 := Lib.frozen_of_heap hV5h 2
          have k3 := Lib.frozen_of_heap hV5h 3
          have k4 := Lib.frozen_of_heap hV5h 4
          have k5 := Lib.frozen_of_heap hV5h 5
          have hb6 : Below w7.heap.size w7 V8 := hV5b.trans (hC6.below (fun x e => by omega) hV5b.size)
          have han18 := han7.chg (D := fun _ => False) ⟨hb6.mono (Nat.zero_le _), fun x hx _ => hb6.block x hx⟩ (fun _ f => f.elim)
          have han28 := han2.chg (D := fun _ => False) ⟨hb6.mono (Nat.zero_le _), fun x hx _ => hb6.block x hx⟩ (fun _ f => f.elim)
          have hq8 : V8.heap[w5.heap.size]? = some (.cells #[.int .i64 E1, .int .i64 N1, .int .i64 M1, .slice ba1 bn1 bc1, .slice fa1 fn1 fc1, .bool dn1] 48) := (hb6.block _ (Array.getElem?_eq_some_iff.1 hq7).1).trans hq7
          have hca := alike_k (AnsOk.k (A := ⟨E1, N1, M1, ba1, bn1, bc1, fa1, fn1, fc1, dn1⟩) han18) ((AnsOk.k (A := ⟨E2, N2, M2, ba2, bn2, bc2, fa2, fn2, fc2, dn2⟩) han28).pm hT.out.2.1 HNO.out.1) HNO.out.1 HNO.out.2.1
          dsimp only at hca
          have HCA : Hid (Calls Try.prog 21 #[.agg #[.int .i64 E1, .int .i64 N1, .int .i64 M1, .slice ba1 bn1 bc1, .slice fa1 fn1 fc1, .bool dn1], .agg #[.int .i64 E2, .int .i64 N2, .int .i64 M2, .slice ba2 bn2 bc2, .slice fa2 fn2 fc2, .bool dn2]] V8 fun e w' => e = .returned (.bool true) ∧ Below V8.heap.size V8 w') := hca
          clear hca
          have HD8 : Hid (D2 W0.heap.size W0 V8 p q (doesS S o) (doesS T o) ∧ Inv (doesS S o) (i + j + 1) ∧ Inv (doesS T o) (i + j + 1) ∧ Pm (doesS S o) (doesS T o) ∧ V8.heap[w5.heap.size]? = some (.cells #[.int .i64 E1, .int .i64 N1, .int .i64 M1, .slice ba1 bn1 bc1, .slice fa1 fn1 fc1, .bool dn1] 48) ∧ V8.heap[w7.heap.size]? = some (.cells #[.int .i64 E2, .int .i64 N2, .int .i64 M2, .slice ba2 bn2 bc2, .slice fa2 fn2 fc2, .bool dn2] 48)) := by
            have hd := (show D2 W0.heap.size W0 w7 q p (doesS T o) (doesS S o) from ⟨c, ys7, dk7, b, xs5, ck5, d1, d2, d3, d4, HR6.out.2.2.2.1, d5⟩)
            exact ⟨hd.swap.grow (Nat.le_refl _) hb6, HR6.out.2.2.2.2.2.2.1, hi7, hT.out.2.1.does HNO.out.1 o, hq8, hh6⟩
          clear han2 hnx2 d1 d2 d3 d4 d5 d6 hi7 hq7 han7 han18 han28 hq8 hh6 hC6 hb6 hV5b hV5h HAN
          obtain ⟨p0, p1, p2, p3, p4, p5⟩ := box6 HD8.out.2.2.2.2.1
          obtain ⟨r0, r1, r2, r3, r4, r5⟩ := box6 HD8.out.2.2.2.2.2
          go_wp2_with fail
          clear hV5 hV8 k0 k1 k2 k3 k4 k5
          refine HCA.out.mono ?_
          rintro e w9 ⟨rfl, hb9⟩
          have HFIN : Hid (D2 W0.heap.size W0 w9 p q (doesS S o) (doesS T o)) := HD8.out.1.grow (Nat.le_refl _) hb9
          clear hb9 HCA
          go_wp2_with fail
          go_roundw
          case rel => exact ⟨j + 1, by omega, by first | rfl | go_num, doesS S o, doesS T o, HFIN.out, HD8.out.2.2.2.1, HD8.out.2.1, HD8.out.2.2.1⟩
          case measure => simp [RowKit.intOf]; omega
        · obtain rfl : j = tn := by omega
          have hlt3 : ¬ ((j : Int) < (j : Int)) := by omega
          have HLN : Hid (S.fs.length ≤ 4398046511104 ∧ T.fs.length ≤ 4398046511104) := ⟨Nat.le_trans hT.out.2.2.1.cnt (by have := HOPS.out.2.2; omega), Nat.le_trans hT.out.2.2.2.cnt (by have := HOPS.out.2.2; omega)⟩
          go_wp2_with fail
          refine (d2_files (Nat.le_refl _) hT.out.1 hT.out.2.2.1 HLN.out.1).mono ?_
          rintro e wA ⟨xa, xn, xc, la, rfl, hpa, hra, hfa, hda⟩
          have HA : Hid (la.Perm (S).fs ∧ RiseF la ∧ FilesO wA wq.heap.size xa xn xc la ∧ D2 W0.heap.size W0 wA p q (S) (T)) := ⟨hpa, hra, hfa.1, hda⟩
          clear hpa hra hfa hda
          go_wp2_with fail
          refine (d2_files (Nat.le_refl _) HA.out.2.2.2.swap hT.out.2.2.2 HLN.out.2).mono ?_
          rintro e wB ⟨ya, yn, yc, lb, rfl, hpb, hrb, hfb, hdb⟩
          have hla : la = lb := by
            have hnd := HA.out.2.2.2.nodup
            refine rise_unique (HA.out.1.trans (hT.out.2.1.fs.trans hpb.symm)) ((HA.out.1.map _).nodup_iff.2 hnd) HA.out.2.1 hrb
          subst hla
          have HAB : Hid (FilesO wB wq.heap.size xa xn xc la) := by
            have hbAB : Below wA.heap.size wA wB := hfb.2
            exact HA.out.2.2.1.chg (D := fun _ => False) ⟨hbAB.mono (Nat.zero_le _), fun g hg _ => hbAB.block g hg⟩ (fun _ f => f.elim)
          have HBB : Hid (FilesO wB wA.heap.size ya yn yc la ∧ la.length ≤ 4398046511104 ∧ D2 W0.heap.size W0 wB q p (T) (S)) := ⟨hfb.1, by rw [HA.out.1.length_eq]; exact HLN.out.1, hdb⟩
          clear hpb hrb hfb hdb
          go_wp2_with fail
          refine (sameFiles_eq HAB.out.r HBB.out.1.r HBB.out.2.1).mono ?_
          rintro e wC ⟨rfl, hbC⟩
          have HC2 : Hid (D2 W0.heap.size W0 wC q p (T) (S)) := HBB.out.2.2.grow (Nat.le_refl _) hbC
          clear hbC HAB HBB HA
          go_wp2_with fail
          go_ret
          exact ⟨rfl, HW.out.2.2 _ HC2.out.below⟩
end Go.Proofs.Ytjngncamhnpphaa
