import Derived.Test.YteidmfmkdmggoaaDdD
/-! DiskArmedIsCrash. -/
namespace Go.Proofs.Yteidmfmkdmggoaa
open Go.RowKit Go.Lib Go.Sort Go.Shelf
set_option maxRecDepth 100000

set_option maxHeartbeats 16000000 in
theorem diskArmed_good {w : World} (l0 : Nat) (hl0 : l0 ≤ 1099511627776) (fa : Option Addr) (fl fc : Nat) {oa : Option Addr} {on oc : Nat} {ops : List OpR} (hops : Rw opV 5 w oa on oc ops) (hin : ∀ o ∈ ops, OpIn w o) (hon : on ≤ 2199023255551) (st k : Nat) (hst : 1 ≤ st) (hst2 : st ≤ 9223372036854775807) (hk : k ≤ 9223372036854775807) :
    Calls Try.prog 6 #[.agg #[.int .i64 (l0 : Int), .slice fa fl fc, .slice oa on oc], .int .i64 (st : Int), .int .i64 (k : Int)] w fun e w' => e = .returned (.bool true) ∧ Below w.heap.size w w' := by
  have HNU : Hid (∀ x w, Calls Try.prog 10 #[.int .i64 x] w fun e w' => e = .returned (.int .i64 x) ∧ w' = w) := num_any
  obtain ⟨W0, hW0⟩ : ∃ W0, w.alloc (.cells #[.int .i64 (l0 : Int), .slice fa fl fc, .slice oa on oc] 50) = W0 := ⟨_, rfl⟩
  have hs0 : W0.heap.size = w.heap.size + 1 := by rw [← hW0, World.size_alloc]
  have hb0 : Below w.heap.size w W0 := by rw [← hW0]; exact (Below.refl _ _).alloc (Nat.le_refl _) _
  have hq0 : W0.heap[w.heap.size]? = some (.cells #[.int .i64 (l0 : Int), .slice fa fl fc, .slice oa on oc] 50) := by rw [← hW0]; exact (MapKept.heap_alloc w _).1
  have hWW : ∀ W, Below W0.heap.size W0 W → Below w.heap.size w W := fun W hb => hb0.trans (hb.mono (by omega))
  have HW : Hid (W0.heap[w.heap.size]? = some (.cells #[.int .i64 (l0 : Int), .slice fa fl fc, .slice oa on oc] 50) ∧ w.heap.size < W0.heap.size ∧ (∀ W, Below W0.heap.size W0 W → Below w.heap.size w W)) := ⟨hq0, by omega, hWW⟩
  obtain ⟨s0, s1, s2⟩ := box3 hq0
  have HNW : Hid (Calls Try.prog 9 #[.int .i64 (l0 : Int)] W0 fun e w' => ∃ p, e = .returned (.tuple #[.pointer (some ⟨p, 0, none⟩), .int .i64 0]) ∧ DS W0.heap.size W0 w' p ⟨l0, [], false, 0, 0⟩) := ds_new (Nat.le_refl _) (Below.refl _ _) l0 hl0
  have HL0 : Hid (l0 ≤ 1099511627776) := hl0
  have HOPS : Hid (Rw opV 5 w oa on oc ops ∧ (∀ o ∈ ops, OpIn w o) ∧ on ≤ 2199023255551 ∧ 1 ≤ st ∧ st ≤ 9223372036854775807 ∧ k ≤ 9223372036854775807) := ⟨hops, hin, hon, hst, hst2, hk⟩
  have honc : (on : Int) ≤ 2199023255551 := by omega
  have x1 : ¬ ((st : Int) < 1) := by omega
  have x2 : ¬ ((k : Int) < 0) := by omega
  clear hs0 hb0 hq0 hWW hl0 hops hin hon hst hst2 hk
  go_enter Try.func6, Try.ntmps6
  go_wp2_with fail
  refine HNW.out.mono ?_
  rintro e w1 ⟨p, rfl, hd⟩
  have HD1 : Hid (DS W0.heap.size W0 w1 p ⟨l0, [], false, 0, 0⟩) := hd
  clear hd HNW s0 s1 s2 hW0
  obtain ⟨s0, s1, s2⟩ := box3 ((HD1.out.below.block _ HW.out.2.1).trans HW.out.1)
  go_wp2_with fail
  refine (d2_new (Nat.le_refl _) HD1.out l0 HL0.out).mono ?_
  rintro e w2 ⟨q, rfl, hd⟩
  have HD2 : Hid (D2 W0.heap.size W0 w2 p q ⟨l0, [], false, 0, 0⟩ ⟨l0, [], false, 0, 0⟩) := hd
  clear hd HD1 s0 s1 s2
  obtain ⟨s0, s1, s2⟩ := box3 ((HD2.out.below.block _ HW.out.2.1).trans HW.out.1)
  go_wp2_with fail
  refine (HNU.out _ _).mono ?_
  rintro e wz ⟨rfl, hz⟩
  rw [hz]
  clear hz wz
  go_wp2_with fail
  refine (HNU.out _ _).mono ?_
  rintro e wz ⟨rfl, hz⟩
  rw [hz]
  clear hz wz
  go_wp2_with fail
  have HAR : Hid (Calls Try.prog 13 #[.pointer (some ⟨p, 0, none⟩), .int .i64 (st : Int), .int .i64 (k : Int)] w2 fun e w' => e = .returned (.int .i64 0) ∧ D2 W0.heap.size W0 w' p q (armD ⟨l0, [], false, 0, 0⟩ st k) ⟨l0, [], false, 0, 0⟩) := by
    obtain ⟨b, xs, ck, c, ys, dk, h1, h2, h3, h4, h5, h6⟩ := HD2.out.two
    refine (arm_any h1 rfl st k (by have := HOPS.out.2.2.2.1; omega)).mono ?_
    rintro e w' ⟨rfl, g1, g2, _⟩
    exact ⟨rfl, d2_next (Nat.le_refl _) h2 h3 h4 h5 h6 (nxt_box g1 g2)⟩
  refine HAR.out.mono ?_
  rintro e w3 ⟨rfl, hd⟩
  have HD3 : Hid (D2 W0.heap.size W0 w3 p q (armD ⟨l0, [], false, 0, 0⟩ st k) ⟨l0, [], false, 0, 0⟩) := hd
  clear hd HAR HD2 s0 s1 s2
  go_wp2_with fail
  refine (HNU.out _ _).mono ?_
  rintro e wz ⟨rfl, hz⟩
  rw [hz]
  clear hz wz
  go_wp2_with fail
  refine (awake_any _).mono ?_
  rintro e w4 ⟨rfl, hb4⟩
  have HD4 : Hid (D2 W0.heap.size W0 w4 p q (armD ⟨l0, [], false, 0, 0⟩ st k) ⟨l0, [], false, 0, 0⟩) := HD3.out.grow (Nat.le_refl _) hb4
  clear hb4 HD3
  go_wp2_with fail
  go_loopw [12] (fun v wr => ∃ i : Nat, i ≤ on ∧ v = .int .i64 (i : Int) ∧ ∃ (T : Dk) (s : Nat), Hid (D2 W0.heap.size W0 wr p q (armD T s k) T ∧ Free T ∧ 1 ≤ s ∧ s ≤ 9223372036854775807 ∧ Inv T i)) (fun v _ => on - (RowKit.intOf v).toNat)
  case atStart => exact ⟨0, Nat.zero_le _, rfl, ⟨l0, [], false, 0, 0⟩, st, HD4.out, ⟨rfl, rfl, rfl⟩, HOPS.out.2.2.2.1, HOPS.out.2.2.2.2.1, ⟨⟨HL0.out, by simp [used], by simp, by simp⟩, by simp, by simp⟩⟩
  case round =>
    obtain ⟨wo, hwo⟩ : ∃ wo, wo = wr := ⟨_, rfl⟩
    subst hwo
    obtain ⟨i, hi, rfl, T, s, hS⟩ := hrel
    have hbr := hS.out.1.below
    obtain ⟨s0, s1, s2⟩ := box3 ((hbr.block _ HW.out.2.1).trans HW.out.1)
    by_cases hlt : i < on
    · have hlt2 : (i : Int) < (on : Int) := by omega
      have hbw := HW.out.2.2 wo hbr
      obtain ⟨g, off, o, hoa, hgl, hoi, hcell⟩ := (HOPS.out.1.below hbw).at i hlt
      subst hoa
      have o0 := hcell 0 _ rfl
      have o1 := hcell 1 _ rfl
      have o2 := hcell 2 _ rfl
      have o3 := hcell 3 _ rfl
      have o4 := hcell 4 _ rfl
      rw [Nat.add_zero] at o0
      have hoin := HOPS.out.2.1 o (List.mem_of_getElem? hoi)
      obtain ⟨V, hV⟩ : ∃ V, wo.alloc (.cells #[.int .i64 0, .string ⟨#[]⟩, .slice none 0 0, .int .i64 0, .int .i64 0] 52) = V := ⟨_, rfl⟩
      have hVb : Below wo.heap.size wo V := by rw [← hV]; exact (Below.refl _ _).alloc (Nat.le_refl _) _
      have hVh : V.heap[wo.heap.size]? = some (.cells #[.int .i64 0, .string ⟨#[]⟩, .slice none 0 0, .int .i64 0, .int .i64 0] 52) := by rw [← hV]; exact (MapKept.heap_alloc wo _).1
      obtain ⟨V2, hV2, hh2, hC2⟩ := set5 hVh (.int .i64 o.kind) (.string ⟨o.nm.toArray⟩) (.slice o.ba o.B.length o.bc) (.int .i64 o.N) (.int .i64 o.M)
      obtain ⟨z0, z1, z2, z3, z4⟩ := box5 hVh
      have k0 := Lib.frozen_of_heap hVh 0
      have k1 := Lib.frozen_of_heap hVh 1
      have k2 := Lib.frozen_of_heap hVh 2
      have k3 := Lib.frozen_of_heap hVh 3
      have k4 := Lib.frozen_of_heap hVh 4
      have hb2 : Below wo.heap.size wo V2 := hVb.trans (hC2.below (fun x e => by omega) hVb.size)
      obtain ⟨e0, e1, e2, e3, e4⟩ := box5 hh2
      have gi : IntKind.i64.wrap ((i : Int) + 1) = ((i + 1 : Nat) : Int) := by rw [IntWalk.i64_in _ (by omega)]; omega
      have HR : Hid (Below wo.heap.size wo V2 ∧ V2.heap[wo.heap.size]? = some (.cells #[.int .i64 o.kind, .string ⟨o.nm.toArray⟩, .slice o.ba o.B.length o.bc, .int .i64 o.N, .int .i64 o.M] 52) ∧ OpIn w o ∧ Below w.heap.size w wo) := ⟨hb2, hh2, hoin, hbw⟩
      clear hb2 hh2 hoin hbw hC2 hVb hVh hcell hoi hgl hbr
      by_cases h8 : o.kind = 8
      · have t8 : (o.kind == 8) = true := beq_iff_eq.2 h8
        clear h8
        go_wp2_with fail
        go_roundw
        case rel => exact ⟨i + 1, by omega, by first | rfl | go_num, T, s, hS.out.1.grow (Nat.le_refl _) HR.out.1, hS.out.2.1, hS.out.2.2.1, hS.out.2.2.2.1, hS.out.2.2.2.2.mono (Nat.le_succ _)⟩
        case measure => simp [RowKit.intOf]; omega
      have t8 : (o.kind == 8) = false := beq_eq_false_iff_ne.2 h8
      by_cases h9 : o.kind = 9
      · have t9 : (o.kind == 9) = true := beq_iff_eq.2 h9
        clear h8 h9
        go_wp2_with fail
        go_roundw
        case rel => exact ⟨i + 1, by omega, by first | rfl | go_num, T, s, hS.out.1.grow (Nat.le_refl _) HR.out.1, hS.out.2.1, hS.out.2.2.1, hS.out.2.2.2.1, hS.out.2.2.2.2.mono (Nat.le_succ _)⟩
        case measure => simp [RowKit.intOf]; omega
      have t9 : (o.kind == 9) = false := beq_eq_false_iff_ne.2 h9
      by_cases h10 : o.kind = 10
      · have t10 : (o.kind == 10) = true := beq_iff_eq.2 h10
        clear h8 h9 h10
        go_wp2_with fail
        go_roundw
        case rel => exact ⟨i + 1, by omega, by first | rfl | go_num, T, s, hS.out.1.grow (Nat.le_refl _) HR.out.1, hS.out.2.1, hS.out.2.2.1, hS.out.2.2.2.1, hS.out.2.2.2.2.mono (Nat.le_succ _)⟩
        case measure => simp [RowKit.intOf]; omega
      have t10 : (o.kind == 10) = false := beq_eq_false_iff_ne.2 h10
      have HSIM : Hid ((Alike T s k o ∨ Falls T s k o) ∧ Free (doesS T o)) := ⟨sim hS.out.2.1 hS.out.2.2.1 k o h8 h9 h10, free_does hS.out.2.1 o h8 h9 h10⟩
      clear h8 h9 h10
      go_wp2_with fail
      obtain ⟨b, xs, ck, c, ys, dk, h1, h2, h3, h4, h5, h6⟩ := hS.out.1.two
      have HNB : Hid ((∀ g, Blk p b xs g → g < wo.heap.size) ∧ (∀ g, Blk q c ys g → g < wo.heap.size) ∧ wo.heap.size ≤ V2.heap.size) := ⟨fun g hg => h1.lt hg, fun g hg => h2.lt hg, HR.out.1.size⟩
      have h7 := h6.trans (HR.out.1.mono h6.size)
      have HTW : Hid (DiskAt V2 p b (armD T s k) xs ck ∧ DiskAt V2 q c T ys dk ∧ (∀ g, Blk p b xs g → ¬ Blk q c ys g) ∧ (∀ g, Blk p b xs g → W0.heap.size ≤ g) ∧ (∀ g, Blk q c ys g → W0.heap.size ≤ g) ∧ Below W0.heap.size W0 V2) := ⟨h1.below HR.out.1, h2.below HR.out.1, h3, h4, h5, h7⟩
      clear h1 h2 h3 h4 h5 h6 h7
      have hbb : ∀ W, Below V2.heap.size V2 W → Below w.heap.size w W := fun W hb => HW.out.2.2 _ (HTW.out.2.2.2.2.2.trans (hb.mono HTW.out.2.2.2.2.2.size))
      have hoo := HR.out.2.2.1
      have HOI : Hid (∀ W, Below w.heap.size w W → OpIn W o) := fun W hb => ⟨hoo.row.below hb, hoo.nm, hoo.N, hoo.M, hoo.B⟩
      have hci : i ≤ 2199023255552 := by have := HOPS.out.2.2.1; omega
      clear hoo
      refine (does_full HTW.out.1 (inv_armD hS.out.2.2.2.2 hS.out.2.2.2.1 HOPS.out.2.2.2.2.2) hci o (HOI.out V2 (hbb V2 (Below.refl _ _)))).mono ?_
      clear hbb
      rintro e w5 ⟨E1, N1, M1, ba1, bn1, bc1, fa1, fn1, fc1, dn1, rfl, han1, hnx1⟩
      obtain ⟨xs5, ck5, d1, d2, d3, d4, d5, d6⟩ := d2_first (Nat.le_refl _) HTW.out.2.1 HTW.out.2.2.1 HTW.out.2.2.2.1 HTW.out.2.2.2.2.2 hnx1
      have hi5 := inv_does HTW.out.1 (inv_armD hS.out.2.2.2.2 hS.out.2.2.2.1 HOPS.out.2.2.2.2.2) o HR.out.2.2.1.N HR.out.2.2.1.M
      obtain ⟨V5, hV5⟩ : ∃ V5, w5.alloc (.cells #[.int .i64 0, .int .i64 0, .int .i64 0, .slice none 0 0, .slice none 0 0, .bool false] 55) = V5 := ⟨_, rfl⟩
      have hV5b : Below w5.heap.size w5 V5 := by rw [← hV5]; exact (Below.refl _ _).alloc (Nat.le_refl _) _
      have hV5h : V5.heap[w5.heap.size]? = some (.cells #[.int .i64 0, .int .i64 0, .int .i64 0, .slice none 0 0, .slice none 0 0, .bool false] 55) := by rw [← hV5]; exact (MapKept.heap_alloc w5 _).1
      obtain ⟨V6, hV6, hh6, hC6⟩ := set6 hV5h (.int .i64 E1) (.int .i64 N1) (.int .i64 M1) (.slice ba1 bn1 bc1) (.slice fa1 fn1 fc1) (.bool dn1)
      obtain ⟨y0, y1, y2, y3, y4, y5⟩ := box6 hV5h
      have k0 := Lib.frozen_of_heap hV5h 0
      have k1 := Lib.frozen_of_heap hV5h 1
      have k2 := Lib.frozen_of_heap hV5h 2
      have k3 := Lib.frozen_of_heap hV5h 3
      have k4 := Lib.frozen_of_heap hV5h 4
      have k5 := Lib.frozen_of_heap hV5h 5
      have hb6 : Below w5.heap.size w5 V6 := hV5b.trans (hC6.below (fun x e => by omega) hV5b.size)
      have hszV : V2.heap.size ≤ w5.heap.size := d6.size
      have hq6 : V6.heap[wo.heap.size]? = some (.cells #[.int .i64 o.kind, .string ⟨o.nm.toArray⟩, .slice o.ba o.B.length o.bc, .int .i64 o.N, .int .i64 o.M] 52) := by
        have e1 := d6.block HR.out.2.1 (fun hg => by have := HNB.out.1 _ hg; omega)
        exact (hb6.block _ (Array.getElem?_eq_some_iff.1 e1).1).trans e1
      have HAN : Hid (AnsOk V6 V2.heap.size (armD T s k) o E1 N1 M1 ba1 bn1 bc1 fa1 fn1 fc1 dn1) := han1.chg (D := fun _ => False) ⟨hb6.mono (Nat.zero_le _), fun x hx _ => hb6.block x hx⟩ (fun _ f => f.elim)
      have HR6 : Hid (DiskAt V6 p b (doesS (armD T s k) o) xs5 ck5 ∧ DiskAt V6 q c T ys dk ∧ (∀ g, Blk q c ys g → ¬ Blk p b xs5 g) ∧ (∀ g, Blk p b xs5 g → W0.heap.size ≤ g) ∧ Below W0.heap.size W0 V6 ∧ V6.heap[w5.heap.size]? = some (.cells #[.int .i64 E1, .int .i64 N1, .int .i64 M1, .slice ba1 bn1 bc1, .slice fa1 fn1 fc1, .bool dn1] 55) ∧ V6.heap[wo.heap.size]? = some (.cells #[.int .i64 o.kind, .string ⟨o.nm.toArray⟩, .slice o.ba o.B.length o.bc, .int .i64 o.N, .int .i64 o.M] 52) ∧ V2.heap.size ≤ w5.heap.size ∧ Below V2.heap.size V2 V2) :=
        ⟨d1.below hb6, d2.below hb6, fun g hg hq => d3 g hq hg, d4, d5.trans (hb6.mono d5.size), hh6, hq6, hszV, Below.refl _ _⟩
      have HI5 : Hid (Inv (doesS (armD T s k) o) (i + 1)) := hi5
      clear han1 hnx1 d1 d2 d3 d4 d5 d6 hi5 hszV hq6 hh6 hC6 hb6 hV5b hV5h o0 o1 o2 o3 o4 z0 z1 z2 z3 z4 hV hV2 s0 s1 s2 e0 e1 e2 e3 e4
      go_wp2_with fail
      obtain ⟨e0, e1, e2, e3, e4⟩ := box5 HR6.out.2.2.2.2.2.2.1
      clear hV5 hV6 y0 y1 y2 y3 y4 y5 k0 k1 k2 k3 k4 k5
      obtain ⟨y0, y1, y2, y3, y4, y5⟩ := box6 HR6.out.2.2.2.2.2.1
      rcases HSIM.out.1 with hal | hfa
      · obtain ⟨⟨s', a1, a2, hds⟩, hE, hN⟩ := hal
        have HDN : Hid (Calls Try.prog 16 #[.pointer (some ⟨p, 0, none⟩)] V6 fun e w' => e = .returned (.bool false) ∧ w' = V6) := by
          have := down_any HR6.out.1
          rw [hds] at this
          have e9 : (armD (doesS T o) s' k).down = false := HSIM.out.2.dn
          rw [e9] at this
          exact this
        have HAL : Hid (1 ≤ s' ∧ s' ≤ s ∧ doesS (armD T s k) o = armD (doesS T o) s' k ∧ ansE (armD T s k) o = ansE T o ∧ ansN (armD T s k) o = ansN T o) := ⟨a1, a2, hds, hE, hN⟩
        clear a1 a2 hds hE hN
        refine HDN.out.mono ?_
        rintro e wz ⟨rfl, hz⟩
        rw [hz]
        clear hz wz HDN
        go_wp2_with fail
        have hbw6 : Below w.heap.size w V6 := HW.out.2.2 _ HR6.out.2.2.2.2.1
        refine (does_full HR6.out.2.1 hS.out.2.2.2.2 hci o (HOI.out V6 hbw6)).mono ?_
        rintro e w7 ⟨E2, N2, M2, ba2, bn2, bc2, fa2, fn2, fc2, dn2, rfl, han2, hnx2⟩
        obtain ⟨ys7, dk7, d1, d2, d3, d4, d5, d6⟩ := d2_first (p := q) (q := p) (Nat.le_refl _) HR6.out.1 HR6.out.2.2.1 HTW.out.2.2.2.2.1 HR6.out.2.2.2.2.1 hnx2
        have hi7 := inv_does HR6.out.2.1 hS.out.2.2.2.2 o HR.out.2.2.1.N HR.out.2.2.1.M
        have hq7 : w7.heap[w5.heap.size]? = some (.cells #[.int .i64 E1, .int .i64 N1, .int .i64 M1, .slice ba1 bn1 bc1, .slice fa1 fn1 fc1, .bool dn1] 55) := d6.block HR6.out.2.2.2.2.2.1 (fun hg => by have := HNB.out.2.1 _ hg; have := HNB.out.2.2; have := HR6.out.2.2.2.2.2.2.2.1; omega)
        have han7 := HAN.out.chg d6 (fun g hg => by have := HNB.out.2.1 _ hg; have := HNB.out.2.2; omega)
        obtain ⟨V5, hV5⟩ : ∃ V5, w7.alloc (.cells #[.int .i64 0, .int .i64 0, .int .i64 0, .slice none 0 0, .slice none 0 0, .bool false] 55) = V5 := ⟨_, rfl⟩
        have hV5b : Below w7.heap.size w7 V5 := by rw [← hV5]; exact (Below.refl _ _).alloc (Nat.le_refl _) _
        have hV5h : V5.heap[w7.heap.size]? = some (.cells #[.int .i64 0, .int .i64 0, .int .i64 0, .slice none 0 0, .slice none 0 0, .bool false] 55) := by rw [← hV5]; exact (MapKept.heap_alloc w7 _).1
        obtain ⟨V8, hV8, hh6, hC6⟩ := set6 hV5h (.int .i64 E2) (.int .i64 N2) (.int .i64 M2) (.slice ba2 bn2 bc2) (.slice fa2 fn2 fc2) (.bool dn2)
        obtain ⟨y0, y1, y2, y3, y4, y5⟩ := box6 hV5h
        have k0 := Lib.frozen_of_heap hV5h 0
        have k1 := Lib.frozen_of_heap hV5h 1
        have k2 := Lib.frozen_of_heap hV5h 2
        have k3 := Lib.frozen_of_heap hV5h 3
        have k4 := Lib.frozen_of_heap hV5h 4
        have k5 := Lib.frozen_of_heap hV5h 5
        have hb6 : Below w7.heap.size w7 V8 := hV5b.trans (hC6.below (fun x e => by omega) hV5b.size)
        have han18 := han7.chg (D := fun _ => False) ⟨hb6.mono (Nat.zero_le _), fun x hx _ => hb6.block x hx⟩ (fun _ f => f.elim)
        have han28 := han2.chg (D := fun _ => False) ⟨hb6.mono (Nat.zero_le _), fun x hx _ => hb6.block x hx⟩ (fun _ f => f.elim)
        have hq8 : V8.heap[w5.heap.size]? = some (.cells #[.int .i64 E1, .int .i64 N1, .int .i64 M1, .slice ba1 bn1 bc1, .slice fa1 fn1 fc1, .bool dn1] 55) := (hb6.block _ (Array.getElem?_eq_some_iff.1 hq7).1).trans hq7
        have HNO : Hid ((T.fs.map (·.nm)).Nodup) := by rw [Hid, HTW.out.2.1.fs, List.map_map]; exact HTW.out.2.1.map.nm
        have HCA : Hid (Calls Try.prog 25 #[.agg #[.int .i64 E1, .int .i64 N1, .int .i64 M1, .slice ba1 bn1 bc1, .slice fa1 fn1 fc1, .bool dn1], .agg #[.int .i64 E2, .int .i64 N2, .int .i64 M2, .slice ba2 bn2 bc2, .slice fa2 fn2 fc2, .bool dn2]] V8 fun e w' => e = .returned (.bool true) ∧ Below V8.heap.size V8 w') := by
          obtain ⟨l1, p1, r1, f1⟩ := han18.files
          obtain ⟨l2, p2, r2, f2⟩ := han28.files
          have hll : l1 = l2 := by
            refine rise_unique (p1.trans (List.Perm.symm p2)) ((p1.map _).nodup_iff.2 ?_) r1 r2
            show ((ansF T o).map (·.nm)).Nodup
            unfold ansF
            split
            · exact HNO.out
            · simp
          subst hll
          have hlen : l1.length ≤ 2199023255552 := by
            rw [p2.length_eq]
            unfold ansF
            split
            · exact Nat.le_trans hS.out.2.2.2.2.cnt hci
            · simp
          have q1 : E1 = E2 := by rw [han18.e, han28.e]; exact HAL.out.2.2.2.1
          have q2 : N1 = N2 := by rw [han18.n, han28.n]; exact HAL.out.2.2.2.2
          have q3 : M1 = M2 := by rw [han18.m, han28.m]; rfl
          have q4 : dn1 = dn2 := by rw [han18.d, han28.d]; rfl
          subst q1 q2 q3 q4
          have hb1 := han18.bytes.rw_ layU
          have hb2 := han28.bytes.rw_ layU
          exact alike_eq E1 N1 M1 dn1 (show Rw byU 1 V8 ba1 bn1 bc1 (ansB T o) from hb1) hb2 f1.r f2.r hlen
        have HD8 : Hid (D2 W0.heap.size W0 V8 p q (armD (doesS T o) s' k) (doesS T o) ∧ Inv (doesS T o) (i + 1) ∧ V8.heap[w5.heap.size]? = some (.cells #[.int .i64 E1, .int .i64 N1, .int .i64 M1, .slice ba1 bn1 bc1, .slice fa1 fn1 fc1, .bool dn1] 55) ∧ V8.heap[w7.heap.size]? = some (.cells #[.int .i64 E2, .int .i64 N2, .int .i64 M2, .slice ba2 bn2 bc2, .slice fa2 fn2 fc2, .bool dn2] 55)) := by
          have hd := (show D2 W0.heap.size W0 w7 q p (doesS T o) (doesS (armD T s k) o) from ⟨c, ys7, dk7, b, xs5, ck5, d1, d2, d3, d4, HR6.out.2.2.2.1, d5⟩)
          rw [HAL.out.2.2.1] at hd
          exact ⟨hd.swap.grow (Nat.le_refl _) hb6, hi7, hq8, hh6⟩
        clear han2 hnx2 d1 d2 d3 d4 d5 d6 hi7 hq7 han7 han18 han28 hq8 hh6 hC6 hb6 hV5b hV5h hbw6 HNO HAN
        obtain ⟨p0, p1, p2, p3, p4, p5⟩ := box6 HD8.out.2.2.1
        obtain ⟨r0, r1, r2, r3, r4, r5⟩ := box6 HD8.out.2.2.2
        go_wp2_with fail
        clear hV5 hV8 k0 k1 k2 k3 k4 k5
        refine HCA.out.mono ?_
        rintro e w9 ⟨rfl, hb9⟩
        have HFIN : Hid (D2 W0.heap.size W0 w9 p q (armD (doesS T o) s' k) (doesS T o)) := HD8.out.1.grow (Nat.le_refl _) hb9
        clear hb9 HCA
        go_wp2_with fail
        go_roundw
        case rel => exact ⟨i + 1, by omega, by first | rfl | go_num, doesS T o, s', HFIN.out, HSIM.out.2, HAL.out.1, Nat.le_trans HAL.out.2.1 hS.out.2.2.2.1, HD8.out.2.1⟩
        case measure => simp [RowKit.intOf]; omega
      · obtain ⟨hE, hN, hds⟩ := hfa
        have HFA : Hid (doesS (armD T s k) o = crashP k (if o.kind = 1 then doesS T o else T)) := hds
        obtain rfl : E1 = 110 := HAN.out.e.trans hE
        obtain rfl : N1 = 0 := HAN.out.n.trans hN
        have HDN : Hid (Calls Try.prog 16 #[.pointer (some ⟨p, 0, none⟩)] V6 fun e w' => e = .returned (.bool true) ∧ w' = V6) := by
          have := down_any HR6.out.1
          rw [hds] at this
          exact this
        clear hE hN hds
        refine HDN.out.mono ?_
        rintro e wz ⟨rfl, hz⟩
        rw [hz]
        clear hz wz HDN
        by_cases h1 : o.kind = 1
        · clear HAN
          have t1 : (o.kind == 1) = true := beq_iff_eq.2 h1
          have hds : doesS (armD T s k) o = crashP k (doesS T o) := by have := HFA.out; rwa [if_pos h1] at this
          have HDS : Hid (doesS (armD T s k) o = crashP k (doesS T o) ∧ Inv (crashP k (doesS T o)) (i + 1)) := ⟨hds, hds ▸ HI5.out⟩
          clear hds h1
          go_wp2_with fail
          have hbw6 : Below w.heap.size w V6 := HW.out.2.2 _ HR6.out.2.2.2.2.1
          refine (does_full HR6.out.2.1 hS.out.2.2.2.2 hci o (HOI.out V6 hbw6)).mono ?_
          rintro e w7 ⟨E2, N2, M2, ba2, bn2, bc2, fa2, fn2, fc2, dn2, rfl, han2, hnx2⟩
          obtain ⟨ys7, dk7, d1, d2, d3, d4, d5, d6⟩ := d2_first (p := q) (q := p) (Nat.le_refl _) HR6.out.1 HR6.out.2.2.1 HTW.out.2.2.2.2.1 HR6.out.2.2.2.2.1 hnx2
          have hi7 := inv_does HR6.out.2.1 hS.out.2.2.2.2 o HR.out.2.2.1.N HR.out.2.2.1.M
          have HD7 : Hid (D2 W0.heap.size W0 w7 p q (crashP k (doesS T o)) (doesS T o) ∧ Inv (doesS T o) (i + 1) ∧ Free (doesS T o)) := by
            have hd := (show D2 W0.heap.size W0 w7 q p (doesS T o) (doesS (armD T s k) o) from ⟨c, ys7, dk7, b, xs5, ck5, d1, d2, d3, d4, HR6.out.2.2.2.1, d5⟩)
            rw [HDS.out.1] at hd
            exact ⟨hd.swap, hi7, HSIM.out.2⟩
          clear han2 hnx2 d1 d2 d3 d4 d5 d6 hi7 hbw6
          go_wp2_with fail
          refine (d2_crash (Nat.le_refl _) HD7.out.1 HD7.out.2.1 HD7.out.2.2.dn k HOPS.out.2.2.2.2.2).mono ?_
          rintro e wK ⟨rfl, hdk⟩
          have HK : Hid (D2 W0.heap.size W0 wK p q (crashP k (doesS T o)) (crashP k (doesS T o))) := hdk
          have hln : (crashP k (doesS T o)).fs.length ≤ 2199023255552 := Nat.le_trans HDS.out.2.cnt (by have := HOPS.out.2.2.1; omega)
          have HLN : Hid ((crashP k (doesS T o)).fs.length ≤ 2199023255552) := hln
          clear hdk HD7 hln
          go_wp2_with fail
          refine (d2_files (Nat.le_refl _) HK.out HDS.out.2 HLN.out).mono ?_
          rintro e wA ⟨xa, xn, xc, la, rfl, hpa, hra, hfa, hda⟩
          have HA : Hid (la.Perm (crashP k (doesS T o)).fs ∧ RiseF la ∧ FilesO wA wK.heap.size xa xn xc la ∧ D2 W0.heap.size W0 wA p q (crashP k (doesS T o)) (crashP k (doesS T o))) := ⟨hpa, hra, hfa.1, hda⟩
          clear hpa hra hfa hda
          go_wp2_with fail
          refine (d2_files (Nat.le_refl _) HA.out.2.2.2.swap HDS.out.2 HLN.out).mono ?_
          rintro e wB ⟨ya, yn, yc, lb, rfl, hpb, hrb, hfb, hdb⟩
          have hla : la = lb := by
            have hnd := HA.out.2.2.2.nodup
            refine rise_unique (HA.out.1.trans (show List.Perm (crashP k (doesS T o)).fs lb from hpb.symm)) ((HA.out.1.map _).nodup_iff.2 hnd) HA.out.2.1 hrb
          subst hla
          have HAB : Hid (FilesO wB wK.heap.size xa xn xc la) := by
            have hbAB : Below wA.heap.size wA wB := hfb.2
            exact HA.out.2.2.1.chg (D := fun _ => False) ⟨hbAB.mono (Nat.zero_le _), fun g hg _ => hbAB.block g hg⟩ (fun _ f => f.elim)
          have HBB : Hid (FilesO wB wA.heap.size ya yn yc la ∧ la.length ≤ 2199023255552 ∧ D2 W0.heap.size W0 wB q p (crashP k (doesS T o)) (crashP k (doesS T o))) := ⟨hfb.1, by rw [HA.out.1.length_eq]; exact HLN.out, hdb⟩
          clear hpb hrb hfb hdb
          go_wp2_with fail
          refine (sameFiles_eq HAB.out.r HBB.out.1.r HBB.out.2.1).mono ?_
          rintro e wC ⟨rfl, hbC⟩
          have HC2 : Hid (D2 W0.heap.size W0 wC q p (crashP k (doesS T o)) (crashP k (doesS T o))) := HBB.out.2.2.grow (Nat.le_refl _) hbC
          clear hbC HAB HBB HA
          go_wp2_with fail
          refine (d2_used (Nat.le_refl _) HC2.out.swap HDS.out.2).mono ?_
          rintro e wU ⟨rfl, hdu⟩
          have HU : Hid (D2 W0.heap.size W0 wU p q (crashP k (doesS T o)) (crashP k (doesS T o))) := hdu
          clear hdu
          go_wp2_with fail
          refine (d2_used (Nat.le_refl _) HU.out.swap HDS.out.2).mono ?_
          rintro e wV ⟨rfl, hdu⟩
          have HV : Hid (Below w.heap.size w wV) := HW.out.2.2 _ hdu.below
          clear hdu
          go_wp2_with fail
          go_ret
          exact ⟨rfl, HV.out⟩
        · clear HAN
          have t1 : (o.kind == 1) = false := beq_eq_false_iff_ne.2 h1
          have hds : doesS (armD T s k) o = crashP k T := by have := HFA.out; rwa [if_neg h1] at this
          have HDS : Hid (doesS (armD T s k) o = crashP k T ∧ Inv (crashP k T) (i + 1)) := ⟨hds, hds ▸ HI5.out⟩
          clear hds h1
          go_wp2_with fail
          have HD7 : Hid (D2 W0.heap.size W0 V6 p q (crashP k T) T ∧ Inv T (i + 1) ∧ Free T) := by
            have hd := (show D2 W0.heap.size W0 V6 p q (doesS (armD T s k) o) T from ⟨b, xs5, ck5, c, ys, dk, HR6.out.1, HR6.out.2.1, fun g hg hq => HR6.out.2.2.1 g hq hg, HR6.out.2.2.2.1, HTW.out.2.2.2.2.1, HR6.out.2.2.2.2.1⟩)
            rw [HDS.out.1] at hd
            exact ⟨hd, hS.out.2.2.2.2.mono (Nat.le_succ _), hS.out.2.1⟩
          refine (d2_crash (Nat.le_refl _) HD7.out.1 HD7.out.2.1 HD7.out.2.2.dn k HOPS.out.2.2.2.2.2).mono ?_
          rintro e wK ⟨rfl, hdk⟩
          have HK : Hid (D2 W0.heap.size W0 wK p q (crashP k T) (crashP k T)) := hdk
          have hln : (crashP k T).fs.length ≤ 2199023255552 := Nat.le_trans HDS.out.2.cnt (by have := HOPS.out.2.2.1; omega)
          have HLN : Hid ((crashP k T).fs.length ≤ 2199023255552) := hln
          clear hdk HD7 hln
          go_wp2_with fail
          refine (d2_files (Nat.le_refl _) HK.out HDS.out.2 HLN.out).mono ?_
          rintro e wA ⟨xa, xn, xc, la, rfl, hpa, hra, hfa, hda⟩
          have HA : Hid (la.Perm (crashP k T).fs ∧ RiseF la ∧ FilesO wA wK.heap.size xa xn xc la ∧ D2 W0.heap.size W0 wA p q (crashP k T) (crashP k T)) := ⟨hpa, hra, hfa.1, hda⟩
          clear hpa hra hfa hda
          go_wp2_with fail
          refine (d2_files (Nat.le_refl _) HA.out.2.2.2.swap HDS.out.2 HLN.out).mono ?_
          rintro e wB ⟨ya, yn, yc, lb, rfl, hpb, hrb, hfb, hdb⟩
          have hla : la = lb := by
            have hnd := HA.out.2.2.2.nodup
            refine rise_unique (HA.out.1.trans (show List.Perm (crashP k T).fs lb from hpb.symm)) ((HA.out.1.map _).nodup_iff.2 hnd) HA.out.2.1 hrb
          subst hla
          have HAB : Hid (FilesO wB wK.heap.size xa xn xc la) := by
            have hbAB : Below wA.heap.size wA wB := hfb.2
            exact HA.out.2.2.1.chg (D := fun _ => False) ⟨hbAB.mono (Nat.zero_le _), fun g hg _ => hbAB.block g hg⟩ (fun _ f => f.elim)
          have HBB : Hid (FilesO wB wA.heap.size ya yn yc la ∧ la.length ≤ 2199023255552 ∧ D2 W0.heap.size W0 wB q p (crashP k T) (crashP k T)) := ⟨hfb.1, by rw [HA.out.1.length_eq]; exact HLN.out, hdb⟩
          clear hpb hrb hfb hdb
          go_wp2_with fail
          refine (sameFiles_eq HAB.out.r HBB.out.1.r HBB.out.2.1).mono ?_
          rintro e wC ⟨rfl, hbC⟩
          have HC2 : Hid (D2 W0.heap.size W0 wC q p (crashP k T) (crashP k T)) := HBB.out.2.2.grow (Nat.le_refl _) hbC
          clear hbC HAB HBB HA
          go_wp2_with fail
          refine (d2_used (Nat.le_refl _) HC2.out.swap HDS.out.2).mono ?_
          rintro e wU ⟨rfl, hdu⟩
          have HU : Hid (D2 W0.heap.size W0 wU p q (crashP k T) (crashP k T)) := hdu
          clear hdu
          go_wp2_with fail
          refine (d2_used (Nat.le_refl _) HU.out.swap HDS.out.2).mono ?_
          rintro e wV ⟨rfl, hdu⟩
          have HV : Hid (Below w.heap.size w wV) := HW.out.2.2 _ hdu.below
          clear hdu
          go_wp2_with fail
          go_ret
          exact ⟨rfl, HV.out⟩
    · obtain rfl : i = on := by omega
      have hlt2 : ¬ ((i : Int) < (i : Int)) := by omega
      have HLN : Hid (T.fs.length ≤ 2199023255552) := Nat.le_trans hS.out.2.2.2.2.cnt (by have := HOPS.out.2.2.1; omega)
      have HIA : Hid (Inv (armD T s k) i) := inv_armD hS.out.2.2.2.2 hS.out.2.2.2.1 HOPS.out.2.2.2.2.2
      go_wp2_with fail
      refine (d2_files (Nat.le_refl _) hS.out.1 HIA.out HLN.out).mono ?_
      rintro e wA ⟨xa, xn, xc, la, rfl, hpa, hra, hfa, hda⟩
      have HA : Hid (la.Perm (armD T s k).fs ∧ RiseF la ∧ FilesO wA wo.heap.size xa xn xc la ∧ D2 W0.heap.size W0 wA p q (armD T s k) (T)) := ⟨hpa, hra, hfa.1, hda⟩
      clear hpa hra hfa hda
      go_wp2_with fail
      refine (d2_files (Nat.le_refl _) HA.out.2.2.2.swap hS.out.2.2.2.2 HLN.out).mono ?_
      rintro e wB ⟨ya, yn, yc, lb, rfl, hpb, hrb, hfb, hdb⟩
      have hla : la = lb := by
        have hnd := HA.out.2.2.2.nodup
        refine rise_unique (HA.out.1.trans (show List.Perm (armD T s k).fs lb from hpb.symm)) ((HA.out.1.map _).nodup_iff.2 hnd) HA.out.2.1 hrb
      subst hla
      have HAB : Hid (FilesO wB wo.heap.size xa xn xc la) := by
        have hbAB : Below wA.heap.size wA wB := hfb.2
        exact HA.out.2.2.1.chg (D := fun _ => False) ⟨hbAB.mono (Nat.zero_le _), fun g hg _ => hbAB.block g hg⟩ (fun _ f => f.elim)
      have HBB : Hid (FilesO wB wA.heap.size ya yn yc la ∧ la.length ≤ 2199023255552 ∧ D2 W0.heap.size W0 wB q p (T) (armD T s k)) := ⟨hfb.1, by rw [HA.out.1.length_eq]; exact HLN.out, hdb⟩
      clear hpb hrb hfb hdb
      go_wp2_with fail
      refine (sameFiles_eq HAB.out.r HBB.out.1.r HBB.out.2.1).mono ?_
      rintro e wC ⟨rfl, hbC⟩
      have HC2 : Hid (D2 W0.heap.size W0 wC q p (T) (armD T s k)) := HBB.out.2.2.grow (Nat.le_refl _) hbC
      clear hbC HAB HBB HA
      go_wp2_with fail
      go_ret
      exact ⟨rfl, HW.out.2.2 _ HC2.out.below⟩
end Go.Proofs.Yteidmfmkdmggoaa
