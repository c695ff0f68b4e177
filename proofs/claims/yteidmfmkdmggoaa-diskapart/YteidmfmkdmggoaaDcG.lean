import Derived.Test.YteidmfmkdmggoaaDcF
/-! DiskLimit. -/
namespace Go.Proofs.Yteidmfmkdmggoaa
open Go.RowKit Go.Lib Go.Sort Go.Shelf
set_option maxRecDepth 100000

theorem box3 {W : World} {b : Nat} {T : TypeId} {v0 v1 v2 : Value} (h : W.heap[b]? = some (.cells #[v0, v1, v2] T)) : W.cell? ⟨b, 0, none⟩ = some v0 ∧ W.cell? ⟨b, 1, none⟩ = some v1 ∧ W.cell? ⟨b, 2, none⟩ = some v2 := by
  simp only [Lib.cell_of_heap h]
  exact ⟨rfl, rfl, rfl⟩
theorem set5 {W : World} {q : Nat} {T : TypeId} {u0 u1 u2 u3 u4 : Value} (h : W.heap[q]? = some (.cells #[u0, u1, u2, u3, u4] T)) (v0 v1 v2 v3 v4 : Value) :
    ∃ W9, ((((W.setCell ⟨q, 0, none⟩ v0).setCell ⟨q, 1, none⟩ v1).setCell ⟨q, 2, none⟩ v2).setCell ⟨q, 3, none⟩ v3).setCell ⟨q, 4, none⟩ v4 = W9 ∧ W9.heap[q]? = some (.cells #[v0, v1, v2, v3, v4] T) ∧ Chg (fun g => g = q) W W9 := by
  have e0 := heap_setCell_cells h 0 v0
  have e1 := heap_setCell_cells e0 1 v1
  have e2 := heap_setCell_cells e1 2 v2
  have e3 := heap_setCell_cells e2 3 v3
  have e4 := heap_setCell_cells e3 4 v4
  have hs : ∀ (i : Nat) (W : World) (u : Value), Chg (fun g => g = q) W (W.setCell ⟨q, i, none⟩ u) := fun i W u => Chg.set (D := fun g => g = q) (q := q) i W u rfl
  exact ⟨_, rfl, e4, ((((hs 0 _ _).trans (hs 1 _ _)).trans (hs 2 _ _)).trans (hs 3 _ _)).trans (hs 4 _ _)⟩
theorem DiskAt.used {W : World} {p b ck : Nat} {S : Dk} {xs : List X} (h : DiskAt W p b S xs ck) : lenX xs = Go.Proofs.Yteidmfmkdmggoaa.used S.fs := by rw [h.fs, used_lenX]
/-- the bytes of answered files, summed from the front -/
def sumZ (zs : List (Fv × X)) (k : Nat) : Nat := lenX ((zs.map (·.2)).take k)
theorem sumZ_succ (zs : List (Fv × X)) (k : Nat) (z : Fv × X) (h : zs[k]? = some z) : sumZ zs (k + 1) = sumZ zs k + z.2.bs.length := by
  unfold sumZ
  rw [List.take_add_one, List.getElem?_map, h, lenX_append]
  simp [lenX]
set_option maxHeartbeats 4000000 in
theorem diskLimit_bad {w : World} (L : Int) (hL : L < 0 ∨ 1099511627776 < L) (fa : Option Addr) (fl fc : Nat) (oa : Option Addr) (on oc : Nat) :
    Calls Try.prog 5 #[.agg #[.int .i64 L, .slice fa fl fc, .slice oa on oc]] w fun e w' => e = .returned (.bool true) ∧ Below w.heap.size w w' := by
  have HNU : Hid (∀ x w, Calls Try.prog 10 #[.int .i64 x] w fun e w' => e = .returned (.int .i64 x) ∧ w' = w) := num_any
  have HNW : Hid (∀ w, Calls Try.prog 9 #[.int .i64 L] w fun e w' => e = .returned (.tuple #[.pointer none, .int .i64 12]) ∧ w' = w) := new_bad L hL
  have hb0 : Below w.heap.size w (w.alloc (.cells #[.int .i64 L, .slice fa fl fc, .slice oa on oc] 50)) := (Below.refl _ _).alloc (Nat.le_refl _) _
  have HB0 : Hid (Below w.heap.size w (w.alloc (.cells #[.int .i64 L, .slice fa fl fc, .slice oa on oc] 50))) := hb0
  clear hb0
  by_cases h1 : L < 0
  · clear hL
    go_enter Try.func5, Try.ntmps5
    go_wp2_with fail
    refine (HNW.out _).mono ?_
    rintro e w1 ⟨rfl, rfl⟩
    go_wp2_with fail
    refine (HNU.out _ _).mono ?_
    rintro e wz ⟨rfl, hz⟩
    rw [hz]
    clear hz wz
    go_wp2_with fail
    refine (HNU.out _ _).mono ?_
    rintro e wz ⟨rfl, hz⟩
    rw [hz]
    clear hz wz
    go_wp2_with fail
    refine (awake_any _).mono ?_
    rintro e w2 ⟨rfl, hb2⟩
    have HB2 : Hid (Below w.heap.size w w2) := HB0.out.trans (hb2.mono HB0.out.size)
    clear hb2
    go_wp2_with fail
    go_ret
    exact ⟨rfl, HB2.out⟩
  · have h2 : (1099511627776 : Int) < L := by omega
    clear hL
    go_enter Try.func5, Try.ntmps5
    go_wp2_with fail
    refine (HNW.out _).mono ?_
    rintro e w1 ⟨rfl, rfl⟩
    go_wp2_with fail
    refine (HNU.out _ _).mono ?_
    rintro e wz ⟨rfl, hz⟩
    rw [hz]
    clear hz wz
    go_wp2_with fail
    refine (HNU.out _ _).mono ?_
    rintro e wz ⟨rfl, hz⟩
    rw [hz]
    clear hz wz
    go_wp2_with fail
    refine (awake_any _).mono ?_
    rintro e w2 ⟨rfl, hb2⟩
    have HB2 : Hid (Below w.heap.size w w2) := HB0.out.trans (hb2.mono HB0.out.size)
    clear hb2
    go_wp2_with fail
    go_ret
    exact ⟨rfl, HB2.out⟩
set_option maxHeartbeats 8000000 in
theorem diskLimit_good {w : World} (l0 : Nat) (hl0 : l0 ≤ 1099511627776) (fa : Option Addr) (fl fc : Nat) {oa : Option Addr} {on oc : Nat} {ops : List OpR} (hops : Rw opV 5 w oa on oc ops) (hin : ∀ o ∈ ops, OpIn w o) (hon : on ≤ 2199023255551) :
    Calls Try.prog 5 #[.agg #[.int .i64 (l0 : Int), .slice fa fl fc, .slice oa on oc]] w fun e w' => e = .returned (.bool true) ∧ Below w.heap.size w w' := by
  have HNU : Hid (∀ x w, Calls Try.prog 10 #[.int .i64 x] w fun e w' => e = .returned (.int .i64 x) ∧ w' = w) := num_any
  obtain ⟨W0, hW0⟩ : ∃ W0, w.alloc (.cells #[.int .i64 (l0 : Int), .slice fa fl fc, .slice oa on oc] 50) = W0 := ⟨_, rfl⟩
  have hs0 : W0.heap.size = w.heap.size + 1 := by rw [← hW0, World.size_alloc]
  have hb0 : Below w.heap.size w W0 := by rw [← hW0]; exact (Below.refl _ _).alloc (Nat.le_refl _) _
  have hq0 : W0.heap[w.heap.size]? = some (.cells #[.int .i64 (l0 : Int), .slice fa fl fc, .slice oa on oc] 50) := by rw [← hW0]; exact (MapKept.heap_alloc w _).1
  have hWW : ∀ W, Below W0.heap.size W0 W → Below w.heap.size w W := fun W hb => hb0.trans (hb.mono (by omega))
  have HW : Hid (W0.heap[w.heap.size]? = some (.cells #[.int .i64 (l0 : Int), .slice fa fl fc, .slice oa on oc] 50) ∧ w.heap.size < W0.heap.size ∧ (∀ W, Below W0.heap.size W0 W → Below w.heap.size w W)) := ⟨hq0, by omega, hWW⟩
  have HOPS : Hid (Rw opV 5 w oa on oc ops ∧ (∀ o ∈ ops, OpIn w o) ∧ on ≤ 2199023255551 ∧ l0 ≤ 1099511627776) := ⟨hops, hin, hon, hl0⟩
  obtain ⟨s0, s1, s2⟩ := box3 hq0
  have HNW : Hid (Calls Try.prog 9 #[.int .i64 (l0 : Int)] W0 fun e w' => ∃ p, e = .returned (.tuple #[.pointer (some ⟨p, 0, none⟩), .int .i64 0]) ∧ DS W0.heap.size W0 w' p ⟨l0, [], false, 0, 0⟩) := ds_new (Nat.le_refl _) (Below.refl _ _) l0 hl0
  have honc : (on : Int) ≤ 2199023255551 := by omega
  clear hs0 hb0 hq0 hWW hops hin hl0 hon
  go_enter Try.func5, Try.ntmps5
  go_wp2_with fail
  refine HNW.out.mono ?_
  rintro e w1 ⟨p, rfl, hd⟩
  have HD1 : Hid (DS W0.heap.size W0 w1 p ⟨l0, [], false, 0, 0⟩) := hd
  clear hd HNW s0 s1 s2 hW0
  go_wp2_with fail
  refine (HNU.out _ _).mono ?_
  rintro e wz ⟨rfl, hz⟩
  rw [hz]
  clear hz wz
  go_wp2_with fail
  go_loopw [5] (fun v wr => ∃ i : Nat, i ≤ on ∧ v = .int .i64 (i : Int) ∧ ∃ S : Dk, Hid (DS W0.heap.size W0 wr p S ∧ Inv S i ∧ S.limit = l0)) (fun v _ => on - (RowKit.intOf v).toNat)
  case atStart => exact ⟨0, Nat.zero_le _, rfl, ⟨l0, [], false, 0, 0⟩, HD1.out, ⟨⟨HOPS.out.2.2.2, by simp [used], by simp, by simp⟩, by simp, by simp⟩, rfl⟩
  case round =>
    obtain ⟨wo, hwo⟩ : ∃ wo, wo = wr := ⟨_, rfl⟩
    subst hwo
    obtain ⟨i, hi, rfl, S, hS⟩ := hrel
    have hbr := hS.out.1.below
    obtain ⟨s0, s1, s2⟩ := box3 ((hbr.block _ HW.out.2.1).trans HW.out.1)
    by_cases hlt : i < on
    · have hlt2 : (i : Int) < (on : Int) := by omega
      obtain ⟨b, xs, ck, hD, hblk, hbel⟩ := hS.out.1
      have hbw := HW.out.2.2 wo hbel
      obtain ⟨g, off, o, hoa, hgl, hoi, hcell⟩ := (HOPS.out.1.below hbw).at i hlt
      subst hoa
      have o0 := hcell 0 _ rfl
      have o1 := hcell 1 _ rfl
      have o2 := hcell 2 _ rfl
      have o3 := hcell 3 _ rfl
      have o4 := hcell 4 _ rfl
      rw [Nat.add_zero] at o0
      have hoin := HOPS.out.2.1 o (List.mem_of_getElem? hoi)
      obtain ⟨V, hV⟩ : ∃ V, wo.alloc (.cells #[.int .i64 0, .string ⟨#[]⟩, .slice none 0 0, .int .i64 0, .int .i64 0] 52) = V := ⟨_, rfl⟩
      have hVb : Below wo.heap.size wo V := by rw [← hV]; exact (Below.refl _ _).alloc (Nat.le_refl _) _
      have hVh : V.heap[wo.heap.size]? = some (.cells #[.int .i64 0, .string ⟨#[]⟩, .slice none 0 0, .int .i64 0, .int .i64 0] 52) := by rw [← hV]; exact (MapKept.heap_alloc wo _).1
      obtain ⟨V2, hV2, hh2, hC2⟩ := set5 hVh (.int .i64 o.kind) (.string ⟨o.nm.toArray⟩) (.slice o.ba o.B.length o.bc) (.int .i64 o.N) (.int .i64 o.M)
      obtain ⟨z0, z1, z2, z3, z4⟩ := box5 hVh
      have k0 := Lib.frozen_of_heap hVh 0
      have k1 := Lib.frozen_of_heap hVh 1
      have k2 := Lib.frozen_of_heap hVh 2
      have k3 := Lib.frozen_of_heap hVh 3
      have k4 := Lib.frozen_of_heap hVh 4
      have hb2 : Below wo.heap.size wo V2 := hVb.trans (hC2.below (fun q e => by omega) hVb.size)
      have HR : Hid (DiskAt wo p b S xs ck ∧ (∀ g, Blk p b xs g → W0.heap.size ≤ g) ∧ Below W0.heap.size W0 wo ∧ Below wo.heap.size wo V2 ∧ V2.heap[wo.heap.size]? = some (.cells #[.int .i64 o.kind, .string ⟨o.nm.toArray⟩, .slice o.ba o.B.length o.bc, .int .i64 o.N, .int .i64 o.M] 52) ∧ OpIn w o ∧ Below w.heap.size w wo) := ⟨hD, hblk, hbel, hb2, hh2, hoin, hbw⟩
      clear hD hblk hbel hb2 hh2 hoin hbw hC2 hVb hVh hcell hoi hgl hbr
      go_wp2_with fail
      refine (used_any (HR.out.1.below HR.out.2.2.2.1) (hS.out.2.1.ok.len HR.out.1)).mono ?_
      rintro e w4 ⟨rfl, hb4⟩
      have hq4 : w4.heap[wo.heap.size]? = some (.cells #[.int .i64 o.kind, .string ⟨o.nm.toArray⟩, .slice o.ba o.B.length o.bc, .int .i64 o.N, .int .i64 o.M] 52) := (hb4.block _ (Array.getElem?_eq_some_iff.1 HR.out.2.2.2.2.1).1).trans HR.out.2.2.2.2.1
      have hb4r : Below wo.heap.size wo w4 := HR.out.2.2.2.1.trans (hb4.mono HR.out.2.2.2.1.size)
      have HR4 : Hid (Below wo.heap.size wo w4 ∧ w4.heap[wo.heap.size]? = some (.cells #[.int .i64 o.kind, .string ⟨o.nm.toArray⟩, .slice o.ba o.B.length o.bc, .int .i64 o.N, .int .i64 o.M] 52)) := ⟨hb4r, hq4⟩
      obtain ⟨e0, e1, e2, e3, e4⟩ := box5 hq4
      clear hq4 hb4 hb4r o0 o1 o2 o3 o4 z0 z1 z2 z3 z4 k0 k1 k2 k3 k4 hV hV2 s0 s1 s2
      obtain ⟨u, hu⟩ : ∃ u, lenX xs = u := ⟨_, rfl⟩
      have HU : Hid (lenX xs = u) := hu
      rw [hu]
      clear hu
      go_wp2_with fail
      have HOI : Hid (OpIn w4 o) := by
        have hbb : Below w.heap.size w w4 := HR.out.2.2.2.2.2.2.trans (HR4.out.1.mono HR.out.2.2.2.2.2.2.size)
        have hoo := HR.out.2.2.2.2.2.1
        exact ⟨hoo.row.below hbb, hoo.nm, hoo.N, hoo.M, hoo.B⟩
      refine (does_all (HR.out.1.below HR4.out.1) hS.out.2.1 (by have := HOPS.out.2.2.1; omega) o HOI.out).mono ?_
      rintro e w5 ⟨E, N, M, a1, n1, c1, a2, n2, c2, dn, rfl, hEN, hnx⟩
      have hIS := inv_does HR.out.1 hS.out.2.1 o HOI.out.N HOI.out.M
      have hLS := limit_does S o
      have hAP := (inv_app HR.out.1 hS.out.2.1 o.nm o.B).2
      obtain ⟨xs', ck', hD5, hC5, hbk5⟩ := hnx
      have hszr := HR4.out.1.size
      have hq5 : w5.heap[wo.heap.size]? = some (.cells #[.int .i64 o.kind, .string ⟨o.nm.toArray⟩, .slice o.ba o.B.length o.bc, .int .i64 o.N, .int .i64 o.M] 52) := hC5.block HR4.out.2 (fun hg => by have := HR.out.1.lt hg; omega)
      obtain ⟨V5, hV5⟩ : ∃ V5, w5.alloc (.cells #[.int .i64 0, .int .i64 0, .int .i64 0, .slice none 0 0, .slice none 0 0, .bool false] 55) = V5 := ⟨_, rfl⟩
      have hV5b : Below w5.heap.size w5 V5 := by rw [← hV5]; exact (Below.refl _ _).alloc (Nat.le_refl _) _
      have hV5h : V5.heap[w5.heap.size]? = some (.cells #[.int .i64 0, .int .i64 0, .int .i64 0, .slice none 0 0, .slice none 0 0, .bool false] 55) := by rw [← hV5]; exact (MapKept.heap_alloc w5 _).1
      obtain ⟨V6, hV6, hh6, hC6⟩ := set6 hV5h (.int .i64 E) (.int .i64 N) (.int .i64 M) (.slice a1 n1 c1) (.slice a2 n2 c2) (.bool dn)
      obtain ⟨y0, y1, y2, y3, y4, y5⟩ := box6 hV5h
      have k0 := Lib.frozen_of_heap hV5h 0
      have k1 := Lib.frozen_of_heap hV5h 1
      have k2 := Lib.frozen_of_heap hV5h 2
      have k3 := Lib.frozen_of_heap hV5h 3
      have k4 := Lib.frozen_of_heap hV5h 4
      have k5 := Lib.frozen_of_heap hV5h 5
      have hb6 : Below w5.heap.size w5 V6 := hV5b.trans (hC6.below (fun q e => by omega) hV5b.size)
      have hbW5 : DS W0.heap.size W0 w5 p (doesS S o) := by
        refine ds_next (xs := xs) (W := w4) (b := b) (Nat.le_refl _) HR.out.2.1 (HR.out.2.2.1.trans (HR4.out.1.mono HR.out.2.2.1.size)) hD5 hC5 hbk5
      have hxn : ∀ x ∈ xs', x.nm.length ≤ 281474976710656 := fun x hx => by
        have := hIS.nms x.fl (by rw [hD5.fs]; exact List.mem_map.2 ⟨x, hx, rfl⟩)
        have e : x.fl.nm = x.nm := rfl
        rw [e] at this
        omega
      have hxc : xs'.length ≤ 2199023255552 := by
        have h1 := hIS.cnt
        rw [hD5.fs, List.length_map] at h1
        have := HOPS.out.2.2.1
        omega
      have HFC : Hid (Calls Try.prog 18 #[.pointer (some ⟨p, 0, none⟩)] V6 fun e w' => FilesP V6 xs' e w') := files_any (hD5.below hb6) (hIS.ok.len hD5) hxc hxn
      have HR6 : Hid (DiskAt w5 p b (doesS S o) xs' ck' ∧ Below w5.heap.size w5 V6 ∧ V6.heap[w5.heap.size]? = some (.cells #[.int .i64 E, .int .i64 N, .int .i64 M, .slice a1 n1 c1, .slice a2 n2 c2, .bool dn] 55) ∧ w5.heap[wo.heap.size]? = some (.cells #[.int .i64 o.kind, .string ⟨o.nm.toArray⟩, .slice o.ba o.B.length o.bc, .int .i64 o.N, .int .i64 o.M] 52) ∧ DS W0.heap.size W0 w5 p (doesS S o) ∧ Inv (doesS S o) (i + 1) ∧ (doesS S o).limit = l0) := ⟨hD5, hb6, hh6, hq5, hbW5, hIS, hLS.trans hS.out.2.2⟩
      have HEN : Hid (o.kind = 1 → (E = 111 → lenX xs' = l0 ∧ (lenX xs' : Int) = (u : Int) + N ∧ N < (o.B.length : Int)) ∧ (E = 0 → lenX xs' = u + o.B.length ∧ N = (o.B.length : Int)) ∧ 0 ≤ N ∧ N ≤ 1099511627776) := by
        intro hk
        obtain ⟨rfl, rfl⟩ := hEN hk
        have e1 : doesS S o = (appC S o.nm o.B).1 := by unfold doesS; rw [if_pos hk]
        have e2 : lenX xs' = used (appC S o.nm o.B).1.fs := by rw [hD5.used, e1]
        have e3 : used S.fs = u := by rw [← HR.out.1.used]; exact HU.out
        rw [e2]
        rw [e3, hS.out.2.2] at hAP
        exact ⟨hAP.1, hAP.2.1, hAP.2.2⟩
      have HLX : Hid (lenX xs' ≤ l0 ∧ u ≤ 1099511627776 ∧ l0 ≤ 1099511627776) := by
        refine ⟨?_, ?_, HOPS.out.2.2.2⟩
        · rw [hD5.used, ← hS.out.2.2, ← hLS]; exact hIS.ok.use
        · rw [← HU.out]; exact hS.out.2.1.ok.len HR.out.1
      clear hEN hAP hIS hLS hD5 hC5 hbk5 hszr hq5 hV5b hV5h hh6 hC6 hb6 hbW5 hxn hxc
      go_wp2_with fail
      refine HFC.out.mono ?_
      rintro e w7 ⟨g7, cap7, zs, rfl, hpm, _, hrw7, hfo, _, hb7, _⟩
      have hb57 : Below w5.heap.size w5 w7 := HR6.out.2.1.trans (hb7.mono HR6.out.2.1.size)
      have hq7 : w7.heap[wo.heap.size]? = some (.cells #[.int .i64 o.kind, .string ⟨o.nm.toArray⟩, .slice o.ba o.B.length o.bc, .int .i64 o.N, .int .i64 o.M] 52) := (hb57.block _ (Array.getElem?_eq_some_iff.1 HR6.out.2.2.2.1).1).trans HR6.out.2.2.2.1
      have hA7 : w7.heap[w5.heap.size]? = some (.cells #[.int .i64 E, .int .i64 N, .int .i64 M, .slice a1 n1 c1, .slice a2 n2 c2, .bool dn] 55) := (hb7.block _ (Array.getElem?_eq_some_iff.1 HR6.out.2.2.1).1).trans HR6.out.2.2.1
      have HR7 : Hid (Below w5.heap.size w5 w7 ∧ w7.heap[wo.heap.size]? = some (.cells #[.int .i64 o.kind, .string ⟨o.nm.toArray⟩, .slice o.ba o.B.length o.bc, .int .i64 o.N, .int .i64 o.M] 52) ∧ w7.heap[w5.heap.size]? = some (.cells #[.int .i64 E, .int .i64 N, .int .i64 M, .slice a1 n1 c1, .slice a2 n2 c2, .bool dn] 55) ∧ (zs.map (·.2)).Perm xs' ∧ Rw fvV 3 w7 (some ⟨g7, 0, none⟩) zs.length cap7 (zs.map (·.1)) ∧ (∀ z ∈ zs, FvOk w7 V6.heap.size z.1 z.2)) := ⟨hb57, hq7, hA7, hpm, hrw7, hfo⟩
      have hzl : (zs.length : Int) ≤ 2199023255552 := by
        have h1 := hpm.length_eq
        rw [List.length_map] at h1
        have h2 := HR6.out.2.2.2.2.2.1.cnt
        rw [HR6.out.1.fs, List.length_map] at h2
        have := HOPS.out.2.2.1
        omega
      clear hb57 hq7 hA7 hpm hrw7 hfo hb7 hV5 hV6 y0 y1 y2 y3 y4 y5 k0 k1 k2 k3 k4 k5 HFC e0 e1 e2 e3 e4
      go_wp2_with fail
      go_loopw [9, 11] (fun vn vk wq => ∃ k : Nat, k ≤ zs.length ∧ vk = .int .i64 (k : Int) ∧ vn = .int .i64 (sumZ zs k : Int) ∧ wq = w7) (fun _ vk _ => zs.length - (RowKit.intOf vk).toNat)
      case atStart => exact ⟨0, Nat.zero_le _, rfl, by simp [sumZ, lenX], rfl⟩
      case round =>
        obtain ⟨k, hk, rfl, rfl, hwq⟩ := hrel
        subst hwq
        by_cases hkl : k < zs.length
        · have hkl2 : (k : Int) < (zs.length : Int) := by omega
          obtain ⟨g9, off9, fv, hg9, _, hfv, hc9⟩ := HR7.out.2.2.2.2.1.at k hkl
          simp only [Option.some.injEq, Addr.mk.injEq, and_true] at hg9
          obtain ⟨rfl, rfl⟩ := hg9
          obtain ⟨z, hz, rfl⟩ : ∃ z, zs[k]? = some z ∧ z.1 = fv := by
            rw [List.getElem?_map] at hfv
            obtain ⟨z, h1, h2⟩ := Option.map_eq_some_iff.1 hfv
            exact ⟨z, h1, h2⟩
          have f1 := hc9 1 _ rfl
          rw [Nat.zero_add] at f1
          have hzn : z.1.n = z.2.bs.length := ((HR7.out.2.2.2.2.2 z (List.mem_of_getElem? hz)).own.rw_ layU).len.symm
          rw [hzn] at f1
          have hss := sumZ_succ zs k z hz
          have hle : sumZ zs (k + 1) ≤ lenX xs' := by
            rw [← lenX_perm HR7.out.2.2.2.1]
            unfold sumZ
            conv => rhs; rw [← List.take_append_drop (k + 1) (zs.map (·.2)), lenX_append]
            omega
          have hlx := HLX.out
          have g0 : IntKind.i64.wrap ((sumZ zs k : Int) + (z.2.bs.length : Int)) = ((sumZ zs (k + 1) : Nat) : Int) := by rw [IntWalk.i64_in _ (by omega), hss]; omega
          have g1 : IntKind.i64.wrap ((k : Int) + 1) = ((k + 1 : Nat) : Int) := by rw [IntWalk.i64_in _ (by omega)]; omega
          clear hc9 hfv hzn hss hle hlx hz
          go_wp2_with fail
          go_roundw
          case rel => exact ⟨k + 1, by omega, by first | rfl | go_num, rfl, by first | rfl | trivial⟩
          case measure => simp [RowKit.intOf]; omega
        · obtain rfl : k = zs.length := by omega
          have hkl2 : ¬ ((zs.length : Int) < (zs.length : Int)) := by omega
          have hsum : sumZ zs zs.length = lenX xs' := by
            unfold sumZ
            rw [List.take_of_length_le (by rw [List.length_map]; omega)]
            exact lenX_perm HR7.out.2.2.2.1
          rw [hsum]
          obtain ⟨n, hn⟩ : ∃ n, lenX xs' = n := ⟨_, rfl⟩
          have HNN : Hid (lenX xs' = n) := hn
          have HUS : Hid (Calls Try.prog 23 #[.pointer (some ⟨p, 0, none⟩)] wr fun e w' => e = .returned (.int .i64 (n : Int)) ∧ Below wr.heap.size wr w') := by
            rw [← hn]
            exact used_any (HR6.out.1.below HR7.out.1) (HR6.out.2.2.2.2.2.1.ok.len HR6.out.1)
          have HEN2 : Hid (o.kind = 1 → (E = 111 → n = l0 ∧ (n : Int) = (u : Int) + N ∧ N < (o.B.length : Int)) ∧ (E = 0 → n = u + o.B.length ∧ N = (o.B.length : Int)) ∧ 0 ≤ N ∧ N ≤ 1099511627776) := by rw [← hn]; exact HEN.out
          have HLX2 : Hid (n ≤ l0 ∧ u ≤ 1099511627776 ∧ l0 ≤ 1099511627776) := by rw [← hn]; exact HLX.out
          rw [hn]
          clear hn hsum HEN HLX
          go_wp2_with fail
          refine HUS.out.mono ?_
          rintro e w8 ⟨rfl, hb8⟩
          have hb58 : Below w5.heap.size w5 w8 := HR7.out.1.trans (hb8.mono HR7.out.1.size)
          have hq8 : w8.heap[wo.heap.size]? = some (.cells #[.int .i64 o.kind, .string ⟨o.nm.toArray⟩, .slice o.ba o.B.length o.bc, .int .i64 o.N, .int .i64 o.M] 52) := (hb8.block _ (Array.getElem?_eq_some_iff.1 HR7.out.2.1).1).trans HR7.out.2.1
          have hA8 : w8.heap[w5.heap.size]? = some (.cells #[.int .i64 E, .int .i64 N, .int .i64 M, .slice a1 n1 c1, .slice a2 n2 c2, .bool dn] 55) := (hb8.block _ (Array.getElem?_eq_some_iff.1 HR7.out.2.2.1).1).trans HR7.out.2.2.1
          have hDS8 : DS W0.heap.size W0 w8 p (doesS S o) := HR6.out.2.2.2.2.1.grow (Nat.le_refl _) hb58
          obtain ⟨s0, s1, s2⟩ := box3 ((hDS8.below.block _ HW.out.2.1).trans HW.out.1)
          obtain ⟨e0, e1, e2, e3, e4⟩ := box5 hq8
          obtain ⟨y0, y1, y2, y3, y4, y5⟩ := box6 hA8
          have HFIN : Hid (DS W0.heap.size W0 w8 p (doesS S o) ∧ Inv (doesS S o) (i + 1) ∧ (doesS S o).limit = l0) := ⟨hDS8, HR6.out.2.2.2.2.2.1, HR6.out.2.2.2.2.2.2⟩
          have q1 : ((n : Int) != (n : Int)) = false := bne_self_eq_false _
          have q2 : ¬ ((l0 : Int) < (n : Int)) := by have := HLX2.out.1; omega
          have gi : IntKind.i64.wrap ((i : Int) + 1) = ((i + 1 : Nat) : Int) := by rw [IntWalk.i64_in _ (by omega)]; omega
          clear hb8 hb58 hq8 hA8 hDS8 HUS hkl2 hkl hk
          by_cases hk1 : o.kind = 1
          · have t1 : (o.kind == 1) = true := beq_iff_eq.2 hk1
            obtain ⟨hE1, hE0, hN0, hN1⟩ := HEN2.out hk1
            by_cases hE : E = 111
            · obtain ⟨r1, r2, r3⟩ := hE1 hE
              have t2 : (E == 111) = true := beq_iff_eq.2 hE
              have t3 : (E == 0) = false := beq_eq_false_iff_ne.2 (by omega)
              have t4 : ((n : Int) != (l0 : Int)) = false := by rw [r1]; exact bne_self_eq_false _
              have t5 : IntKind.i64.wrap ((u : Int) + N) = (n : Int) := by rw [IntWalk.i64_in _ (by have := HLX2.out; omega)]; omega
              have t6 : ¬ ((o.B.length : Int) ≤ N) := by omega
              clear hE1 hE0 hE hk1 r1 r2 r3 hN0 hN1
              go_wp2_with fail
              go_roundw
              case rel => exact ⟨i + 1, by omega, by first | rfl | go_num, doesS S o, HFIN.out⟩
              case measure => simp [RowKit.intOf]; omega
            · have t2 : (E == 111) = false := beq_eq_false_iff_ne.2 hE
              by_cases hZ : E = 0
              · obtain ⟨r1, r2⟩ := hE0 hZ
                have t3 : (E == 0) = true := beq_iff_eq.2 hZ
                have t5 : IntKind.i64.wrap ((u : Int) + (o.B.length : Int)) = (n : Int) := by rw [IntWalk.i64_in _ (by have := HLX2.out; omega)]; omega
                have t6 : (N != (o.B.length : Int)) = false := by rw [r2]; exact bne_self_eq_false _
                clear hE1 hE0 hE hk1 r1 r2 hN0 hN1 hZ
                go_wp2_with fail
                go_roundw
                case rel => exact ⟨i + 1, by omega, by first | rfl | go_num, doesS S o, HFIN.out⟩
                case measure => simp [RowKit.intOf]; omega
              · have t3 : (E == 0) = false := beq_eq_false_iff_ne.2 hZ
                clear hE1 hE0 hE hk1 hN0 hN1 hZ
                go_wp2_with fail
                go_roundw
                case rel => exact ⟨i + 1, by omega, by first | rfl | go_num, doesS S o, HFIN.out⟩
                case measure => simp [RowKit.intOf]; omega
          · have t1 : (o.kind == 1) = false := beq_eq_false_iff_ne.2 hk1
            clear hk1
            go_wp2_with fail
            go_roundw
            case rel => exact ⟨i + 1, by omega, by first | rfl | go_num, doesS S o, HFIN.out⟩
            case measure => simp [RowKit.intOf]; omega
    · obtain rfl : i = on := by omega
      have hlt2 : ¬ ((i : Int) < (i : Int)) := by omega
      go_wp2_with fail
      refine (awake_any _).mono ?_
      rintro e w2 ⟨rfl, hb2⟩
      have HB2 : Hid (Below w.heap.size w w2) := (HW.out.2.2 _ hbr).trans (hb2.mono (HW.out.2.2 _ hbr).size)
      clear hb2
      go_wp2_with fail
      go_ret
      exact ⟨rfl, HB2.out⟩
end Go.Proofs.Yteidmfmkdmggoaa
