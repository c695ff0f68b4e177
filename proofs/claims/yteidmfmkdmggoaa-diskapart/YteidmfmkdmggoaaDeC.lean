import Derived.Test.YteidmfmkdmggoaaDeB
import Derived.Test.YteidmfmkdmggoaaDeW
/-! DiskApart. -/
namespace Go.Proofs.Yteidmfmkdmggoaa
open Go.RowKit Go.Lib Go.Sort Go.Shelf
set_option maxRecDepth 100000

def stN (S : Dk) (ops : List OpR) (j : Nat) : Dk := (ops.take j).foldl doesS S
theorem stN_succ {S : Dk} {ops : List OpR} {j : Nat} {o : OpR} (h : ops[j]? = some o) : stN S ops (j + 1) = doesS (stN S ops j) o := by
  unfold stN
  rw [List.take_add_one, h, List.foldl_append]
  rfl
theorem alike_k {W : World} {K1 K2 : Nat → Prop} {S : Dk} {o : OpR} {A1 A2 : An} (h1 : AnsK W K1 S o A1) (h2 : AnsK W K2 S o A2) (hn : (S.fs.map (·.nm)).Nodup) (hl : S.fs.length ≤ 2199023255552) :
    Calls Try.prog 25 #[.agg #[.int .i64 A1.E, .int .i64 A1.N, .int .i64 A1.M, .slice A1.a1 A1.n1 A1.c1, .slice A1.a2 A1.n2 A1.c2, .bool A1.dn], .agg #[.int .i64 A2.E, .int .i64 A2.N, .int .i64 A2.M, .slice A2.a1 A2.n1 A2.c1, .slice A2.a2 A2.n2 A2.c2, .bool A2.dn]] W fun e w' => e = .returned (.bool true) ∧ Below W.heap.size W w' := by
  obtain ⟨l1, vs1, p1, r1, f1, e1, g1, _⟩ := h1.files
  obtain ⟨l2, vs2, p2, r2, f2, e2, g2, _⟩ := h2.files
  have hll : l1 = l2 := by
    refine rise_unique (p1.trans p2.symm) ((p1.map _).nodup_iff.2 ?_) r1 r2
    unfold ansF
    split
    · exact hn
    · simp
  subst hll
  have hlen : l1.length ≤ 2199023255552 := by
    rw [p2.length_eq]
    unfold ansF
    split
    · exact hl
    · simp
  have := alike_eq A1.E A1.N A1.M A1.dn h1.bytes h2.bytes ⟨vs1, f1, e1, g1⟩ ⟨vs2, f2, e2, g2⟩ hlen
  rw [show A2.E = A1.E from h2.e.trans h1.e.symm, show A2.N = A1.N from h2.n.trans h1.n.symm, show A2.M = A1.M from h2.m.trans h1.m.symm, show A2.dn = A1.dn from h2.d.trans h1.d.symm]
  exact this
/-- what the first loop leaves at i -/
structure Ap1 (W0 W : World) (p q r l0 m0 : Nat) (ops : List OpR) (i : Nat) (v : Value) (As : List An) (Ps : List (Dk × OpR)) (col : Nat → Nat) : Prop where
  ap : Ap W0.heap.size W0 W p q r (stN ⟨l0, [], false, 0, 0⟩ ops i) ⟨l0, [], false, 0, 0⟩ ⟨m0, [], false, 0, 0⟩ v As Ps col
  la : As.length = i
  lp : Ps.length = i
  ps : ∀ j o, j < i → ops[j]? = some o → Ps[j]? = some (stN ⟨l0, [], false, 0, 0⟩ ops j, o)
  inv : Inv (stN ⟨l0, [], false, 0, 0⟩ ops i) i
set_option maxHeartbeats 16000000 in
theorem diskApart_good {w : World} (l0 : Nat) (hl0 : l0 ≤ 1099511627776) (m0 : Nat) (hm0 : m0 ≤ 1099511627776) (fa : Option Addr) (fl fc : Nat) {oa : Option Addr} {on oc : Nat} {ops : List OpR} (hops : Rw opV 5 w oa on oc ops) (hin : ∀ o ∈ ops, OpIn w o) (hon : on ≤ 2199023255551) (ga : Option Addr) (gl gc : Nat) {ta : Option Addr} {tn tc : Nat} {tps : List OpR} (htps : Rw opV 5 w ta tn tc tps) (htin : ∀ o ∈ tps, OpIn w o) (htn : tn ≤ 2199023255551) :
    Calls Try.prog 7 #[.agg #[.int .i64 (l0 : Int), .slice fa fl fc, .slice oa on oc], .agg #[.int .i64 (m0 : Int), .slice ga gl gc, .slice ta tn tc]] w fun e w' => e = .returned (.bool true) ∧ Below w.heap.size w w' := by
  have HNU : Hid (∀ x w, Calls Try.prog 10 #[.int .i64 x] w fun e w' => e = .returned (.int .i64 x) ∧ w' = w) := num_any
  obtain ⟨W1, hW1⟩ : ∃ W1, w.alloc (.cells #[.int .i64 (l0 : Int), .slice fa fl fc, .slice oa on oc] 50) = W1 := ⟨_, rfl⟩
  obtain ⟨W0, hW0⟩ : ∃ W0, W1.alloc (.cells #[.int .i64 (m0 : Int), .slice ga gl gc, .slice ta tn tc] 50) = W0 := ⟨_, rfl⟩
  have hs1 : W1.heap.size = w.heap.size + 1 := by rw [← hW1, World.size_alloc]
  have hs0 : W0.heap.size = w.heap.size + 2 := by rw [← hW0, World.size_alloc, hs1]
  have hb0 : Below w.heap.size w W0 := by rw [← hW0, ← hW1]; exact ((Below.refl _ _).alloc (Nat.le_refl _) _).alloc (by rw [World.size_alloc]; omega) _
  have hq1 : W1.heap[w.heap.size]? = some (.cells #[.int .i64 (l0 : Int), .slice fa fl fc, .slice oa on oc] 50) := by rw [← hW1]; exact (MapKept.heap_alloc w _).1
  have hq0 : W0.heap[w.heap.size]? = some (.cells #[.int .i64 (l0 : Int), .slice fa fl fc, .slice oa on oc] 50) := by rw [← hW0]; exact ((MapKept.heap_alloc W1 _).2 _ (by omega)).trans hq1
  have hqt : W0.heap[W1.heap.size]? = some (.cells #[.int .i64 (m0 : Int), .slice ga gl gc, .slice ta tn tc] 50) := by rw [← hW0]; exact (MapKept.heap_alloc W1 _).1
  have HW : Hid (W0.heap[w.heap.size]? = some (.cells #[.int .i64 (l0 : Int), .slice fa fl fc, .slice oa on oc] 50) ∧ W0.heap[W1.heap.size]? = some (.cells #[.int .i64 (m0 : Int), .slice ga gl gc, .slice ta tn tc] 50) ∧ w.heap.size < W0.heap.size ∧ W1.heap.size < W0.heap.size) := ⟨hq0, hqt, by omega, by omega⟩
  have HB0 : Hid (Below w.heap.size w W0) := hb0
  have HZ0 : Hid (Below W0.heap.size W0 W0) := Below.refl _ _
  obtain ⟨s0, s1, s2⟩ := box3 hq0
  obtain ⟨t0, t1, t2⟩ := box3 hqt
  have HOPS : Hid (Rw opV 5 w oa on oc ops ∧ (∀ o ∈ ops, OpIn w o) ∧ on ≤ 2199023255551) := ⟨hops, hin, hon⟩
  have HTPS : Hid (Rw opV 5 w ta tn tc tps ∧ (∀ o ∈ tps, OpIn w o) ∧ tn ≤ 2199023255551) := ⟨htps, htin, htn⟩
  have honc : (on : Int) ≤ 2199023255551 := by omega
  have htnc : (tn : Int) ≤ 2199023255551 := by omega
  have HI0 : Hid (Inv ⟨l0, [], false, 0, 0⟩ 0 ∧ Inv ⟨m0, [], false, 0, 0⟩ 0) := ⟨⟨⟨hl0, by simp [used], by simp, by simp⟩, by simp, by simp⟩, ⟨⟨hm0, by simp [used], by simp, by simp⟩, by simp, by simp⟩⟩
  have HL : Hid (l0 ≤ 1099511627776 ∧ m0 ≤ 1099511627776) := ⟨hl0, hm0⟩
  clear hs1 hs0 hb0 hq1 hq0 hqt hops hin hon htps htin htn hl0 hm0
  go_enter Try.func7, Try.ntmps7
  go_wp2_with fail
  refine (ds_new (Nat.le_refl _) (Below.refl _ _) l0 HL.out.1 (W0 := W0)).mono ?_
  rintro e w1 ⟨p, rfl, hd⟩
  have HD1 : Hid (DS W0.heap.size W0 w1 p ⟨l0, [], false, 0, 0⟩) := hd
  clear hd hW0 hW1
  clear s0 s1 s2 t0 t1 t2
  obtain ⟨s0, s1, s2⟩ := box3 ((HD1.out.below.block _ HW.out.2.2.1).trans HW.out.1)
  obtain ⟨t0, t1, t2⟩ := box3 ((HD1.out.below.block _ HW.out.2.2.2).trans HW.out.2.1)
  go_wp2_with fail
  refine (d2_new (Nat.le_refl _) HD1.out l0 HL.out.1).mono ?_
  rintro e w2 ⟨q, rfl, hd⟩
  have HD2 : Hid (D2 W0.heap.size W0 w2 p q ⟨l0, [], false, 0, 0⟩ ⟨l0, [], false, 0, 0⟩) := hd
  clear hd HD1
  clear s0 s1 s2 t0 t1 t2
  obtain ⟨s0, s1, s2⟩ := box3 ((HD2.out.below.block _ HW.out.2.2.1).trans HW.out.1)
  obtain ⟨t0, t1, t2⟩ := box3 ((HD2.out.below.block _ HW.out.2.2.2).trans HW.out.2.1)
  go_wp2_with fail
  refine (ap_new (Nat.le_refl _) HD2.out m0 HL.out.2).mono ?_
  rintro e w3 ⟨r, col3, rfl, hd⟩
  have HA4 : Hid (Ap W0.heap.size W0 w3 p q r ⟨l0, [], false, 0, 0⟩ ⟨l0, [], false, 0, 0⟩ ⟨m0, [], false, 0, 0⟩ (.slice none 0 0) [] [] col3) := hd
  clear hd HD2
  clear s0 s1 s2 t0 t1 t2
  obtain ⟨s0, s1, s2⟩ := box3 ((HA4.out.below.block _ HW.out.2.2.1).trans HW.out.1)
  obtain ⟨t0, t1, t2⟩ := box3 ((HA4.out.below.block _ HW.out.2.2.2).trans HW.out.2.1)
  go_wp2_with fail
  refine (HNU.out _ _).mono ?_
  rintro e wz ⟨rfl, hz⟩
  rw [hz]
  clear hz wz
  go_wp2_with fail
  refine (HNU.out _ _).mono ?_
  rintro e wz ⟨rfl, hz⟩
  rw [hz]
  clear hz wz
  go_wp2_with fail
  refine (HNU.out _ _).mono ?_
  rintro e wz ⟨rfl, hz⟩
  rw [hz]
  clear hz wz
  go_wp2_with fail
  clear s0 s1 s2 t0 t1 t2
  go_loopw [13, 14] (fun va vi wr => ∃ i : Nat, i ≤ on ∧ vi = .int .i64 (i : Int) ∧ ∃ (a : Option Addr) (cap : Nat) (As : List An) (Ps : List (Dk × OpR)) (col : Nat → Nat), va = .slice a i cap ∧ Hid (Ap1 W0 wr p q r l0 m0 ops i (.slice a i cap) As Ps col)) (fun _ vi _ => on - (RowKit.intOf vi).toNat)
  case atStart => exact ⟨0, Nat.zero_le _, rfl, none, 0, [], [], col3, rfl, HA4.out, rfl, rfl, fun j o h => by omega, HI0.out.1⟩
  case round =>
    obtain ⟨wo, hwo⟩ : ∃ wo, wo = wr := ⟨_, rfl⟩
    subst hwo
    obtain ⟨i, hi, rfl, a, cap, As, Ps, col, rfl, hS⟩ := hrel
    have hbr := hS.out.ap.below
    obtain ⟨s0, s1, s2⟩ := box3 ((hbr.block _ HW.out.2.2.1).trans HW.out.1)
    obtain ⟨t0, t1, t2⟩ := box3 ((hbr.block _ HW.out.2.2.2).trans HW.out.2.1)
    by_cases hlt : i < on
    · have hlt2 : (i : Int) < (on : Int) := by omega
      have hbw : Below w.heap.size w wo := HB0.out.trans (hbr.mono HB0.out.size)
      obtain ⟨g, off, o, hoa, hgl, hoi, hcell⟩ := (HOPS.out.1.below (hbw)).at i hlt
      subst hoa
      have o0 := hcell 0 _ rfl
      have o1 := hcell 1 _ rfl
      have o2 := hcell 2 _ rfl
      have o3 := hcell 3 _ rfl
      have o4 := hcell 4 _ rfl
      rw [Nat.add_zero] at o0
      clear hcell hgl
      have hoin := HOPS.out.2.1 o (List.mem_of_getElem? hoi)
      have gi : IntKind.i64.wrap ((i : Int) + 1) = ((i + 1 : Nat) : Int) := by rw [IntWalk.i64_in _ (by omega)]; omega
      have HO : Hid (ops[i]? = some o ∧ OpIn wo o) := ⟨hoi, hoin.row.below hbw, hoin.nm, hoin.N, hoin.M, hoin.B⟩
      clear hoi hoin
      go_wp2_with fail
      refine (ap_d hS.out.ap hS.out.inv (by omega) o HO.out.2).mono ?_
      rintro e w5 ⟨A, col5, rfl, hap5, hak5, hi5⟩
      unfold anA
      obtain ⟨V5, hV5⟩ : ∃ V5, w5.alloc (.cells #[.int .i64 0, .int .i64 0, .int .i64 0, .slice none 0 0, .slice none 0 0, .bool false] 55) = V5 := ⟨_, rfl⟩
      have hV5b : Below w5.heap.size w5 V5 := by rw [← hV5]; exact (Below.refl _ _).alloc (Nat.le_refl _) _
      have hV5h : V5.heap[w5.heap.size]? = some (.cells #[.int .i64 0, .int .i64 0, .int .i64 0, .slice none 0 0, .slice none 0 0, .bool false] 55) := by rw [← hV5]; exact (MapKept.heap_alloc w5 _).1
      obtain ⟨V6, hV6, hh6, hC6⟩ := set6 hV5h (.int .i64 A.E) (.int .i64 A.N) (.int .i64 A.M) (.slice A.a1 A.n1 A.c1) (.slice A.a2 A.n2 A.c2) (.bool A.dn)
      obtain ⟨y0, y1, y2, y3, y4, y5⟩ := box6 hV5h
      have k0 := Lib.frozen_of_heap hV5h 0
      have k1 := Lib.frozen_of_heap hV5h 1
      have k2 := Lib.frozen_of_heap hV5h 2
      have k3 := Lib.frozen_of_heap hV5h 3
      have k4 := Lib.frozen_of_heap hV5h 4
      have k5 := Lib.frozen_of_heap hV5h 5
      have hb6 : Below w5.heap.size w5 V6 := hV5b.trans (hC6.below (fun x e => by omega) hV5b.size)
      obtain ⟨r0, r1, r2, r3, r4, r5⟩ := box6 hh6
      have HA6 : Hid (Ap W0.heap.size W0 V6 p q r (doesS (stN ⟨l0, [], false, 0, 0⟩ ops i) o) ⟨l0, [], false, 0, 0⟩ ⟨m0, [], false, 0, 0⟩ (.slice a i cap) As Ps col5 ∧ AnsK V6 (fun g => col5 g = 4) (stN ⟨l0, [], false, 0, 0⟩ ops i) o A ∧ Inv (doesS (stN ⟨l0, [], false, 0, 0⟩ ops i) o) (i + 1)) := ⟨hap5.grow hb6, hak5.grow hb6, hi5⟩
      clear hap5 hak5 hi5 o0 o1 o2 o3 o4 s0 s1 s2 t0 t1 t2 hbr hbw
      obtain ⟨g8, cap8, w8, hr8, ho8, hb8, hk8, hs8, hat8⟩ := appendF_wide kindAn layAn HA6.out.1.own (Nat.le_trans HA6.out.1.base HA6.out.1.below.size) A (anA A) rfl 55 (by rw [hS.out.la]; omega) (by rw [hS.out.la]; omega) 61
      have HFIN : Hid (∃ col', Ap1 W0 w8 p q r l0 m0 ops (i + 1) (.slice (some ⟨g8, 0, none⟩) (i + 1) cap8) (As ++ [A]) (Ps ++ [(stN ⟨l0, [], false, 0, 0⟩ ops i, o)]) col') := by
        rw [hS.out.la] at ho8
        obtain ⟨col', hap⟩ := ap_app HA6.out.1 (hS.out.la.trans hS.out.lp.symm) (P := (stN ⟨l0, [], false, 0, 0⟩ ops i, o)) HA6.out.2.1 ho8 hb8 hk8 hat8
        have hst := stN_succ (S := ⟨l0, [], false, 0, 0⟩) HO.out.1
        refine ⟨col', by rw [hst]; exact hap, by rw [List.length_append, hS.out.la]; rfl, by rw [List.length_append, hS.out.lp]; rfl, fun j o' hj hoj => ?_, by rw [hst]; exact HA6.out.2.2⟩
        have hlp := hS.out.lp
        by_cases hji : j < i
        · rw [List.getElem?_append_left (by omega)]
          exact hS.out.ps j o' hji hoj
        · obtain rfl : j = i := by omega
          rw [HO.out.1] at hoj
          cases hoj
          rw [List.getElem?_append_right (by omega), hlp, Nat.sub_self]
          rfl
      unfold anA at hr8
      rw [hS.out.la] at hr8
      clear ho8 hb8 hk8 hs8 hat8 hV5b hV5h hh6 hC6 hb6
      go_wp2_with (at_builtin; refine wpList_append_hr rfl _ _ 61 rfl _ _ rfl rfl hr8 ?_)
      go_roundw
      case rel =>
        obtain ⟨col', hf⟩ := HFIN.out
        exact ⟨i + 1, by omega, by first | rfl | go_num, some ⟨g8, 0, none⟩, cap8, _, _, col', rfl, hf⟩
      case measure => simp [RowKit.intOf]; omega
    · obtain rfl : i = on := by omega
      have hlt2 : ¬ ((i : Int) < (i : Int)) := by omega
      go_wp2_with fail
      clear s0 s1 s2 t0 t1 t2 hbr
      go_loopw [16] (fun vi wr => ∃ j : Nat, j ≤ i ∧ vi = .int .i64 (j : Int) ∧ ∃ (U : Dk) (col2 : Nat → Nat), Hid (Ap W0.heap.size W0 wr p q r (stN ⟨l0, [], false, 0, 0⟩ ops i) (stN ⟨l0, [], false, 0, 0⟩ ops j) U (.slice a i cap) As Ps col2 ∧ Inv (stN ⟨l0, [], false, 0, 0⟩ ops j) j ∧ Inv U j)) (fun vi _ => i - (RowKit.intOf vi).toNat)
      case atStart => exact ⟨0, Nat.zero_le _, rfl, ⟨m0, [], false, 0, 0⟩, col, hS.out.ap, HI0.out.1, HI0.out.2⟩
      case round =>
        obtain ⟨wq, hwq⟩ : ∃ wq, wq = wr := ⟨_, rfl⟩
        subst hwq
        obtain ⟨j, hj, rfl, U, col2, hT⟩ := hrel
        by_cases hlt : j < i
        · have hlt3 : (j : Int) < (i : Int) := by omega
          have gi : IntKind.i64.wrap ((j : Int) + 1) = ((j + 1 : Nat) : Int) := by rw [IntWalk.i64_in _ (by omega)]; omega
          by_cases hltx : j < tn
          · have hlt4 : (j : Int) < (tn : Int) := by omega
            have hbq := hT.out.1.below
            have hbwq : Below w.heap.size w wq := HB0.out.trans (hbq.mono HB0.out.size)
            obtain ⟨s0, s1, s2⟩ := box3 ((hbq.block _ HW.out.2.2.1).trans HW.out.1)
            obtain ⟨t0, t1, t2⟩ := box3 ((hbq.block _ HW.out.2.2.2).trans HW.out.2.1)
            obtain ⟨gx, offx, ox, hoxa, hgxl, hoxi, hcellx⟩ := (HTPS.out.1.below (hbwq)).at j hltx
            subst hoxa
            have ox0 := hcellx 0 _ rfl
            have ox1 := hcellx 1 _ rfl
            have ox2 := hcellx 2 _ rfl
            have ox3 := hcellx 3 _ rfl
            have ox4 := hcellx 4 _ rfl
            rw [Nat.add_zero] at ox0
            clear hcellx hgxl
            have hoinx := HTPS.out.2.1 ox (List.mem_of_getElem? hoxi)
            have HOX : Hid (OpIn wq ox) := ⟨hoinx.row.below hbwq, hoinx.nm, hoinx.N, hoinx.M, hoinx.B⟩
            clear hoxi hoinx hbq hbwq
            go_wp2_with fail
            refine (ap_x hT.out.1 hT.out.2.2 (by omega) ox HOX.out).mono ?_
            rintro e w5 ⟨A5, col5, rfl, hap5, _, hi5⟩
            obtain ⟨U9, hU9⟩ : ∃ U9, doesS U ox = U9 := ⟨_, rfl⟩
            rw [hU9] at hap5 hi5
            have HX : Hid (Ap W0.heap.size W0 w5 p q r (stN ⟨l0, [], false, 0, 0⟩ ops i) (stN ⟨l0, [], false, 0, 0⟩ ops j) U9 (.slice a i cap) As Ps col5 ∧ Inv (stN ⟨l0, [], false, 0, 0⟩ ops j) j ∧ Inv U9 (j + 1)) := ⟨hap5, hT.out.2.1, hi5⟩
            clear hap5 hi5 hU9 ox0 ox1 ox2 ox3 ox4 s0 s1 s2 t0 t1 t2
            have hbX := HX.out.1.below
            obtain ⟨s0, s1, s2⟩ := box3 ((hbX.block _ HW.out.2.2.1).trans HW.out.1)
            obtain ⟨t0, t1, t2⟩ := box3 ((hbX.block _ HW.out.2.2.2).trans HW.out.2.1)
            have hbwX : Below w.heap.size w w5 := HB0.out.trans (hbX.mono HB0.out.size)
            obtain ⟨g, off, o, hoa, hgl, hoi, hcell⟩ := (HOPS.out.1.below (hbwX)).at j hlt
            subst hoa
            have o0 := hcell 0 _ rfl
            have o1 := hcell 1 _ rfl
            have o2 := hcell 2 _ rfl
            have o3 := hcell 3 _ rfl
            have o4 := hcell 4 _ rfl
            rw [Nat.add_zero] at o0
            clear hcell hgl
            have hoin := HOPS.out.2.1 o (List.mem_of_getElem? hoi)
            have HO : Hid (ops[j]? = some o ∧ OpIn w5 o) := ⟨hoi, hoin.row.below hbwX, hoin.nm, hoin.N, hoin.M, hoin.B⟩
            have HNO : Hid (((stN ⟨l0, [], false, 0, 0⟩ ops j).fs.map (·.nm)).Nodup) := HX.out.1.d2.swap.nodup
            clear hoi hoin hbX hbwX
            go_wp2_with fail
            refine (ap_c HX.out.1 HX.out.2.1 (by omega) o HO.out.2).mono ?_
            rintro e w7 ⟨A, col7, rfl, hap7, hak7, hi7⟩
            unfold anA
            obtain ⟨V7, hV7⟩ : ∃ V5, w7.alloc (.cells #[.int .i64 0, .int .i64 0, .int .i64 0, .slice none 0 0, .slice none 0 0, .bool false] 55) = V5 := ⟨_, rfl⟩
            have hV7b : Below w7.heap.size w7 V7 := by rw [← hV7]; exact (Below.refl _ _).alloc (Nat.le_refl _) _
            have hV7h : V7.heap[w7.heap.size]? = some (.cells #[.int .i64 0, .int .i64 0, .int .i64 0, .slice none 0 0, .slice none 0 0, .bool false] 55) := by rw [← hV7]; exact (MapKept.heap_alloc w7 _).1
            obtain ⟨V8, hV8, hh6, hC6⟩ := set6 hV7h (.int .i64 A.E) (.int .i64 A.N) (.int .i64 A.M) (.slice A.a1 A.n1 A.c1) (.slice A.a2 A.n2 A.c2) (.bool A.dn)
            obtain ⟨y0, y1, y2, y3, y4, y5⟩ := box6 hV7h
            have k0 := Lib.frozen_of_heap hV7h 0
            have k1 := Lib.frozen_of_heap hV7h 1
            have k2 := Lib.frozen_of_heap hV7h 2
            have k3 := Lib.frozen_of_heap hV7h 3
            have k4 := Lib.frozen_of_heap hV7h 4
            have k5 := Lib.frozen_of_heap hV7h 5
            have hb6 : Below w7.heap.size w7 V8 := hV7b.trans (hC6.below (fun x e => by omega) hV7b.size)
            obtain ⟨r0, r1, r2, r3, r4, r5⟩ := box6 hh6
            have hap8 := hap7.grow hb6
            have hak8 := hak7.grow hb6
            obtain ⟨ag, aoff, A0, ha0, hagl, hA0, hacell⟩ := (hap8.own.rw_ layAn).at j hlt
            subst ha0
            have q0 := hacell 0 _ rfl
            have q1 := hacell 1 _ rfl
            have q2 := hacell 2 _ rfl
            have q3 := hacell 3 _ rfl
            have q4 := hacell 4 _ rfl
            have q5 := hacell 5 _ rfl
            rw [Nat.add_zero] at q0
            obtain ⟨P, hP, hakP⟩ := hap8.ans j A0 hA0
            have hPe : P = (stN ⟨l0, [], false, 0, 0⟩ ops j, o) := by rw [hS.out.ps j o hlt HO.out.1] at hP; cases hP; rfl
            subst hPe
            have HCA : Hid (∀ W, Below V8.heap.size V8 W → Calls Try.prog 25 #[.agg #[.int .i64 A.E, .int .i64 A.N, .int .i64 A.M, .slice A.a1 A.n1 A.c1, .slice A.a2 A.n2 A.c2, .bool A.dn], .agg #[.int .i64 A0.E, .int .i64 A0.N, .int .i64 A0.M, .slice A0.a1 A0.n1 A0.c1, .slice A0.a2 A0.n2 A0.c2, .bool A0.dn]] W fun e w' => e = .returned (.bool true) ∧ Below W.heap.size W w') := fun W hb => alike_k (hak8.grow hb) (hakP.grow hb) HNO.out (Nat.le_trans HX.out.2.1.cnt (by omega))
            have HLT : Hid (w7.heap.size < V8.heap.size ∧ ag < V8.heap.size) := ⟨(Array.getElem?_eq_some_iff.1 hh6).1, hagl⟩
            have HA8 : Hid (Ap W0.heap.size W0 V8 p q r (stN ⟨l0, [], false, 0, 0⟩ ops i) (doesS (stN ⟨l0, [], false, 0, 0⟩ ops j) o) U9 (.slice (some ⟨ag, aoff, none⟩) i cap) As Ps col7 ∧ Inv (doesS (stN ⟨l0, [], false, 0, 0⟩ ops j) o) (j + 1)) := ⟨hap8, hi7⟩
            clear hap7 hak7 hi7 hap8 hak8 hP hakP hA0 hacell hagl hV7b hV7h hh6 hC6 hb6 o0 o1 o2 o3 o4 s0 s1 s2 t0 t1 t2
            go_wp2_with fail
            refine wp_region_held_drew (S := (fun W => (∀ i : Nat, W.cell? ⟨w7.heap.size, i, none⟩ = V8.cell? ⟨w7.heap.size, i, none⟩) ∧ ∀ i : Nat, W.cell? ⟨ag, i, none⟩ = V8.cell? ⟨ag, i, none⟩)) (by kernel_rfl) ?hS1 (fun hHeld => ?rest1)
            case hS1 => exact ⟨fun _ => rfl, fun _ => rfl⟩
            refine takeD (i := 0) (d := some 147) (v := ?vT2) rfl rfl (by kernel_rfl) (by kernel_rfl) (by kernel_rfl) (fun _ _ _ h => h) (Or.inl ⟨by rfl, ?hyT2⟩) (by assumption) ?rstT2
            case hyT2 => (intro w hSw; obtain ⟨hSa, hSb⟩ := hSw; go_simp; (try with_reducible rfl))
            try simp only [Act.put, List.setIfInBounds_toArray, List.set_cons_zero, List.set_cons_succ]
            refine takeD (i := 1) (d := some 148) (v := ?vT3) rfl rfl (by kernel_rfl) (by kernel_rfl) (by kernel_rfl) (fun _ _ _ h => h) (Or.inl ⟨by rfl, ?hyT3⟩) (by assumption) ?rstT3
            case hyT3 => (intro w hSw; obtain ⟨hSa, hSb⟩ := hSw; go_simp; (try with_reducible rfl))
            try simp only [Act.put, List.setIfInBounds_toArray, List.set_cons_zero, List.set_cons_succ]
            refine takeD (i := 2) (d := some 149) (v := ?vT4) rfl rfl (by kernel_rfl) (by kernel_rfl) (by kernel_rfl) (fun _ _ _ h => h) (Or.inl ⟨by rfl, ?hyT4⟩) (by assumption) ?rstT4
            case hyT4 => (intro w hSw; obtain ⟨hSa, hSb⟩ := hSw; go_simp; (try with_reducible rfl))
            try simp only [Act.put, List.setIfInBounds_toArray, List.set_cons_zero, List.set_cons_succ]
            refine takeD (i := 3) (d := some 150) (v := ?vT5) rfl rfl (by kernel_rfl) (by kernel_rfl) (by kernel_rfl) (fun _ _ _ h => h) (Or.inl ⟨by rfl, ?hyT5⟩) (by assumption) ?rstT5
            case hyT5 => (intro w hSw; obtain ⟨hSa, hSb⟩ := hSw; go_simp; (try with_reducible rfl))
            try simp only [Act.put, List.setIfInBounds_toArray, List.set_cons_zero, List.set_cons_succ]
            refine takeD (i := 4) (d := some 151) (v := ?vT6) rfl rfl (by kernel_rfl) (by kernel_rfl) (by kernel_rfl) (fun _ _ _ h => h) (Or.inl ⟨by rfl, ?hyT6⟩) (by assumption) ?rstT6
            case hyT6 => (intro w hSw; obtain ⟨hSa, hSb⟩ := hSw; go_simp; (try with_reducible rfl))
            try simp only [Act.put, List.setIfInBounds_toArray, List.set_cons_zero, List.set_cons_succ]
            refine wpAnyH_ready (rs := [5]) (by kernel_rfl) (by simp) ?_
            refine AllReadyH.cons rfl (fun K hK => ?_) AllReadyH.nil
            go_simp
            refine (HCA.out _ (below_drewN (Below.refl _ _) 1)).mono ?_
            rintro e w9 ⟨rfl, hb9⟩
            have hcur : Below V8.heap.size V8 w9 := (below_drewN (Below.refl _ _) 1).trans hb9
            clear hb9
            clear hHeld
            refine hK.out _ _ ?hS7 (fun hHeld => ?rest7)
            case hS7 => exact ⟨fun i => hcur.cell (p := ⟨w7.heap.size, i, none⟩) HLT.out.1, fun i => hcur.cell (p := ⟨ag, i, none⟩) HLT.out.2⟩
            clear hK K
            try simp only [Act.put, List.setIfInBounds_toArray, List.set_cons_zero, List.set_cons_succ]
            refine takeD (i := 6) (d := some 18) (v := ?vT8) rfl rfl (by kernel_rfl) (by kernel_rfl) (by kernel_rfl) (fun _ _ _ h => h) (Or.inl ⟨by rfl, ?hyT8⟩) (by assumption) ?rstT8
            case hyT8 => (intro w hSw; obtain ⟨hSa, hSb⟩ := hSw; go_simp; (try with_reducible rfl))
            try simp only [Act.put, List.setIfInBounds_toArray, List.set_cons_zero, List.set_cons_succ]
            refine wpAnyH_done (by kernel_rfl) ?_ _
            have HF : Hid (Ap W0.heap.size W0 w9 p q r (stN ⟨l0, [], false, 0, 0⟩ ops i) (stN ⟨l0, [], false, 0, 0⟩ ops (j + 1)) U9 (.slice (some ⟨ag, aoff, none⟩) i cap) As Ps col7 ∧ Inv (stN ⟨l0, [], false, 0, 0⟩ ops (j + 1)) (j + 1)) := by
              rw [stN_succ HO.out.1]
              exact ⟨HA8.out.1.grow hcur, HA8.out.2⟩
            clear hcur HCA hHeld
            go_wp2_with fail
            go_roundw
            case rel => exact ⟨j + 1, by omega, by first | rfl | go_num, U9, col7, HF.out.1, HF.out.2, HX.out.2.2⟩
            case measure => simp [RowKit.intOf]; omega
          · have hlt4 : ¬ ((j : Int) < (tn : Int)) := by omega
            obtain ⟨U9, hU9⟩ : ∃ U9, U = U9 := ⟨_, rfl⟩
            subst hU9
            have HX : Hid (Ap W0.heap.size W0 wq p q r (stN ⟨l0, [], false, 0, 0⟩ ops i) (stN ⟨l0, [], false, 0, 0⟩ ops j) U (.slice a i cap) As Ps col2 ∧ Inv (stN ⟨l0, [], false, 0, 0⟩ ops j) j ∧ Inv U (j + 1)) := ⟨hT.out.1, hT.out.2.1, hT.out.2.2.mono (Nat.le_succ _)⟩
            have hbX := HX.out.1.below
            obtain ⟨s0, s1, s2⟩ := box3 ((hbX.block _ HW.out.2.2.1).trans HW.out.1)
            obtain ⟨t0, t1, t2⟩ := box3 ((hbX.block _ HW.out.2.2.2).trans HW.out.2.1)
            have hbwX : Below w.heap.size w wq := HB0.out.trans (hbX.mono HB0.out.size)
            obtain ⟨g, off, o, hoa, hgl, hoi, hcell⟩ := (HOPS.out.1.below (hbwX)).at j hlt
            subst hoa
            have o0 := hcell 0 _ rfl
            have o1 := hcell 1 _ rfl
            have o2 := hcell 2 _ rfl
            have o3 := hcell 3 _ rfl
            have o4 := hcell 4 _ rfl
            rw [Nat.add_zero] at o0
            clear hcell hgl
            have hoin := HOPS.out.2.1 o (List.mem_of_getElem? hoi)
            have HO : Hid (ops[j]? = some o ∧ OpIn wq o) := ⟨hoi, hoin.row.below hbwX, hoin.nm, hoin.N, hoin.M, hoin.B⟩
            have HNO : Hid (((stN ⟨l0, [], false, 0, 0⟩ ops j).fs.map (·.nm)).Nodup) := HX.out.1.d2.swap.nodup
            clear hoi hoin hbX hbwX
            go_wp2_with fail
            refine (ap_c HX.out.1 HX.out.2.1 (by omega) o HO.out.2).mono ?_
            rintro e w7 ⟨A, col7, rfl, hap7, hak7, hi7⟩
            unfold anA
            obtain ⟨V7, hV7⟩ : ∃ V5, w7.alloc (.cells #[.int .i64 0, .int .i64 0, .int .i64 0, .slice none 0 0, .slice none 0 0, .bool false] 55) = V5 := ⟨_, rfl⟩
            have hV7b : Below w7.heap.size w7 V7 := by rw [← hV7]; exact (Below.refl _ _).alloc (Nat.le_refl _) _
            have hV7h : V7.heap[w7.heap.size]? = some (.cells #[.int .i64 0, .int .i64 0, .int .i64 0, .slice none 0 0, .slice none 0 0, .bool false] 55) := by rw [← hV7]; exact (MapKept.heap_alloc w7 _).1
            obtain ⟨V8, hV8, hh6, hC6⟩ := set6 hV7h (.int .i64 A.E) (.int .i64 A.N) (.int .i64 A.M) (.slice A.a1 A.n1 A.c1) (.slice A.a2 A.n2 A.c2) (.bool A.dn)
            obtain ⟨y0, y1, y2, y3, y4, y5⟩ := box6 hV7h
            have k0 := Lib.frozen_of_heap hV7h 0
            have k1 := Lib.frozen_of_heap hV7h 1
            have k2 := Lib.frozen_of_heap hV7h 2
            have k3 := Lib.frozen_of_heap hV7h 3
            have k4 := Lib.frozen_of_heap hV7h 4
            have k5 := Lib.frozen_of_heap hV7h 5
            have hb6 : Below w7.heap.size w7 V8 := hV7b.trans (hC6.below (fun x e => by omega) hV7b.size)
            obtain ⟨r0, r1, r2, r3, r4, r5⟩ := box6 hh6
            have hap8 := hap7.grow hb6
            have hak8 := hak7.grow hb6
            obtain ⟨ag, aoff, A0, ha0, hagl, hA0, hacell⟩ := (hap8.own.rw_ layAn).at j hlt
            subst ha0
            have q0 := hacell 0 _ rfl
            have q1 := hacell 1 _ rfl
            have q2 := hacell 2 _ rfl
            have q3 := hacell 3 _ rfl
            have q4 := hacell 4 _ rfl
            have q5 := hacell 5 _ rfl
            rw [Nat.add_zero] at q0
            obtain ⟨P, hP, hakP⟩ := hap8.ans j A0 hA0
            have hPe : P = (stN ⟨l0, [], false, 0, 0⟩ ops j, o) := by rw [hS.out.ps j o hlt HO.out.1] at hP; cases hP; rfl
            subst hPe
            have HCA : Hid (∀ W, Below V8.heap.size V8 W → Calls Try.prog 25 #[.agg #[.int .i64 A.E, .int .i64 A.N, .int .i64 A.M, .slice A.a1 A.n1 A.c1, .slice A.a2 A.n2 A.c2, .bool A.dn], .agg #[.int .i64 A0.E, .int .i64 A0.N, .int .i64 A0.M, .slice A0.a1 A0.n1 A0.c1, .slice A0.a2 A0.n2 A0.c2, .bool A0.dn]] W fun e w' => e = .returned (.bool true) ∧ Below W.heap.size W w') := fun W hb => alike_k (hak8.grow hb) (hakP.grow hb) HNO.out (Nat.le_trans HX.out.2.1.cnt (by omega))
            have HLT : Hid (w7.heap.size < V8.heap.size ∧ ag < V8.heap.size) := ⟨(Array.getElem?_eq_some_iff.1 hh6).1, hagl⟩
            have HA8 : Hid (Ap W0.heap.size W0 V8 p q r (stN ⟨l0, [], false, 0, 0⟩ ops i) (doesS (stN ⟨l0, [], false, 0, 0⟩ ops j) o) U (.slice (some ⟨ag, aoff, none⟩) i cap) As Ps col7 ∧ Inv (doesS (stN ⟨l0, [], false, 0, 0⟩ ops j) o) (j + 1)) := ⟨hap8, hi7⟩
            clear hap7 hak7 hi7 hap8 hak8 hP hakP hA0 hacell hagl hV7b hV7h hh6 hC6 hb6 o0 o1 o2 o3 o4 s0 s1 s2 t0 t1 t2
            go_wp2_with fail
            refine wp_region_held_drew (S := (fun W => (∀ i : Nat, W.cell? ⟨w7.heap.size, i, none⟩ = V8.cell? ⟨w7.heap.size, i, none⟩) ∧ ∀ i : Nat, W.cell? ⟨ag, i, none⟩ = V8.cell? ⟨ag, i, none⟩)) (by kernel_rfl) ?hS9 (fun hHeld => ?rest9)
            case hS9 => exact ⟨fun _ => rfl, fun _ => rfl⟩
            refine takeD (i := 0) (d := some 147) (v := ?vT10) rfl rfl (by kernel_rfl) (by kernel_rfl) (by kernel_rfl) (fun _ _ _ h => h) (Or.inl ⟨by rfl, ?hyT10⟩) (by assumption) ?rstT10
            case hyT10 => (intro w hSw; obtain ⟨hSa, hSb⟩ := hSw; go_simp; (try with_reducible rfl))
            try simp only [Act.put, List.setIfInBounds_toArray, List.set_cons_zero, List.set_cons_succ]
            refine takeD (i := 1) (d := some 148) (v := ?vT11) rfl rfl (by kernel_rfl) (by kernel_rfl) (by kernel_rfl) (fun _ _ _ h => h) (Or.inl ⟨by rfl, ?hyT11⟩) (by assumption) ?rstT11
            case hyT11 => (intro w hSw; obtain ⟨hSa, hSb⟩ := hSw; go_simp; (try with_reducible rfl))
            try simp only [Act.put, List.setIfInBounds_toArray, List.set_cons_zero, List.set_cons_succ]
            refine takeD (i := 2) (d := some 149) (v := ?vT12) rfl rfl (by kernel_rfl) (by kernel_rfl) (by kernel_rfl) (fun _ _ _ h => h) (Or.inl ⟨by rfl, ?hyT12⟩) (by assumption) ?rstT12
            case hyT12 => (intro w hSw; obtain ⟨hSa, hSb⟩ := hSw; go_simp; (try with_reducible rfl))
            try simp only [Act.put, List.setIfInBounds_toArray, List.set_cons_zero, List.set_cons_succ]
            refine takeD (i := 3) (d := some 150) (v := ?vT13) rfl rfl (by kernel_rfl) (by kernel_rfl) (by kernel_rfl) (fun _ _ _ h => h) (Or.inl ⟨by rfl, ?hyT13⟩) (by assumption) ?rstT13
            case hyT13 => (intro w hSw; obtain ⟨hSa, hSb⟩ := hSw; go_simp; (try with_reducible rfl))
            try simp only [Act.put, List.setIfInBounds_toArray, List.set_cons_zero, List.set_cons_succ]
            refine takeD (i := 4) (d := some 151) (v := ?vT14) rfl rfl (by kernel_rfl) (by kernel_rfl) (by kernel_rfl) (fun _ _ _ h => h) (Or.inl ⟨by rfl, ?hyT14⟩) (by assumption) ?rstT14
            case hyT14 => (intro w hSw; obtain ⟨hSa, hSb⟩ := hSw; go_simp; (try with_reducible rfl))
            try simp only [Act.put, List.setIfInBounds_toArray, List.set_cons_zero, List.set_cons_succ]
            refine wpAnyH_ready (rs := [5]) (by kernel_rfl) (by simp) ?_
            refine AllReadyH.cons rfl (fun K hK => ?_) AllReadyH.nil
            go_simp
            refine (HCA.out _ (below_drewN (Below.refl _ _) 1)).mono ?_
            rintro e w9 ⟨rfl, hb9⟩
            have hcur : Below V8.heap.size V8 w9 := (below_drewN (Below.refl _ _) 1).trans hb9
            clear hb9
            clear hHeld
            refine hK.out _ _ ?hS15 (fun hHeld => ?rest15)
            case hS15 => exact ⟨fun i => hcur.cell (p := ⟨w7.heap.size, i, none⟩) HLT.out.1, fun i => hcur.cell (p := ⟨ag, i, none⟩) HLT.out.2⟩
            clear hK K
            try simp only [Act.put, List.setIfInBounds_toArray, List.set_cons_zero, List.set_cons_succ]
            refine takeD (i := 6) (d := some 18) (v := ?vT16) rfl rfl (by kernel_rfl) (by kernel_rfl) (by kernel_rfl) (fun _ _ _ h => h) (Or.inl ⟨by rfl, ?hyT16⟩) (by assumption) ?rstT16
            case hyT16 => (intro w hSw; obtain ⟨hSa, hSb⟩ := hSw; go_simp; (try with_reducible rfl))
            try simp only [Act.put, List.setIfInBounds_toArray, List.set_cons_zero, List.set_cons_succ]
            refine wpAnyH_done (by kernel_rfl) ?_ _
            have HF : Hid (Ap W0.heap.size W0 w9 p q r (stN ⟨l0, [], false, 0, 0⟩ ops i) (stN ⟨l0, [], false, 0, 0⟩ ops (j + 1)) U (.slice (some ⟨ag, aoff, none⟩) i cap) As Ps col7 ∧ Inv (stN ⟨l0, [], false, 0, 0⟩ ops (j + 1)) (j + 1)) := by
              rw [stN_succ HO.out.1]
              exact ⟨HA8.out.1.grow hcur, HA8.out.2⟩
            clear hcur HCA hHeld
            go_wp2_with fail
            go_roundw
            case rel => exact ⟨j + 1, by omega, by first | rfl | go_num, U, col7, HF.out.1, HF.out.2, HX.out.2.2⟩
            case measure => simp [RowKit.intOf]; omega
        · obtain rfl : j = i := by omega
          have hlt3 : ¬ ((j : Int) < (j : Int)) := by omega
          have HLN : Hid ((stN ⟨l0, [], false, 0, 0⟩ ops j).fs.length ≤ 2199023255552) := Nat.le_trans hT.out.2.1.cnt (by omega)
          have HK : Hid (D2 W0.heap.size W0 wq p q (stN ⟨l0, [], false, 0, 0⟩ ops j) (stN ⟨l0, [], false, 0, 0⟩ ops j)) := hT.out.1.d2
          obtain ⟨s0, s1, s2⟩ := box3 ((hT.out.1.below.block _ HW.out.2.2.1).trans HW.out.1)
          obtain ⟨t0, t1, t2⟩ := box3 ((hT.out.1.below.block _ HW.out.2.2.2).trans HW.out.2.1)
          go_wp2_with fail
          refine (d2_files (Nat.le_refl _) HK.out hT.out.2.1 HLN.out).mono ?_
          rintro e wA ⟨xa, xn, xc, la, rfl, hpa, hra, hfa, hda⟩
          have HA : Hid (la.Perm (stN ⟨l0, [], false, 0, 0⟩ ops j).fs ∧ RiseF la ∧ FilesO wA wq.heap.size xa xn xc la ∧ D2 W0.heap.size W0 wA p q (stN ⟨l0, [], false, 0, 0⟩ ops j) (stN ⟨l0, [], false, 0, 0⟩ ops j)) := ⟨hpa, hra, hfa.1, hda⟩
          clear hpa hra hfa hda
          go_wp2_with fail
          refine (d2_files (Nat.le_refl _) HA.out.2.2.2.swap hT.out.2.1 HLN.out).mono ?_
          rintro e wB ⟨ya, yn, yc, lb, rfl, hpb, hrb, hfb, hdb⟩
          have hla : la = lb := by
            have hnd := HA.out.2.2.2.nodup
            refine rise_unique (HA.out.1.trans (show List.Perm (stN ⟨l0, [], false, 0, 0⟩ ops j).fs lb from hpb.symm)) ((HA.out.1.map _).nodup_iff.2 hnd) HA.out.2.1 hrb
          subst hla
          have HAB : Hid (FilesO wB wq.heap.size xa xn xc la) := by
            have hbAB : Below wA.heap.size wA wB := hfb.2
            exact HA.out.2.2.1.chg (D := fun _ => False) ⟨hbAB.mono (Nat.zero_le _), fun g hg _ => hbAB.block g hg⟩ (fun _ f => f.elim)
          have HBB : Hid (FilesO wB wA.heap.size ya yn yc la ∧ la.length ≤ 2199023255552 ∧ D2 W0.heap.size W0 wB q p (stN ⟨l0, [], false, 0, 0⟩ ops j) (stN ⟨l0, [], false, 0, 0⟩ ops j)) := ⟨hfb.1, by rw [HA.out.1.length_eq]; exact HLN.out, hdb⟩
          clear hpb hrb hfb hdb
          go_wp2_with fail
          refine (sameFiles_eq HAB.out.r HBB.out.1.r HBB.out.2.1).mono ?_
          rintro e wC ⟨rfl, hbC⟩
          have HC2 : Hid (D2 W0.heap.size W0 wC q p (stN ⟨l0, [], false, 0, 0⟩ ops j) (stN ⟨l0, [], false, 0, 0⟩ ops j)) := HBB.out.2.2.grow (Nat.le_refl _) hbC
          clear hbC HAB HBB HA
          go_wp2_with fail
          refine (awake_any _).mono ?_
          rintro e wV ⟨rfl, hb9⟩
          have HV : Hid (Below w.heap.size w wV) := (HB0.out.trans (HC2.out.below.mono HB0.out.size)).trans (hb9.mono (Nat.le_trans HB0.out.size HC2.out.below.size))
          clear hb9
          go_wp2_with fail
          go_ret
          exact ⟨rfl, HV.out⟩
end Go.Proofs.Yteidmfmkdmggoaa
