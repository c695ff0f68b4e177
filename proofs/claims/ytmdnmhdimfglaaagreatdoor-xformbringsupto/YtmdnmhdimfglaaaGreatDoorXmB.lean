import Derived.Test.YtmdnmhdimfglaaaGreatDoorGr13
namespace Go.Proofs.YtmdnmhdimfglaaaGreatDoor
open Go.RowKit Go.Lib
set_option maxRecDepth 100000
def AnsB (w : World) (q : List OpV × Int) (e : Ending) (w' : World) : Prop := ∃ a1 n1 c1, e = .returned (.tuple #[.slice a1 n1 c1, .int .i64 q.2]) ∧ RunIn w' a1 n1 c1 q.1 ∧ Below w.heap.size w w'
structure MemB (w : World) (a1 : Option Addr) (n c1 : Nat) (W : World) (LM : List OpM) : Prop where
  own : OwnF opF 9 34 W w.heap.size (.slice a1 n c1) LM
  rd : ∀ x ∈ LM, Rdy W x ∧ Apt a1 x
  bel : Below w.heap.size w W
theorem MemB.below {w : World} {a1 : Option Addr} {n c1 : Nat} {W W' : World} {LM : List OpM} (h : MemB w a1 n c1 W LM) (hb : Below W.heap.size W W') : MemB w a1 n c1 W' LM :=
  ⟨h.own.below hb, fun x hx => ⟨(h.rd x hx).1.below hb, (h.rd x hx).2⟩, h.bel.trans (hb.mono h.bel.size)⟩
theorem memb_step {w wr w5 : World} {g n c1 i : Nat} {LM : List OpM} {x y : OpM} {o1 o2 : OpV} {va : Option Addr} {vm vc : Nat} {ua : Option Addr} {um uc : Nat} (hM : MemB w (some ⟨g, 0, none⟩) n c1 wr LM) (hx : LM[i]? = some x) (hy : LM[i + 1]? = some y) (hb : Below wr.heap.size wr w5)
    (hs1 : Src (.slice y.2.1 y.2.2.1 y.2.2.2) y.1.l wr w5 (.slice va vm vc) o1.l) (hs2 : Src (.slice x.2.1 x.2.2.1 x.2.2.2) x.1.l wr w5 (.slice ua um uc) o2.l) (q1 : o1.l.length ≤ 1000000000 ∧ o1.s.size ≤ 281474976710656) (q2 : o2.l.length ≤ 1000000000 ∧ o2.s.size ≤ 281474976710656) :
    ∃ W9 W8, (((((((((w5.setCell ⟨g, i * 9, none⟩ (.int .i64 o1.c)).setCell ⟨g, i * 9 + 1, none⟩ (.int .i64 o1.n)).setCell ⟨g, i * 9 + 2, none⟩ (.int .i64 o1.k)).setCell ⟨g, i * 9 + 3, none⟩ (.int .i64 o1.p)).setCell ⟨g, i * 9 + 4, none⟩ (.string o1.s)).setCell ⟨g, i * 9 + 5, none⟩ (.slice va vm vc)).setCell ⟨g, i * 9 + 6, none⟩ (.int .i64 o1.tc)).setCell ⟨g, i * 9 + 7, none⟩ (.int .i64 o1.tn)).setCell ⟨g, i * 9 + 8, none⟩ (.bool o1.on)) = W9 ∧ (((((((((W9.setCell ⟨g, (i + 1) * 9, none⟩ (.int .i64 o2.c)).setCell ⟨g, (i + 1) * 9 + 1, none⟩ (.int .i64 o2.n)).setCell ⟨g, (i + 1) * 9 + 2, none⟩ (.int .i64 o2.k)).setCell ⟨g, (i + 1) * 9 + 3, none⟩ (.int .i64 o2.p)).setCell ⟨g, (i + 1) * 9 + 4, none⟩ (.string o2.s)).setCell ⟨g, (i + 1) * 9 + 5, none⟩ (.slice ua um uc)).setCell ⟨g, (i + 1) * 9 + 6, none⟩ (.int .i64 o2.tc)).setCell ⟨g, (i + 1) * 9 + 7, none⟩ (.int .i64 o2.tn)).setCell ⟨g, (i + 1) * 9 + 8, none⟩ (.bool o2.on)) = W8 ∧ MemB w (some ⟨g, 0, none⟩) n c1 W8 ((LM.set i (o1, (va, vm, vc))).set (i + 1) (o2, (ua, um, uc))) ∧ (w5.cell? ⟨g, i * 9, none⟩ = some (.int .i64 x.1.c) ∧ w5.cell? ⟨g, i * 9 + 1, none⟩ = some (.int .i64 x.1.n) ∧ w5.cell? ⟨g, i * 9 + 2, none⟩ = some (.int .i64 x.1.k) ∧ w5.cell? ⟨g, i * 9 + 3, none⟩ = some (.int .i64 x.1.p) ∧ w5.cell? ⟨g, i * 9 + 4, none⟩ = some (.string x.1.s) ∧ w5.cell? ⟨g, i * 9 + 5, none⟩ = some (.slice x.2.1 x.2.2.1 x.2.2.2) ∧ w5.cell? ⟨g, i * 9 + 6, none⟩ = some (.int .i64 x.1.tc) ∧ w5.cell? ⟨g, i * 9 + 7, none⟩ = some (.int .i64 x.1.tn) ∧ w5.cell? ⟨g, i * 9 + 8, none⟩ = some (.bool x.1.on)) ∧ (w5.frozen? ⟨g, i * 9, none⟩ = false ∧ w5.frozen? ⟨g, i * 9 + 1, none⟩ = false ∧ w5.frozen? ⟨g, i * 9 + 2, none⟩ = false ∧ w5.frozen? ⟨g, i * 9 + 3, none⟩ = false ∧ w5.frozen? ⟨g, i * 9 + 4, none⟩ = false ∧ w5.frozen? ⟨g, i * 9 + 5, none⟩ = false ∧ w5.frozen? ⟨g, i * 9 + 6, none⟩ = false ∧ w5.frozen? ⟨g, i * 9 + 7, none⟩ = false ∧ w5.frozen? ⟨g, i * 9 + 8, none⟩ = false) ∧ (W9.cell? ⟨g, (i + 1) * 9, none⟩ = some (.int .i64 y.1.c) ∧ W9.cell? ⟨g, (i + 1) * 9 + 1, none⟩ = some (.int .i64 y.1.n) ∧ W9.cell? ⟨g, (i + 1) * 9 + 2, none⟩ = some (.int .i64 y.1.k) ∧ W9.cell? ⟨g, (i + 1) * 9 + 3, none⟩ = some (.int .i64 y.1.p) ∧ W9.cell? ⟨g, (i + 1) * 9 + 4, none⟩ = some (.string y.1.s) ∧ W9.cell? ⟨g, (i + 1) * 9 + 5, none⟩ = some (.slice y.2.1 y.2.2.1 y.2.2.2) ∧ W9.cell? ⟨g, (i + 1) * 9 + 6, none⟩ = some (.int .i64 y.1.tc) ∧ W9.cell? ⟨g, (i + 1) * 9 + 7, none⟩ = some (.int .i64 y.1.tn) ∧ W9.cell? ⟨g, (i + 1) * 9 + 8, none⟩ = some (.bool y.1.on)) ∧ (W9.frozen? ⟨g, (i + 1) * 9, none⟩ = false ∧ W9.frozen? ⟨g, (i + 1) * 9 + 1, none⟩ = false ∧ W9.frozen? ⟨g, (i + 1) * 9 + 2, none⟩ = false ∧ W9.frozen? ⟨g, (i + 1) * 9 + 3, none⟩ = false ∧ W9.frozen? ⟨g, (i + 1) * 9 + 4, none⟩ = false ∧ W9.frozen? ⟨g, (i + 1) * 9 + 5, none⟩ = false ∧ W9.frozen? ⟨g, (i + 1) * 9 + 6, none⟩ = false ∧ W9.frozen? ⟨g, (i + 1) * 9 + 7, none⟩ = false ∧ W9.frozen? ⟨g, (i + 1) * 9 + 8, none⟩ = false) := by
  have l1 := (hM.own.rw_ layO).len
  have hi : i + 1 < n := by have := (List.getElem?_eq_some_iff.1 hy).1; omega
  have hg1 : g < wr.heap.size := hM.own.lt rfl
  have bg1 : w.heap.size ≤ g := hM.own.ge rfl
  have f5 := hM.own.below hb
  obtain ⟨W9, e9, f9, k9, b9⟩ := f5.put i (by omega) (o1, (va, vm, vc))
  have A9 : Alt (some ⟨g, 0, none⟩) w5 W9 := Alt.of_but (b9.mono (Nat.zero_le _)) k9
  obtain ⟨W8, e8, f8, k8, b8⟩ := f9.put (i + 1) hi (o2, (ua, um, uc))
  have A8 : Alt (some ⟨g, 0, none⟩) W9 W8 := Alt.of_but (b8.mono (Nat.zero_le _)) k8
  have up : ∀ z : OpM, Rdy w5 z ∧ Apt (some ⟨g, 0, none⟩) z → Rdy W8 z ∧ Apt (some ⟨g, 0, none⟩) z := fun z hz => ⟨(hz.1.alt A9 hz.2).alt A8 hz.2, hz.2⟩
  have hrx := hM.rd x (List.mem_of_getElem? hx)
  have hry := hM.rd y (List.mem_of_getElem? hy)
  have r1 := src_rdy hb ⟨hry.1, hry.2, hry.2⟩ hg1 hg1 hs1 q1.1 q1.2
  have r2 := src_rdy hb ⟨hrx.1, hrx.2, hrx.2⟩ hg1 hg1 hs2 q2.1 q2.2
  have hy9 : (LM.set i (o1, (va, vm, vc)))[i + 1]? = some y := by rw [List.getElem?_set_ne (by omega)]; exact hy
  refine ⟨W9, W8, e9, e8, ⟨f8, fun z hz => up z ?_, (hM.bel.trans (hb.mono hM.bel.size)).trans ((b9.mono bg1).trans (b8.mono bg1))⟩, cells_of f5 hx, ⟨f5.fz _, f5.fz _, f5.fz _, f5.fz _, f5.fz _, f5.fz _, f5.fz _, f5.fz _, f5.fz _⟩, cells_of f9 hy9, ⟨f9.fz _, f9.fz _, f9.fz _, f9.fz _, f9.fz _, f9.fz _, f9.fz _, f9.fz _, f9.fz _⟩⟩
  rcases List.mem_or_eq_of_mem_set hz with hz | rfl
  · rcases List.mem_or_eq_of_mem_set hz with hz | rfl
    · exact ⟨(hM.rd z hz).1.below hb, (hM.rd z hz).2⟩
    · exact ⟨r1.1, r1.2.1⟩
  · exact ⟨r2.1, r2.2.1⟩
set_option maxHeartbeats 4000000 in
theorem bring_err1 {w : World} {a : Option Addr} {n cap : Nat} {Bf : Nat} {L : List OpM} (hL : OwnF opF 9 34 w Bf (.slice a n cap) L) (rL : ∀ x ∈ L, Rdy w x) (hw : Bar w) {fr tt_ : Int} (he : errs L ≠ 0) : Calls Tryz.prog 9 #[.slice a n cap, .int .i64 fr, .int .i64 tt_] w fun e w' => AnsB w ([], errs L) e w' := by
  have HE1 : Hid (∀ W, Below w.heap.size w W → Calls Tryz.prog 10 #[.slice a n cap] W fun e w' => e = .returned (.int .i64 (errs L)) ∧ Below W.heap.size W w') := fun W hb => ownErrors_any ((hL.rw_ layO).below hb) ((okOps_of rL).below hb) (hw.below hb)
  unfold AnsB
  simp only
  generalize errs L = z at *
  clear hL rL hw
  have t1 : (z == 0) = false := beq_eq_false_iff_ne.2 he
  have t2 : (z != 0) = true := by simp [bne, t1]
  have t3 : decide (z = 0) = false := decide_eq_false he
  go_enter Tryz.func9, Tryz.ntmps9
  go_wp2_with fail
  refine (HE1.out _ (Below.refl _ _)).mono ?_
  rintro e w1 ⟨rfl, b1⟩
  clear HE1
  go_wp2_with fail
  refine bodyPost_ret (v := .tuple #[.slice none 0 0, .int .i64 z]) (by simp [results, Tryz.results9, go_sem]) rfl ⟨none, 0, 0, rfl, runIn_nil _, b1⟩
set_option maxHeartbeats 4000000 in
theorem bring_err2 {w : World} {a : Option Addr} {n cap : Nat} {Bf : Nat} {L : List OpM} (hL : OwnF opF 9 34 w Bf (.slice a n cap) L) (rL : ∀ x ∈ L, Rdy w x) (hw : Bar w) {fr tt_ : Int} (h0 : errs L = 0) (he : fr < 0 ∨ (n : Int) ≤ fr ∨ tt_ < 0 ∨ (n : Int) ≤ tt_) : Calls Tryz.prog 9 #[.slice a n cap, .int .i64 fr, .int .i64 tt_] w fun e w' => AnsB w ([], 12) e w' := by
  have HE1 : Hid (∀ W, Below w.heap.size w W → Calls Tryz.prog 10 #[.slice a n cap] W fun e w' => e = .returned (.int .i64 (errs L)) ∧ Below W.heap.size W w') := fun W hb => ownErrors_any ((hL.rw_ layO).below hb) ((okOps_of rL).below hb) (hw.below hb)
  rw [h0] at HE1
  unfold AnsB
  simp only
  clear hL rL hw h0
  have HEE : Hid (fr < 0 ∨ (n : Int) ≤ fr ∨ tt_ < 0 ∨ (n : Int) ≤ tt_) := he
  clear he
  go_enter Tryz.func9, Tryz.ntmps9
  go_wp2_with fail
  refine (HE1.out _ (Below.refl _ _)).mono ?_
  rintro e w1 ⟨rfl, b1⟩
  clear HE1
  by_cases c1 : fr < 0
  · clear HEE
    go_wp2_with fail
    refine bodyPost_ret (v := .tuple #[.slice none 0 0, .int .i64 12]) (by simp [results, Tryz.results9, go_sem]) rfl ⟨none, 0, 0, rfl, runIn_nil _, b1⟩
  · have d1 : decide (fr < 0) = false := decide_eq_false c1
    by_cases c2 : (n : Int) ≤ fr
    · clear HEE
      go_wp2_with fail
      refine bodyPost_ret (v := .tuple #[.slice none 0 0, .int .i64 12]) (by simp [results, Tryz.results9, go_sem]) rfl ⟨none, 0, 0, rfl, runIn_nil _, b1⟩
    · have d2 : decide ((n : Int) ≤ fr) = false := decide_eq_false c2
      by_cases c3 : tt_ < 0
      · clear HEE
        go_wp2_with fail
        refine bodyPost_ret (v := .tuple #[.slice none 0 0, .int .i64 12]) (by simp [results, Tryz.results9, go_sem]) rfl ⟨none, 0, 0, rfl, runIn_nil _, b1⟩
      · have d3 : decide (tt_ < 0) = false := decide_eq_false c3
        have c4 : (n : Int) ≤ tt_ := by have := HEE.out; omega
        clear HEE
        go_wp2_with fail
        refine bodyPost_ret (v := .tuple #[.slice none 0 0, .int .i64 12]) (by simp [results, Tryz.results9, go_sem]) rfl ⟨none, 0, 0, rfl, runIn_nil _, b1⟩
set_option maxHeartbeats 32000000 in
theorem bring_run {w : World} {a : Option Addr} {n cap : Nat} {Bf : Nat} {L : List OpM} (hL : OwnF opF 9 34 w Bf (.slice a n cap) L) (rL : ∀ x ∈ L, Rdy w x) (hw : Bar w) {f0 t : Nat} (hn : n ≤ 1048576) (h0 : errs L = 0) (hf : f0 < n) (ht : t < n) : Calls Tryz.prog 9 #[.slice a n cap, .int .i64 (f0 : Int), .int .i64 (t : Int)] w fun e w' => AnsB w (bringR t (brD f0 t) (L.map (·.1)) f0) e w' := by
  have HE1 : Hid (∀ W, Below w.heap.size w W → Calls Tryz.prog 10 #[.slice a n cap] W fun e w' => e = .returned (.int .i64 (errs L)) ∧ Below W.heap.size W w') := fun W hb => ownErrors_any ((hL.rw_ layO).below hb) ((okOps_of rL).below hb) (hw.below hb)
  rw [h0] at HE1
  have ln := (hL.rw_ layO).len
  have HCL : Hid (∀ W, Below w.heap.size w W → Calls Tryz.prog 11 #[.slice a n cap] W fun e w' => ∃ a' cap', e = .returned (.slice a' n cap') ∧ OwnF opF 9 34 w' W.heap.size (.slice a' n cap') L ∧ Below W.heap.size W w') := fun W hb => cloneOps_any (hL.below hb) hn
  have HBar : Hid (∀ W, Below w.heap.size w W → Bar W) := fun W hb => hw.below hb
  have HRL : Hid (∀ x ∈ L, Rdy w x) := rL
  have HS0 : Hid (BrS (bringR t (brD f0 t) (L.map (·.1)) f0) n t f0 (L.map (·.1))) := ⟨by rw [List.length_map]; exact ln, hf, ht, firstErr_all (show firstErr (L.map (·.1)) = 0 from h0), rfl⟩
  generalize bringR t (brD f0 t) (L.map (·.1)) f0 = fin at *
  have HCM : Hid (∀ W, Calls Tryz.prog 15 #[.int .i64 (t : Int), .int .i64 (f0 : Int)] W fun e w' => e = .returned (.int .i64 (cmpV (t : Int) (f0 : Int))) ∧ w' = W) := fun W => compare_any _ _ W
  obtain ⟨s, hs⟩ : ∃ s, cmpV (t : Int) (f0 : Int) = s := ⟨_, rfl⟩
  rw [hs] at HCM
  have HSG : Hid ((s = -1 ∧ t ≤ f0) ∨ (s = 1 ∧ f0 ≤ t) ∨ (s = 0 ∧ f0 = t)) := by
    unfold cmpV at hs
    split at hs
    · exact .inl ⟨hs.symm, by omega⟩
    · split at hs
      · exact .inr (.inl ⟨hs.symm, by omega⟩)
      · exact .inr (.inr ⟨hs.symm, by omega⟩)
  have hs1 : -1 ≤ s := by have := HSG.out; omega
  have hs2 : s ≤ 1 := by have := HSG.out; omega
  clear hs hL rL hw h0 ln
  unfold AnsB
  have d1 : decide ((f0 : Int) < 0) = false := decide_eq_false (by omega)
  have d2 : decide ((n : Int) ≤ (f0 : Int)) = false := decide_eq_false (by omega)
  have d3 : decide ((t : Int) < 0) = false := decide_eq_false (by omega)
  have d4 : decide ((n : Int) ≤ (t : Int)) = false := decide_eq_false (by omega)
  go_enter Tryz.func9, Tryz.ntmps9
  go_wp2_with fail
  refine (HE1.out _ (Below.refl _ _)).mono ?_
  rintro e w1 ⟨rfl, b1⟩
  go_wp2_with fail
  refine (HCL.out _ b1).mono ?_
  rintro e w3 ⟨a1, c1, rfl, ho1, h3⟩
  have b3 := b1.trans (h3.mono b1.size)
  have HM0 : Hid (MemB w a1 n c1 w3 L) := by
    refine ⟨ho1.mono b1.size, fun x hx => ⟨(HRL.out x hx).below b3, rng_apt (HRL.out x hx).rng (fun ad e => ?_)⟩, b3⟩
    subst e
    have h1 : w1.heap.size ≤ ad.block := ho1.ge rfl
    have := b1.size
    omega
  clear ho1 b1 b3 h3 HE1 HCL HRL d1 d2 d3 d4
  go_wp2_with fail
  refine (HCM.out _).mono ?_
  rintro e w4 ⟨rfl, rfl⟩
  clear HCM
  go_wp2_with fail
  go_loopw [1] (fun v1 W => ∃ (f : Nat) (LM : List OpM), v1 = .int .i64 (f : Int) ∧ f < n ∧ Hid (BrS fin n t f (LM.map (·.1)) ∧ ((s = -1 ∧ t ≤ f) ∨ (s = 1 ∧ f ≤ t) ∨ (s = 0 ∧ f = t))) ∧ Hid (MemB w a1 n c1 W LM)) (fun v1 _ => brD (RowKit.intOf v1).toNat t)
  case atStart => exact ⟨f0, L, rfl, hf, ⟨HS0.out, HSG.out⟩, HM0⟩
  case round =>
    clear HS0 HM0 HSG
    obtain ⟨f, LM, rfl, hfn, HS, HM⟩ := hrel
    by_cases hne : f = t
    · subst hne
      obtain rfl := brs_end HS.out.1
      have hM := HM.out
      have e1 : ((f : Int) != (f : Int)) = false := by simp
      have HA1 : Hid (Calls Tryz.prog 13 #[.slice a1 n c1] wr fun e w' => ∃ L', e = .returned (.slice a1 n c1) ∧ OwnF opF 9 34 w' w.heap.size (.slice a1 n c1) L' ∧ L'.map (·.1) = LM.map (·.1) ∧ OwnRs w' wr.heap.size L' ∧ Alt a1 wr w') := allApart_any hM.own hM.rd
      have HG1 : Hid (∀ ad, a1 = some ad → w.heap.size ≤ ad.block) := fun ad e => by
        subst e
        exact hM.own.ge rfl
      have HRD : Hid (∀ x ∈ LM, Rdy wr x) := fun x hx => (hM.rd x hx).1
      have hbw := hM.bel
      clear hM HM HS
      go_wp2_with fail
      refine HA1.out.mono ?_
      rintro e w5 ⟨L1, rfl, ho1, hl1, hr1, hA1⟩
      have hB5 : Below w.heap.size w w5 := hbw.trans (hA1.below hbw.size HG1.out)
      have HR1 : Hid (RunIn w5 a1 n c1 (LM.map (·.1))) := ⟨L1, hl1, ⟨_, ho1⟩, fun x hx => by
        have h1 : x.1 ∈ LM.map (·.1) := by rw [← hl1]; exact List.mem_map_of_mem hx
        obtain ⟨y, hy, e1⟩ := List.mem_map.1 h1
        exact ⟨rng_of_rw ((hr1 x hx).rw_ layG), by rw [← e1]; exact (HRD.out y hy).few, by rw [← e1]; exact (HRD.out y hy).size⟩⟩
      clear ho1 hl1 hr1 hA1 HA1 HG1 HRD
      go_wp2_with fail
      refine bodyPost_ret (v := .tuple #[.slice a1 n c1, .int .i64 0]) (by simp [results, Tryz.results9, go_sem]) rfl ⟨_, _, _, rfl, HR1.out, hB5⟩
    · have e1 : ((f : Int) == (t : Int)) = false := beq_eq_false_iff_ne.2 (by omega)
      have e2 : ((f : Int) != (t : Int)) = true := by simp [bne, e1]
      have hM := HM.out
      obtain ⟨hbs, hsg⟩ := HS.out
      have hi1 := brs_at hbs hne
      have lL : LM.length = n := (hM.own.rw_ layO).len
      obtain ⟨g, cc1, q1, _⟩ := hM.own.ptr (by omega)
      simp only [Value.slice.injEq] at q1
      obtain ⟨rfl, en1, rfl⟩ := q1
      clear en1
      have hsum : (f : Int) + s = (brF f t : Int) := by unfold brF; split <;> omega
      have hmin : min (f : Int) (brF f t : Int) = (brI f t : Int) := by unfold brF brI; split <;> omega
      have hdd : brD (brF f t) t < brD f t := by unfold brD brF; split <;> omega
      have hff : brF f t < n := by unfold brF; split <;> omega
      have hsg2 : (s = -1 ∧ t ≤ brF f t) ∨ (s = 1 ∧ brF f t ≤ t) ∨ (s = 0 ∧ brF f t = t) := by unfold brF; split <;> omega
      obtain ⟨x, hx⟩ : ∃ x, LM[brI f t]? = some x := ⟨_, List.getElem?_eq_getElem (by omega)⟩
      obtain ⟨y, hy⟩ : ∃ y, LM[brI f t + 1]? = some y := ⟨_, List.getElem?_eq_getElem (by omega)⟩
      have hxm : (LM.map (·.1))[brI f t]? = some x.1 := by rw [List.getElem?_map, hx]; rfl
      have hym : (LM.map (·.1))[brI f t + 1]? = some y.1 := by rw [List.getElem?_map, hy]; rfl
      obtain ⟨nb, ng⟩ := brs_next hbs hne hxm hym
      have ox : Right x.1 := hbs.rt _ (List.mem_of_getElem? hxm)
      have oy : Right y.1 := hbs.rt _ (List.mem_of_getElem? hym)
      have HS3 : Hid ((transP x.1 y.1).2 = 0 → ∀ (va : Option Addr) (vm vc : Nat) (ua : Option Addr) (um uc : Nat), BrS fin n t (brF f t) (((LM.set (brI f t) ((transP x.1 y.1).1.1, (va, vm, vc))).set (brI f t + 1) ((transP x.1 y.1).1.2, (ua, um, uc))).map (·.1))) := fun e va vm vc ua um uc => by rw [List.map_set, List.map_set]; exact ng e
      have HS5 : Hid ((transP x.1 y.1).2 ≠ 0 → fin = ([], (transP x.1 y.1).2)) := nb
      have rx := (hM.rd x (List.mem_of_getElem? hx)).1
      have ry := (hM.rd y (List.mem_of_getElem? hy)).1
      have HX : Hid (∀ W, Below wr.heap.size wr W → Calls Tryz.prog 16 #[opVal x.1 (.slice x.2.1 x.2.2.1 x.2.2.2), opVal y.1 (.slice y.2.1 y.2.2.1 y.2.2.2)] W fun e w' => ∃ va vm vc ua um uc, e = .returned (.tuple #[opVal (transP x.1 y.1).1.1 (.slice va vm vc), opVal (transP x.1 y.1).1.2 (.slice ua um uc), .int .i64 (transP x.1 y.1).2]) ∧ Src (.slice y.2.1 y.2.2.1 y.2.2.2) y.1.l W w' (.slice va vm vc) (transP x.1 y.1).1.1.l ∧ Src (.slice x.2.1 x.2.2.1 x.2.2.2) x.1.l W w' (.slice ua um uc) (transP x.1 y.1).1.2.l ∧ Below W.heap.size W w') := fun W hb => transposed_any (rx.rng.below hb) (ry.rng.below hb) (by have := rx.size; omega) (by have := ry.size; omega) (HBar.out W (hM.bel.trans (hb.mono hM.bel.size))) ox oy
      have hfx : (transP x.1 y.1).1.1.l.length ≤ 1000000000 ∧ (transP x.1 y.1).1.1.s.size ≤ 281474976710656 := by
        have := (transP_few ox oy).1
        have := (transP_s x.1 y.1).1
        have := rx.size
        have := ry.size
        omega
      have hfy : (transP x.1 y.1).1.2.l.length ≤ 1000000000 ∧ (transP x.1 y.1).1.2.s.size ≤ 281474976710656 := by
        have := (transP_few ox oy).2
        have := (transP_s x.1 y.1).2
        have := rx.size
        have := ry.size
        omega
      have HST : Hid (∀ (w5 : World) (va : Option Addr) (vm vc : Nat) (ua : Option Addr) (um uc : Nat), Below wr.heap.size wr w5 → Src (.slice y.2.1 y.2.2.1 y.2.2.2) y.1.l wr w5 (.slice va vm vc) (transP x.1 y.1).1.1.l → Src (.slice x.2.1 x.2.2.1 x.2.2.2) x.1.l wr w5 (.slice ua um uc) (transP x.1 y.1).1.2.l → _) := fun w5 va vm vc ua um uc hb s1 s2 => memb_step (o1 := (transP x.1 y.1).1.1) (o2 := (transP x.1 y.1).1.2) hM hx hy hb s1 s2 hfx hfy
      obtain ⟨p0, p1, p2, p3, p4, p5, p6, p7, p8⟩ := cells_of hM.own hx
      obtain ⟨q0, q1, q2, q3, q4, q5, q6, q7, q8⟩ := cells_of hM.own hy
      have HSG2 : Hid ((s = -1 ∧ t ≤ brF f t) ∨ (s = 1 ∧ brF f t ≤ t) ∨ (s = 0 ∧ brF f t = t)) := hsg2
      have HDD : Hid (brD (brF f t) t < brD f t) := hdd
      clear hsg hsg2 hdd HS hbs nb ng hxm hym hM HM lL ox oy rx ry hfx hfy hx hy hne
      generalize brF f t = nf at *
      generalize brI f t = bi at *
      generalize (transP x.1 y.1).1.1 = o1 at *
      generalize (transP x.1 y.1).1.2 = o2 at *
      generalize (transP x.1 y.1).2 = z at *
      have HSUM : Hid ((f : Int) + s = (nf : Int)) := hsum
      have hw1 : IntKind.i64.wrap ((f : Int) + s) = (nf : Int) := by rw [hsum]; exact IntWalk.i64_in _ (by omega)
      have hw2 : IntKind.i64.wrap ((bi : Int) + 1) = (bi : Int) + 1 := IntWalk.i64_in _ (by omega)
      have hmn : ∀ ats ty (w : World), (Builtin.min_ ats ty #[.int .i64 (f : Int), .int .i64 (nf : Int)]).run Tryz.prog w = .ok (.int .i64 (bi : Int)) w := fun ats ty w => by rw [min_run, hmin]
      have hmn2 : ∀ ats ty (w : World), (Builtin.min_ ats ty #[.int .i64 (f : Int), .int .i64 ((f : Int) + s)]).run Tryz.prog w = .ok (.int .i64 (bi : Int)) w := fun ats ty w => by rw [hsum]; exact hmn ats ty w
      clear hsum hmin
      obtain ⟨⟨xc, xn, xk, xp, xs, xl, xtc, xtn, xon⟩, xa, xm, xcap⟩ := x
      obtain ⟨⟨yc, yn, yk, yp, ys, yl, ytc, ytn, yon⟩, ya_, ym_, ycap⟩ := y
      obtain ⟨c3, n3, k3, p3, s3, l3, tc3, tn3, on3⟩ := o1
      obtain ⟨c4, n4, k4, p4, s4, l4, tc4, tn4, on4⟩ := o2
      simp only [opVal] at *
      go_upto_region 12 with fail
      go_cut [11] (fun v11 wx => v11 = .int .i64 z ∧ ∃ (LM' : List OpM), Hid ((z = 0 → BrS fin n t nf (LM'.map (·.1))) ∧ (z ≠ 0 → fin = ([], z))) ∧ Hid (MemB w (some ⟨g, 0, none⟩) n c1 wx LM'))
      case first =>
        go_region_with (go_at_call 16; refine (HX.out _ ?_).mono ?_; (first | exact Below.refl _ _ | exact (Below.refl _ _).drew); rintro e5 w5 ⟨va, vm, vc, ua, um, uc, rfl, hs1_, hs2_, hb5⟩; (have hb6 : Below wr.heap.size wr w5 := (by first | exact hb5 | exact (Below.refl _ _).drew.trans hb5)); obtain ⟨W9, W8, e9, e8, hM8, ⟨d0, d1, d2, d3, d4, d5, d6, d7, d8⟩, ⟨dz0, dz1, dz2, dz3, dz4, dz5, dz6, dz7, dz8⟩, ⟨h0, h1, h2, h3, h4, h5, h6, h7, h8⟩, ⟨hz0, hz1, hz2, hz3, hz4, hz5, hz6, hz7, hz8⟩⟩ := HST.out w5 va vm vc ua um uc hb6 hs1_ hs2_; (have HM8 : Hid (MemB w (some ⟨g, 0, none⟩) n c1 W8 _) := hM8); clear hM8; (try simp only at e9 e8 d0 d1 d2 d3 d4 d5 d6 d7 d8 h0 h1 h2 h3 h4 h5 h6 h7 h8))
        all_goals
          go_wp2_with fail
          try rw [e9]
          try rw [e8]
          go_meet
          case rel => exact ⟨rfl, _, ⟨fun e => HS3.out e va vm vc ua um uc, HS5.out⟩, HM8⟩
      case rest =>
        obtain ⟨rfl, LM', HS4, HM4⟩ := hcut
        clear HX HST HS3 HS5 p0 q0 p1 q1 p2 q2 p3 q3 p4 q4 p5 q5 p6 q6 p7 q7 p8 q8
        by_cases hz : z = 0
        · subst hz
          have HS6 : Hid (BrS fin n t nf (LM'.map (·.1)) ∧ ((s = -1 ∧ t ≤ nf) ∨ (s = 1 ∧ nf ≤ t) ∨ (s = 0 ∧ nf = t))) := ⟨HS4.out.1 rfl, HSG2.out⟩
          clear HS4 HSG2
          go_wp2_with fail
          go_roundw
          case rel => first | exact ⟨nf, LM', by first | rfl | rw [HSUM.out], hff, HS6, HM4⟩ | ((repeat apply Exists.intro); exact ⟨⟨nf, LM', by first | rfl | rw [HSUM.out], hff, HS6, HM4⟩, rfl⟩)
          case measure => (try rw [HSUM.out]); exact HDD.out
        · obtain rfl := HS4.out.2 hz
          have hbw := HM4.out.bel
          have t1 : (z == 0) = false := beq_eq_false_iff_ne.2 hz
          have t2 : (z != 0) = true := by simp [bne, t1]
          have t3 : decide (z = 0) = false := decide_eq_false hz
          clear HS4 HM4 HSG2
          go_wp2_with fail
          refine bodyPost_ret (v := .tuple #[.slice none 0 0, .int .i64 z]) (by simp [results, Tryz.results9, go_sem]) rfl ⟨none, 0, 0, rfl, runIn_nil _, hbw⟩
theorem Bring_any {w : World} {a : Option Addr} {n cap : Nat} {L : List OpV} (hL : RunIn w a n cap L) (hn : n ≤ 1048576) (hw : Bar w) (fr tt_ : Int) : Calls Tryz.prog 9 #[.slice a n cap, .int .i64 fr, .int .i64 tt_] w fun e w' => AnsB w (xBring L fr tt_) e w' := by
  obtain ⟨LM, rfl, ⟨Bf, oL⟩, rL⟩ := hL
  have ln := (oL.rw_ layO).len
  unfold xBring
  by_cases h1 : firstErr (LM.map (·.1)) ≠ 0
  · rw [if_pos h1]
    exact bring_err1 oL rL hw h1
  · rw [if_neg h1]
    have h1 := Classical.not_not.1 h1
    rw [List.length_map, ln]
    by_cases h2 : fr < 0 ∨ (n : Int) ≤ fr ∨ tt_ < 0 ∨ (n : Int) ≤ tt_
    · rw [if_pos h2]
      exact bring_err2 oL rL hw h1 h2
    · rw [if_neg h2]
      have e1 : fr = (fr.toNat : Int) := by omega
      have e2 : tt_ = (tt_.toNat : Int) := by omega
      have := bring_run (f0 := fr.toNat) (t := tt_.toNat) oL rL hw hn h1 (by omega) (by omega)
      rw [← e1, ← e2] at this
      exact this
end Go.Proofs.YtmdnmhdimfglaaaGreatDoor
